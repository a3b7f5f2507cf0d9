/-
  Texts put together for the claims of 'MostInPairs' (pack 5): MostPP, MostI, Some, MostM, MostS, LawMostInPairs, Head.
-/
import Derived.Test.YtkiobefojckocaaMostInPairsP1
import Derived.Test.YtkiobefojckocaaMostInPairsP2
import Derived.Test.YtkiobefojckocaaMostInPairsP4
import Derived.Deep.RegionHeld3
import Derived.Test.YtkiobefojckocaaRows
/-
  MOST IN PAIRS, pure: the greatest number of pairs, the program's first list of so many, the model's way: each pair in order if as many are left with it.
-/
namespace Go.Proofs.Ytkiobefojckocaa

/-- the most pairs out of those, of free people -/
def mx : PL → (Nat → Bool) → Nat
  | [], _ => 0
  | q :: ps, S => if hasQ S q then max (1 + mx ps (cutQ S q)) (mx ps S) else mx ps S
theorem mx_cons (q : Int × Int) (ps : PL) (S : Nat → Bool) (k : Nat) : k + 1 ≤ mx (q :: ps) S ↔ (hasQ S q = true ∧ k ≤ mx ps (cutQ S q)) ∨ k + 1 ≤ mx ps S := by
  rw [mx]
  by_cases h : hasQ S q = true
  · rw [if_pos h]
    simp only [h, true_and]
    omega
  · rw [if_neg h]
    simp [h]
theorem mP_mx : ∀ (ps : PL) (k : Nat) (told : PL) (S : Nat → Bool), mP ps k told S ≠ [] ↔ k ≤ mx ps S
  | [], 0, told, S => by simp [mP_zero]
  | [], k + 1, told, S => by simp [mP_nil, mx]
  | q :: ps, 0, told, S => by simp [mP_zero]
  | q :: ps, k + 1, told, S => by
    rw [mP_cons, mx_cons, ← mP_mx ps (k + 1) told S]
    by_cases h : hasQ S q = true
    · rw [if_pos h, ← mP_mx ps k (told ++ [q]) (cutQ S q)]
      simp only [h, true_and, ne_eq, List.append_eq_nil_iff]
      by_cases h1 : mP ps k (told ++ [q]) (cutQ S q) = []
      · simp [h1]
      · simp [h1]
    · rw [if_neg h]
      simp [h]
/-- the first list of so many pairs, or of fewer -/
def firstK (l : PL) (S : Nat → Bool) : Nat → PL
  | 0 => []
  | k + 1 => match mP l (k + 1) [] S with | [] => firstK l S k | q :: _ => q
theorem firstK_none {l : PL} {S : Nat → Bool} {k : Nat} (h : mP l (k + 1) [] S = []) : firstK l S (k + 1) = firstK l S k := by rw [firstK, h]
theorem firstK_some {l : PL} {S : Nat → Bool} {k : Nat} {q : PL} {L : List PL} (h : mP l (k + 1) [] S = q :: L) : firstK l S (k + 1) = q := by rw [firstK, h]
/-- each pair in order is taken if as many are left with it -/
def takeL : PL → Nat → (Nat → Bool) → PL → PL
  | [], _, _, out => out
  | q :: ps, left, S, out =>
    if left = 0 ∨ hasQ S q = false then takeL ps left S out
    else if 1 + mx ps (cutQ S q) = left then takeL ps (left - 1) (cutQ S q) (out ++ [q]) else takeL ps left S out
theorem takeL_zero : ∀ (ps : PL) (S : Nat → Bool) (out : PL), takeL ps 0 S out = out
  | [], _, _ => rfl
  | q :: ps, S, out => by rw [takeL, if_pos (.inl rfl)]; exact takeL_zero ps S out
theorem takeL_head : ∀ (ps : PL) (left : Nat) (S : Nat → Bool) (out : PL), mx ps S = left → (mP ps left out S).head? = some (takeL ps left S out)
  | ps, 0, S, out, _ => by rw [mP_zero, takeL_zero]; rfl
  | [], k + 1, S, out, h => by rw [mx] at h; omega
  | q :: ps, k + 1, S, out, h => by
    rw [mP_cons, takeL]
    have hmx := mx_cons q ps S
    by_cases hS : hasQ S q = true
    · rw [if_pos hS, if_neg (by simp [hS])]
      by_cases e : 1 + mx ps (cutQ S q) = k + 1
      · rw [if_pos e, Nat.add_sub_cancel, List.head?_append, takeL_head ps k (cutQ S q) (out ++ [q]) (by omega)]
        rfl
      · have h1 : mx ps (cutQ S q) < k := by
          have := (hmx (k + 1)).2 
          have h2 : ¬ (k + 1 + 1 ≤ mx (q :: ps) S) := by omega
          have h3 : ¬ (k + 1 ≤ mx ps (cutQ S q)) := fun h3 => h2 ((hmx (k + 1)).2 (.inl ⟨hS, h3⟩))
          omega
        have h2 : mP ps k (out ++ [q]) (cutQ S q) = [] := by
          by_cases h3 : mP ps k (out ++ [q]) (cutQ S q) = []
          · exact h3
          · have := (mP_mx ps k (out ++ [q]) (cutQ S q)).1 h3
            omega
        have h3 : mx ps S = k + 1 := by
          have ha := (hmx k).1 (by omega)
          have hb : ¬ (k + 1 + 1 ≤ mx ps S) := fun hb => by
            have := (hmx (k + 1)).2 (.inr hb)
            omega
          rcases ha with ⟨_, ha⟩ | ha <;> omega
        rw [if_neg e, h2, List.nil_append]
        exact takeL_head ps (k + 1) S out h3
    · have hS' : hasQ S q = false := by simpa using hS
      rw [if_neg hS, if_pos (.inr hS'), List.nil_append]
      refine takeL_head ps (k + 1) S out ?_
      rw [mx, if_neg hS] at h
      exact h
theorem firstK_mx (l : PL) (S : Nat → Bool) : ∀ K, mx l S ≤ K → firstK l S K = takeL l (mx l S) S []
  | 0, h => by rw [show mx l S = 0 by omega, takeL_zero]; rfl
  | K + 1, h => by
    by_cases e : mx l S = K + 1
    · have h1 := takeL_head l (K + 1) S [] e
      rw [e]
      cases hL : mP l (K + 1) [] S with
      | nil => rw [hL] at h1; cases h1
      | cons q L =>
        rw [hL] at h1
        rw [firstK_some hL]
        simpa using h1
    · have h1 : mP l (K + 1) [] S = [] := by
        by_cases h3 : mP l (K + 1) [] S = []
        · exact h3
        · have := (mP_mx l (K + 1) [] S).1 h3
          omega
      rw [firstK_none h1]
      exact firstK_mx l S K (by omega)
theorem mx_half {n : Nat} {l : PL} {S : Nat → Bool} (hf : FromQ n 0 l) : 2 * mx l S ≤ cntQ n S 0 := by
  by_cases h : cntQ n S 0 < 2 * mx l S
  · have h1 := mP_need (a := 0) l (mx l S) [] S (by simpa using hf) h
    exact absurd h1 ((mP_mx l (mx l S) [] S).2 (Nat.le_refl _))
  · omega
theorem takeL_len : ∀ (ps : PL) (left : Nat) (S : Nat → Bool) (out : PL), (takeL ps left S out).length ≤ out.length + ps.length
  | [], _, _, out => by simp [takeL]
  | q :: ps, left, S, out => by
    rw [takeL]
    have h1 := takeL_len ps left S out
    have h2 := takeL_len ps (left - 1) (cutQ S q) (out ++ [q])
    simp only [List.length_append, List.length_cons, List.length_nil] at h1 h2 ⊢
    split
    · omega
    · split <;> omega

/-! ## The model's number -/
/-- the most pairs that the free people from n - f on make -/
def moM (t : Nat → Nat → Bool) (n : Nat) : Nat → (Nat → Bool) → Nat
  | 0, _ => 0
  | f + 1, S => if S (n - (f + 1)) then ((List.range n).filter fun b => decide (n - (f + 1) < b) && t (n - (f + 1)) b && S b).foldl (fun m b => max m (1 + moM t n f (fun x => S x && !decide (x = b)))) (moM t n f S) else moM t n f S
theorem le_fold {α : Type} (g : α → Nat) (k : Nat) : ∀ (xs : List α) (m : Nat), k ≤ xs.foldl (fun m b => max m (g b)) m ↔ k ≤ m ∨ ∃ b ∈ xs, k ≤ g b
  | [], m => by simp
  | x :: xs, m => by
    rw [List.foldl_cons, le_fold g k xs]
    simp only [List.mem_cons, exists_eq_or_imp]
    constructor
    · rintro (h | h)
      · by_cases h1 : k ≤ m
        · exact .inl h1
        · exact .inr (.inl (by omega))
      · exact .inr (.inr h)
    · rintro (h | h | h)
      · exact .inl (by omega)
      · exact .inl (by omega)
      · exact .inr h
theorem moM_congr {t : Nat → Nat → Bool} {n : Nat} : ∀ (f : Nat) (S T : Nat → Bool), f ≤ n → (∀ x, n - f ≤ x → x < n → S x = T x) → moM t n f S = moM t n f T
  | 0, _, _, _, _ => rfl
  | f + 1, S, T, hf, h => by
    unfold moM
    have h0 : S (n - (f + 1)) = T (n - (f + 1)) := h _ (Nat.le_refl _) (by omega)
    have h1 : ((List.range n).filter fun b => decide (n - (f + 1) < b) && t (n - (f + 1)) b && S b) = ((List.range n).filter fun b => decide (n - (f + 1) < b) && t (n - (f + 1)) b && T b) := by
      apply List.filter_congr
      intro b hb
      rw [List.mem_range] at hb
      by_cases hlt : n - (f + 1) < b
      · rw [h b (by omega) hb]
      · simp [hlt]
    have h2 : (fun (m b : Nat) => max m (1 + moM t n f (fun x => S x && !decide (x = b)))) = (fun (m b : Nat) => max m (1 + moM t n f (fun x => T x && !decide (x = b)))) := by
      funext m b
      rw [moM_congr f _ (fun x => T x && !decide (x = b)) (by omega) fun x hx hn => by rw [h x (by omega) hn]]
    rw [h0, h1, h2, moM_congr f S T (by omega) fun x hx hn => h x (by omega) hn]
/-- pairs of one who isn't free don't count -/
theorem mx_without {a : Nat} : ∀ (ps : PL) (S : Nat → Bool), (∀ q ∈ ps, 0 ≤ q.1) → S a = false → mx ps S = mx (ps.filter fun q => !decide (q.1 = (a : Int))) S
  | [], _, _, _ => rfl
  | q :: ps, S, h0, h => by
    have ih1 := mx_without ps S (fun q hq => h0 q (List.mem_cons_of_mem _ hq)) h
    have hq0 := h0 q (List.mem_cons_self ..)
    by_cases e : q.1 = (a : Int)
    · rw [mx, if_neg (by unfold hasQ; rw [e, Int.toNat_natCast, h]; simp), List.filter_cons_of_neg (by simp [e])]
      exact ih1
    · rw [List.filter_cons_of_pos (by simp [e]), mx, mx, ih1, mx_without ps (cutQ S q) (fun q hq => h0 q (List.mem_cons_of_mem _ hq)) (by unfold cutQ; rw [h]; rfl)]
theorem mx_least {n a : Nat} : ∀ (ps : PL) (S : Nat → Bool) (k : Nat), ps.Pairwise plt → FromQ n a ps → S a = true →
    (k + 1 ≤ mx ps S ↔ k + 1 ≤ mx (ps.filter fun q => !decide (q.1 = (a : Int))) S ∨ ∃ b : Nat, ((a : Int), (b : Int)) ∈ ps ∧ S b = true ∧ k ≤ mx (ps.filter fun q => !decide (q.1 = (a : Int))) (cutQ S ((a : Int), (b : Int))))
  | [], S, k, _, _, _ => by simp
  | q :: ps, S, k, hs, hf, hS => by
    have hq := hf q (List.mem_cons_self ..)
    by_cases e : q.1 = (a : Int)
    · obtain ⟨b, hb⟩ : ∃ b : Nat, q = ((a : Int), (b : Int)) := ⟨q.2.toNat, by rw [← e, show ((q.2.toNat : Nat) : Int) = q.2 by omega]⟩
      subst hb
      have ih := mx_least ps S k (List.pairwise_cons.1 hs).2 hf.tail hS
      rw [mx_cons, ih, List.filter_cons_of_neg (by simp)]
      have hw := mx_without (a := a) ps (cutQ S ((a : Int), (b : Int))) (fun q hq => by have := hf q (List.mem_cons_of_mem _ hq); omega) (by rw [cutQ_at]; simp)
      rw [hw]
      have hh : hasQ S ((a : Int), (b : Int)) = true ↔ S b = true := by unfold hasQ; simp [hS]
      rw [hh]
      constructor
      · rintro (⟨h1, h2⟩ | h1 | ⟨b', h1, h2, h3⟩)
        · exact .inr ⟨b, List.mem_cons_self .., h1, h2⟩
        · exact .inl h1
        · exact .inr ⟨b', List.mem_cons_of_mem _ h1, h2, h3⟩
      · rintro (h1 | ⟨b', h1, h2, h3⟩)
        · exact .inr (.inl h1)
        · rcases List.mem_cons.1 h1 with h1 | h1
          · have : b' = b := by have := (Prod.mk.injEq ..).mp h1; omega
            subst this
            exact .inl ⟨h2, h3⟩
          · exact .inr (.inr ⟨b', h1, h2, h3⟩)
    · have hall : ∀ r ∈ q :: ps, r.1 ≠ (a : Int) := by
        intro r hr
        rcases List.mem_cons.1 hr with rfl | hr
        · exact e
        · have := (List.pairwise_cons.1 hs).1 r hr
          unfold plt at this
          omega
      rw [List.filter_eq_self.2 fun r hr => by simp [hall r hr]]
      constructor
      · exact .inl
      · rintro (h1 | ⟨b, h1, _⟩)
        · exact h1
        · exact absurd rfl (hall _ h1)
theorem mx_moM {t : Nat → Nat → Bool} {n : Nat} : ∀ (f : Nat) (ps : PL) (S : Nat → Bool), f ≤ n → ps.Pairwise plt → FromQ n ((n - f : Nat) : Int) ps →
    (∀ x y, n - f ≤ x → x < y → y < n → S x = true → S y = true → (t x y = true ↔ ((x : Int), (y : Int)) ∈ ps)) → mx ps S = moM t n f S
  | 0, ps, S, _, _, hr, _ => by
    have : ps = [] := by
      cases ps with
      | nil => rfl
      | cons q ps => have := hr q (List.mem_cons_self ..); omega
    subst this
    rfl
  | f + 1, ps, S, hf, hs, hr, ha => by
    obtain ⟨a, e⟩ : ∃ a, n - (f + 1) = a := ⟨_, rfl⟩
    have e1 : n - f = a + 1 := by omega
    have hs' : (ps.filter fun q => !decide (q.1 = (a : Int))).Pairwise plt := hs.filter _
    have hr' : FromQ n ((n - f : Nat) : Int) (ps.filter fun q => !decide (q.1 = (a : Int))) := by
      intro q hq
      rw [List.mem_filter] at hq
      have := hr q hq.1
      have h2 : q.1 ≠ (a : Int) := by simpa using hq.2
      omega
    have ih := fun (T : Nat → Bool) (hT : ∀ x, T x = true → S x = true) => mx_moM f (ps.filter fun q => !decide (q.1 = (a : Int))) T (by omega) hs' hr' (by
      intro x y hx hxy hy h1 h2
      rw [ha x y (by omega) hxy hy (hT x h1) (hT y h2), List.mem_filter]
      constructor
      · exact fun h => ⟨h, by simp; omega⟩
      · exact fun h => h.1)
    unfold moM
    rw [e]
    cases hS : S a with
    | false =>
      rw [if_neg (by simp), mx_without (a := a) ps S (fun q hq => by have := hr q hq; omega) hS]
      exact ih S fun _ h => h
    | true =>
      rw [if_pos rfl]
      have key : ∀ k, k + 1 ≤ mx ps S ↔ k + 1 ≤ ((List.range n).filter fun b => decide (a < b) && t a b && S b).foldl (fun m b => max m (1 + moM t n f (fun x => S x && !decide (x = b)))) (moM t n f S) := by
        intro k
        rw [mx_least ps S k hs (by rw [e] at hr; exact hr) hS, le_fold, ih S fun _ h => h]
        have hc : ∀ b : Nat, mx (ps.filter fun q => !decide (q.1 = (a : Int))) (cutQ S ((a : Int), (b : Int))) = moM t n f (fun x => S x && !decide (x = b)) := by
          intro b
          rw [ih (cutQ S ((a : Int), (b : Int))) fun x hx => by rw [cutQ_at] at hx; simp only [Bool.and_eq_true] at hx; exact hx.1.1]
          refine moM_congr f _ _ (by omega) fun x hx _ => ?_
          rw [cutQ_at, show decide (x = a) = false from decide_eq_false (by omega)]
          simp
        constructor
        · rintro (h | ⟨b, h1, h2, h3⟩)
          · exact .inl h
          · rw [hc] at h3
            have hb := hr _ h1
            simp only at hb
            exact .inr ⟨b, by rw [List.mem_filter, List.mem_range]; refine ⟨by omega, ?_⟩; rw [(ha a b (by omega) (by omega) (by omega) hS h2).2 h1, h2]; simp; omega, by omega⟩
        · rintro (h | ⟨b, h1, h3⟩)
          · exact .inl h
          · rw [List.mem_filter, List.mem_range] at h1
            obtain ⟨hb, h1⟩ := h1
            simp only [Bool.and_eq_true, decide_eq_true_eq] at h1
            exact .inr ⟨b, (ha a b (by omega) h1.1.1 hb hS h1.2).1 h1.1.2, h1.2, by rw [hc]; omega⟩
      have h1 := key (mx ps S - 1)
      have h2 := key (((List.range n).filter fun b => decide (a < b) && t a b && S b).foldl (fun m b => max m (1 + moM t n f (fun x => S x && !decide (x = b)))) (moM t n f S) - 1)
      omega
theorem mx_congr {a : Int} : ∀ (ps : PL) (S T : Nat → Bool), 0 ≤ a → (∀ q ∈ ps, a ≤ q.1 ∧ q.1 < q.2) → (∀ x : Nat, a ≤ x → S x = T x) → mx ps S = mx ps T
  | [], _, _, _, _, _ => rfl
  | q :: ps, S, T, h0, hf, h => by
    have hq := hf q (List.mem_cons_self ..)
    have e : hasQ S q = hasQ T q := by unfold hasQ; rw [h _ (by omega), h _ (by omega)]
    rw [mx, mx, e, mx_congr ps S T h0 (fun q hq => hf q (List.mem_cons_of_mem _ hq)) h, mx_congr ps (cutQ S q) (cutQ T q) h0 (fun q hq => hf q (List.mem_cons_of_mem _ hq)) fun x hx => by unfold cutQ; rw [h x hx]]
/-- who is left with a pair taken: nobody before the pair's first one -/
def leftQ (S : Nat → Bool) (q : Int × Int) : Nat → Bool := fun x => cutQ S q x && !decide ((x : Int) < q.1)
/-- the model's test -/
theorem moM_left {t : Nat → Nat → Bool} {n : Nat} {pre ps : PL} {q : Int × Int} {S : Nat → Bool} (hs : (pre ++ q :: ps).Pairwise plt) (hf : FromQ n 0 (pre ++ q :: ps))
    (ha : ∀ x y, x < y → y < n → (t x y = true ↔ ((x : Int), (y : Int)) ∈ pre ++ q :: ps)) : moM t n n (leftQ S q) = mx ps (cutQ S q) := by
  have hs2 := (List.pairwise_append.1 hs).2.1
  have hs3 := (List.pairwise_append.1 hs).2.2
  have hq := hf q (by simp)
  have hps : ∀ r ∈ ps, q.1 ≤ r.1 ∧ r.1 < r.2 := fun r hr => by
    have h1 := (List.pairwise_cons.1 hs2).1 r hr
    have h2 := hf r (by simp [hr])
    unfold plt at h1
    omega
  rw [← mx_moM (ps := ps) n (leftQ S q) (Nat.le_refl _) (List.pairwise_cons.1 hs2).2 (fun r hr => by have := hf r (by simp [hr]); omega) (by
    intro x y _ hxy hy h1 h2
    rw [ha x y hxy hy]
    unfold leftQ cutQ at h1
    simp only [Bool.and_eq_true, Bool.not_eq_true', decide_eq_false_iff_not] at h1
    have hne := h1.1.1.2
    have hge := h1.2
    constructor
    · intro h
      rcases List.mem_append.1 h with h | h
      · have := hs3 _ h q (List.mem_cons_self ..)
        unfold plt at this
        simp only at this
        omega
      · rcases List.mem_cons.1 h with h | h
        · rw [← h] at hne
          exact absurd rfl hne
        · exact h
    · intro h
      simp [h])]
  refine mx_congr (a := q.1) ps _ _ (by omega) hps fun x hx => ?_
  unfold leftQ
  rw [decide_eq_false (by omega)]
  simp
/-! ## The model's loop over the others -/
def moTo (t : Nat → Nat → Bool) (n f a : Nat) (S : Nat → Bool) (b : Nat) : Nat := ((List.range b).filter fun b => decide (a < b) && t a b && S b).foldl (fun m b => max m (1 + moM t n f (fun x => S x && !decide (x = b)))) (moM t n f S)
theorem moTo_start {t : Nat → Nat → Bool} {n f a : Nat} {S : Nat → Bool} : moTo t n f a S (a + 1) = moM t n f S := by
  unfold moTo
  rw [List.filter_eq_nil_iff.2]
  · rfl
  · intro x hx
    rw [List.mem_range] at hx
    simp
    omega
theorem moTo_yes {t : Nat → Nat → Bool} {n f a : Nat} {S : Nat → Bool} {b : Nat} (h0 : a < b) (h1 : t a b = true) (h2 : S b = true) : moTo t n f a S (b + 1) = max (moTo t n f a S b) (1 + moM t n f (fun x => S x && !decide (x = b))) := by
  unfold moTo
  rw [List.range_succ, List.filter_append, List.filter_cons_of_pos (by simp [h0, h1, h2]), List.foldl_append]
  rfl
theorem moTo_no {t : Nat → Nat → Bool} {n f a : Nat} {S : Nat → Bool} {b : Nat} (h : (t a b && S b) = false) : moTo t n f a S (b + 1) = moTo t n f a S b := by
  unfold moTo
  rw [List.range_succ, List.filter_append, List.filter_cons_of_neg (by rw [Bool.and_assoc, h]; simp)]
  simp
theorem moTo_all {t : Nat → Nat → Bool} {n f a : Nat} {S : Nat → Bool} (ha : n - (f + 1) = a) (hS : S a = true) : moTo t n f a S n = moM t n (f + 1) S := by
  rw [moM, ha, if_pos hS]
  rfl
theorem moM_skip {t : Nat → Nat → Bool} {n f : Nat} {S : Nat → Bool} (hS : S (n - (f + 1)) = false) : moM t n (f + 1) S = moM t n f S := by
  rw [moM, hS]
  simp
theorem moM_le {t : Nat → Nat → Bool} {n : Nat} : ∀ (f : Nat) (S : Nat → Bool), moM t n f S ≤ f
  | 0, _ => Nat.le_refl _
  | f + 1, S => by
    unfold moM
    split
    · have h := (le_fold (fun b => 1 + moM t n f (fun x => S x && !decide (x = b))) (((List.range n).filter fun b => decide (n - (f + 1) < b) && t (n - (f + 1)) b && S b).foldl (fun m b => max m (1 + moM t n f (fun x => S x && !decide (x = b)))) (moM t n f S)) ((List.range n).filter fun b => decide (n - (f + 1) < b) && t (n - (f + 1)) b && S b) (moM t n f S)).1 (Nat.le_refl _)
      rcases h with h | ⟨b, _, h⟩
      · have := moM_le (t := t) (n := n) f S
        omega
      · have := moM_le (t := t) (n := n) f (fun x => S x && !decide (x = b))
        omega
    · have := moM_le (t := t) (n := n) f S
      omega
theorem moTo_le {t : Nat → Nat → Bool} {n f a : Nat} {S : Nat → Bool} {b : Nat} : moTo t n f a S b ≤ f + 1 := by
  have h := (le_fold (fun b => 1 + moM t n f (fun x => S x && !decide (x = b))) (moTo t n f a S b) ((List.range b).filter fun b => decide (a < b) && t a b && S b) (moM t n f S)).1 (Nat.le_refl _)
  rcases h with h | ⟨b, _, h⟩
  · have := moM_le (t := t) (n := n) f S
    omega
  · have := moM_le (t := t) (n := n) f (fun x => S x && !decide (x = b))
    omega
/-! ## The model's steps -/
theorem takeL_z {q : Int × Int} {ps : PL} {S : Nat → Bool} {o R : PL} (h : mx (q :: ps) S = 0) (hR : takeL (q :: ps) 0 S o = R) : mx ps S = 0 ∧ takeL ps 0 S o = R := by
  have h1 := mx_cons q ps S (mx ps S - 1)
  rw [takeL_zero] at hR ⊢
  refine ⟨?_, hR⟩
  by_cases e : mx ps S = 0
  · exact e
  · have := h1.2 (.inr (by omega))
    omega
theorem takeL_h {q : Int × Int} {ps : PL} {S : Nat → Bool} {o R : PL} {k : Nat} (h : mx (q :: ps) S = k) (hR : takeL (q :: ps) k S o = R) (hS : hasQ S q = false) : mx ps S = k ∧ takeL ps k S o = R := by
  rw [takeL, if_pos (.inr hS)] at hR
  rw [mx, if_neg (by simp [hS])] at h
  exact ⟨h, hR⟩
theorem takeL_n {q : Int × Int} {ps : PL} {S : Nat → Bool} {o R : PL} {k : Nat} (h : mx (q :: ps) S = k) (hR : takeL (q :: ps) k S o = R) (hk : k ≠ 0) (hS : hasQ S q = true) (hn : 1 + mx ps (cutQ S q) ≠ k) : mx ps S = k ∧ takeL ps k S o = R := by
  rw [takeL, if_neg (by simp [hS, hk]), if_neg hn] at hR
  rw [mx, if_pos hS] at h
  exact ⟨by omega, hR⟩
theorem takeL_y {q : Int × Int} {ps : PL} {S : Nat → Bool} {o R : PL} {k : Nat} (hR : takeL (q :: ps) k S o = R) (hk : k ≠ 0) (hS : hasQ S q = true) (hy : 1 + mx ps (cutQ S q) = k) : mx ps (cutQ S q) = k - 1 ∧ takeL ps (k - 1) (cutQ S q) (o ++ [q]) = R := by
  rw [takeL, if_neg (by simp [hS, hk]), if_pos hy] at hR
  exact ⟨by omega, hR⟩
end Go.Proofs.Ytkiobefojckocaa
/-
  MOST IN PAIRS: the program's, by its contract.
-/
namespace Go.Proofs.Ytkiobefojckocaa
open Go.RowKit Go.Shelf

/-- everybody is free -/
def allQ (n : Nat) : Nat → Bool := bitsQ (2 ^ n - 1)
def resMostInPairs (p : Int) (l : PL) : PL × Bool := if isP p l then (firstK l (allQ p.toNat) (pairsK p.toNat), true) else ([], false)
theorem firstK_len (l : PL) (S : Nat → Bool) : ∀ k, (firstK l S k).length ≤ k := by
  intro k
  induction k with
  | zero => exact Nat.le_refl _
  | succ k ih =>
    cases e : mP l (k + 1) [] S with
    | nil => rw [firstK_none e]; omega
    | cons q L =>
      rw [firstK_some e]
      have := mP_len l (k + 1) [] S q (by rw [e]; simp)
      simp at this
      omega
theorem resMostInPairs_len (p : Int) (l : PL) : (resMostInPairs p l).1.length ≤ 1048576 := by
  unfold resMostInPairs
  split
  · rename_i h
    have h1 := isP_range h
    have h2 := firstK_len l (allQ p.toNat) (pairsK p.toNat)
    unfold pairsK at h2
    simp only
    unfold pairsK
    omega
  · simp
set_option maxHeartbeats 4000000 in
set_option maxRecDepth 100000 in
theorem implMostInPairs_any (p : Int) (l : PL) (A : Option Addr) (c : Nat) (w : World) (hl : l.length ≤ 1048576) (hA : CRead w w.heap.size A (pcells l)) (hd : l.length ≤ c) :
    Calls Try.prog 30 #[.agg #[.int .i64 p, .slice A l.length c]] w (GotPairsOk w (resMostInPairs p l).1 (resMostInPairs p l).2) := by
  have hr : CRead (w.alloc (Obj.cells #[.int .i64 p, .slice A l.length c] 24)) (w.alloc (Obj.cells #[.int .i64 p, .slice A l.length c] 24)).heap.size A (pcells l) := (hA.below (B' := w.heap.size) (by go_grown) (Nat.le_refl _)).more (by go_size)
  cases hp : isP p l with
  | false =>
    have e : resMostInPairs p l = ([], false) := by simp [resMostInPairs, hp]
    rw [e]
    have Hp := Lib.hid hp
    clear hp e
    go_enter Try.func30, Try.ntmps30
    go_wp2_with fail
    refine (isParty_any _ _ _ _ _ hl hr).mono ?_
    rw [Hp.out]
    rintro e w2 ⟨rfl, hb2⟩
    simp only [World.size_alloc] at hb2
    go_wp2
    go_ret2
    exact ⟨none, 0, rfl, World.ownsRow_nil _ _ _ _, Below.trans (b := _) (by go_grown) (hb2.mono (by omega))⟩
  | true =>
    obtain ⟨n, rfl⟩ : ∃ n : Nat, p = n := ⟨p.toNat, by have := isP_range hp; omega⟩
    have hn := isP_range hp
    have hn12 : n ≤ 12 := by omega
    have e : resMostInPairs n l = (firstK l (allQ n) (pairsK n), true) := by simp [resMostInPairs, hp]
    rw [e]
    have call := fun (s : Nat) (hs : s ≤ 12) (X : World) (hX : Below w.heap.size w X) => firstInPairs_any (k := s) hn12 (pairs_sorted hp) (pairs_from hp) hd hl (by omega) X ((hA.below hX (Nat.le_refl _)).more hX.size)
    have hpf := fun (X : World) => pairsForAll_any n hn12 A l.length c X
    have hno := fun s (h : mP l (s + 1) [] (allQ n) = []) => firstK_none h
    have hyes := fun s q M (h : mP l (s + 1) [] (allQ n) = q :: M) => firstK_some h
    have hK7 : pairsK n ≤ 12 := by unfold pairsK; omega
    unfold allQ at hno hyes ⊢
    obtain ⟨F, hF⟩ : ∃ F, firstK l (bitsQ (2 ^ n - 1)) = F := ⟨_, rfl⟩
    have hF0 : F 0 = [] := by rw [← hF]; rfl
    simp only [hF] at hno hyes ⊢
    obtain ⟨Q, hQ⟩ : ∃ Q : Nat → List PL, (fun k => mP l k [] (bitsQ (2 ^ n - 1))) = Q := ⟨_, rfl⟩
    have hQ' : ∀ k, mP l k [] (bitsQ (2 ^ n - 1)) = Q k := fun k => by rw [← hQ]
    simp only [hQ'] at call hno hyes
    obtain ⟨R, hR⟩ : ∃ R, F (pairsK n) = R := ⟨_, rfl⟩
    rw [hR]
    obtain ⟨K, hK⟩ : ∃ K, pairsK n = K := ⟨_, rfl⟩
    rw [hK] at hR hK7
    simp only [hK] at hpf
    have Call := Lib.hid call
    have Hpf := Lib.hid hpf
    have Hno := Lib.hid hno
    have Hyes := Lib.hid hyes
    have HF0 := Lib.hid hF0
    have HR := Lib.hid hR
    have Hp := Lib.hid hp
    clear hp e call hpf hno hyes hF hF0 hQ hQ' hR hK
    go_enter Try.func30, Try.ntmps30
    go_wp2_with fail
    refine (isParty_any _ _ _ _ _ hl hr).mono ?_
    rw [Hp.out]
    rintro e w2 ⟨rfl, hb2⟩
    have c0 : w2.cell? ⟨w.heap.size, 0, none⟩ = some (.int .i64 n) := carry hb2 (by simp) (by simp)
    have c1 : w2.cell? ⟨w.heap.size, 1, none⟩ = some (.slice A l.length c) := carry hb2 (by simp) (by simp)
    have s2 := hb2.size
    simp only [World.size_alloc] at hb2 s2
    have k2 : Below w.heap.size w w2 := Below.trans (b := _) (by go_grown) (hb2.mono (by omega))
    clear hb2 hr
    go_wp2_with fail
    refine (Hpf.out _).mono ?_
    rintro e w3 ⟨rfl, hb3⟩
    have s3 := hb3.size
    have d0 := carry hb3 c0 (by omega)
    have d1 := carry hb3 c1 (by omega)
    have K3 := Lib.hid (k2.trans (hb3.mono k2.size))
    have D0 := Lib.hid d0
    have D1 := Lib.hid d1
    clear c0 c1 k2 hb3 d0 d1
    go_wp2
    go_loopw [4, 5, 6] (fun i _ _ wr => ∃ s : Nat, s ≤ K ∧ i = .int .i64 s ∧ F s = R ∧ Below w3.heap.size w3 wr) (fun i _ _ _ => (intOf i).toNat)
    case atStart => exact ⟨K, Nat.le_refl _, rfl, HR.out, Below.refl _ _⟩
    case round =>
      obtain ⟨s, hs, rfl, hFs, hb⟩ := hrel
      have s0 := hb.size
      have kk := K3.out.trans (hb.mono K3.out.size)
      have HFs := Lib.hid hFs
      clear hFs
      cases s with
      | zero =>
        have hRe : [] = R := by rw [← HFs.out, HF0.out]
        subst hRe
        have hge : ¬ ((0 : Int) < 0) := by omega
        go_wp2
        go_ret2
        exact ⟨none, 0, rfl, World.ownsRow_nil _ _ _ _, kk⟩
      | succ s =>
        have e0 := carry hb D0.out (by omega)
        have e1 := carry hb D1.out (by omega)
        have g := Call.out (s + 1) (by omega) wr kk
        have hno := Hno.out s
        have hyes := Hyes.out s
        obtain ⟨z, hz⟩ : ∃ z : Int, ((s + 1 : Nat) : Int) = z := ⟨_, rfl⟩
        have hz0 : (0 : Int) < z := by omega
        have hz1 : z ≤ 13 := by omega
        obtain ⟨LL, hLL⟩ : ∃ LL, Q (s + 1) = LL := ⟨_, rfl⟩
        rw [hz] at g ⊢
        rw [hLL] at g hno
        have Hz := Lib.hid hz
        cases LL with
        | nil =>
          have Hn := Lib.hid (hno rfl)
          have Gg := Lib.hid g
          clear g hno hyes hLL hz
          go_wp2_with fail
          refine Gg.out.mono ?_
          rintro e w4 ⟨A4, c4, rfl, own4, hb4⟩
          have b4 := hb.trans (hb4.mono s0)
          clear Gg own4 e0 e1
          go_wp2
          go_roundw
          case rel => exact ⟨s, by omega, by have := Hz.out; congr 1; omega, by rw [← Hn.out]; exact HFs.out, b4⟩
          case measure => simp [intOf]; have := Hz.out; omega
        | cons q M =>
          have Hq := Lib.hid (hyes q M hLL)
          have Gg := Lib.hid g
          clear g hno hyes hLL hz
          go_wp2_with fail
          refine Gg.out.mono ?_
          rintro e w4 ⟨A4, c4, rfl, own4, hb4⟩
          have k4 := kk.trans (hb4.mono kk.size)
          have own' := own_lower own4 kk.size
          have HE : q = R := by rw [← Hq.out]; exact HFs.out
          have Own := Lib.hid own'
          clear Gg own4 own' e0 e1
          go_wp2
          go_ret2
          subst HE
          exact ⟨A4, c4, rfl, Own.out, k4⟩
end Go.Proofs.Ytkiobefojckocaa
/-
  A PARTY OF AT LEAST ONE PERSON: the model's test; the greater of two numbers.
-/
namespace Go.Proofs.Ytkiobefojckocaa
open Go.RowKit

set_option maxHeartbeats 400000 in
theorem l1Most_any (a b : Int) (w : World) : Calls Try.prog 83 #[.int .i64 a, .int .i64 b] w fun e w' => e = .returned (.int .i64 (max a b)) ∧ w = w' := by
  by_cases h : b < a
  · rw [show max a b = a by omega]
    go_enter Try.func83, Try.ntmps83
    go_wp2
    go_ret
    exact ⟨rfl, rfl⟩
  · rw [show max a b = b by omega]
    go_enter Try.func83, Try.ntmps83
    go_wp2
    go_ret
    exact ⟨rfl, rfl⟩
end Go.Proofs.Ytkiobefojckocaa
/-
  MOST IN PAIRS: the model's greatest number ('taMost'), by its contract.
-/
namespace Go.Proofs.Ytkiobefojckocaa
open Go.RowKit

/-- a row of bools at the head of a block, whatever lies behind it -/
structure BRow (w : World) (g n : Nat) (f : Nat → Bool) : Prop where
  cell : ∀ i, i < n → w.cell? ⟨g, i, none⟩ = some (.bool (f i))
  frz : ∀ i, i < n → w.frozen? ⟨g, i, none⟩ = false
section
variable {w w' : World} {g n : Nat} {f f' : Nat → Bool}
theorem BRow.congr (h : BRow w g n f) (e : ∀ i, i < n → f i = f' i) : BRow w g n f' := ⟨fun i hi => by rw [h.cell i hi, e i hi], h.frz⟩
theorem BRow.of_block (h : BRow w g n f) (e : w'.heap[g]? = w.heap[g]?) : BRow w' g n f :=
  ⟨fun i hi => by rw [World.cell?_of_block (a := ⟨g, i, none⟩) e]; exact h.cell i hi, fun i hi => by rw [World.frozen?_of_block (a := ⟨g, i, none⟩) e]; exact h.frz i hi⟩
theorem BRow.set (h : BRow w g n f) (k : Nat) (v : Bool) : BRow (w.setCell ⟨g, k, none⟩ (.bool v)) g n (fun x => if x = k then v else f x) := by
  refine ⟨fun i hi => ?_, fun i hi => by rw [World.frozen?_setCell]; exact h.frz i hi⟩
  by_cases e : i = k
  · subst e
    rw [if_pos rfl]
    exact World.cell?_setCell_same' _ _ _ (by rw [h.cell i hi]; rfl)
  · rw [if_neg e, World.cell?_setCell_other _ _ _ _ (by simp only [ne_eq, Addr.mk.injEq]; omega)]
    exact h.cell i hi
theorem BRow.of_row {ty : TypeId} (h : w.rowIs g ty n (fun x => .bool (f x))) : BRow w g n f := ⟨fun _ hi => h.cell hi, fun i _ => h.frozen i⟩
end

set_option maxHeartbeats 8000000 in
set_option maxRecDepth 100000 in
theorem taMost_any (n : Nat) (hn : n ≤ 12) (t : Nat → Nat → Bool) (At : Option Addr) (ct cd gd : Nat) (G : Nat → Nat) (wt : World)
    (hT : ∀ X : World, Apart (fun j => j = gd) wt X → ∀ i j, i < n → j < n → ∃ gt, At = some ⟨gt, 0, none⟩ ∧ X.cell? ⟨gt, i, none⟩ = some (.slice (some ⟨G i, 0, none⟩) n n) ∧ X.cell? ⟨G i, j, none⟩ = some (.bool (t i j))) :
    ∀ (f : Nat) (S : Nat → Bool) (w : World), f ≤ n → Apart (fun j => j = gd) wt w → BRow w gd n (fun x => !S x) → gd < w.heap.size →
    Calls Try.prog 59 #[.slice At n ct, .slice (some ⟨gd, 0, none⟩) n cd, .int .i64 ((n - f : Nat) : Int)] w fun e w' =>
      e = .returned (.int .i64 ((moM t n f S : Nat) : Int)) ∧ Apart (fun j => j = gd) w w' ∧ BRow w' gd n (fun x => !S x) := by
  have HT := Lib.hid hT
  clear hT
  intro f
  induction f using Nat.strongRecOn with
  | ind f ih =>
    intro S w hfn hap hrow hgd
    have IH := Lib.hid ih
    have Hap := Lib.hid hap
    have Row := Lib.hid hrow
    obtain ⟨R, hR⟩ : ∃ R, moM t n f S = R := ⟨_, rfl⟩
    rw [hR]
    have HR := Lib.hid hR
    clear ih hap hrow hR
    go_enter Try.func59, Try.ntmps59
    go_wp2
    go_loop [2] (fun i => ∃ f' : Nat, f' ≤ f ∧ i = .int .i64 ((n - f' : Nat) : Int) ∧ moM t n f' S = R) (fun i => n - (intOf i).toNat)
    case atStart => exact ⟨f, Nat.le_refl _, rfl, HR.out⟩
    case round =>
      obtain ⟨f', hf', rfl, hm⟩ := hrel
      have HM := Lib.hid hm
      clear hm
      cases f' with
      | zero =>
        have hge : ¬ (((n - 0 : Nat) : Int) < n) := by omega
        have heq : (((n - 0 : Nat) : Int) == (n : Int)) = true := by simp
        have h0 : R = 0 := by rw [← HM.out]; rfl
        subst h0
        rw [Nat.sub_zero] at hge heq ⊢
        go_wp2
        go_ret
        exact ⟨rfl, Apart.refl _ _, Row.out⟩
      | succ f' =>
        obtain ⟨a, hae⟩ : ∃ a, n - (f' + 1) = a := ⟨_, rfl⟩
        have han : a < n := by omega
        have hai : (a : Int) < n := by omega
        have hsub : n - f' = a + 1 := by omega
        have hd := Row.out.cell a han
        rw [hae]
        have Hae := Lib.hid hae
        clear hae
        cases hS : S a with
        | false =>
          rw [hS] at hd
          have hskip := Lib.hid (moM_skip (t := t) (f := f') (show S (n - (f' + 1)) = false by rw [Hae.out, hS]))
          clear hS
          go_wp2
          go_round
          case rel => exact ⟨f', by omega, by rw [hsub]; go_num, by rw [← hskip.out]; exact HM.out⟩
          case measure => simp [intOf]; omega
        | true =>
          rw [hS] at hd
          have HS := Lib.hid hS
          have hne : ((a : Int) == (n : Int)) = false := by simp; omega
          have ihc := IH.out f' (by omega) S w (by omega) Hap.out Row.out hgd
          rw [hsub] at ihc
          have hc1 : (((a + 1 : Nat)) : Int) = (a : Int) + 1 := by omega
          rw [hc1] at ihc
          have Ihc := Lib.hid ihc
          have hall := Lib.hid (moTo_all (t := t) Hae.out hS)
          have hle := moM_le (t := t) (n := n) f' S
          clear hS ihc hc1
          go_wp2_with fail
          refine Ihc.out.mono ?_
          rintro e w1 ⟨rfl, ap1, row1⟩
          have Ap1 := Lib.hid ap1
          have Row1 := Lib.hid row1
          have hsz1 := ap1.below.size
          clear ap1 row1 Ihc hd
          go_wp2
          go_loopw [7, 8] (fun v i wr => ∃ b : Nat, a + 1 ≤ b ∧ b ≤ n ∧ i = .int .i64 b ∧ v = .int .i64 ((moTo t n f' a S b : Nat) : Int) ∧ Apart (fun j => j = gd) w wr ∧ BRow wr gd n (fun x => !S x)) (fun _ i _ => n - (intOf i).toNat)
          case atStart => exact ⟨a + 1, Nat.le_refl _, by omega, by go_num, by rw [moTo_start], Ap1.out, Row1.out⟩
          case round =>
            clear Ap1 Row1
            obtain ⟨b, hab, hbn, rfl, rfl, apr, rowr⟩ := hrel
            have hmle := moTo_le (t := t) (n := n) (f := f') (a := a) (S := S) (b := b)
            have Apr := Lib.hid apr
            have Rowr := Lib.hid rowr
            have szr := apr.below.size
            clear apr rowr
            by_cases hlt : b < n
            · have hbi : (b : Int) < n := by omega
              obtain ⟨gt, hAt, t0, t1⟩ := HT.out wr (Hap.out.trans Apr.out (fun j hj => .inl hj)) a b han hlt
              subst hAt
              have hdb := Rowr.out.cell b hlt
              obtain ⟨m, hm⟩ : ∃ m, moTo t n f' a S b = m := ⟨_, rfl⟩
              rw [hm] at hmle ⊢
              have Hm := Lib.hid hm
              clear hm
              cases htab : t a b with
              | false =>
                rw [htab] at t1
                have Hno := Lib.hid (moTo_no (t := t) (n := n) (f := f') (a := a) (S := S) (b := b) (by rw [htab]; rfl))
                clear htab hdb
                go_wp2
                go_roundw
                case rel => exact ⟨b + 1, by omega, by omega, by go_num, by rw [Hno.out, Hm.out], Apr.out, Rowr.out⟩
                case measure => simp [intOf]; omega
              | true =>
                rw [htab] at t1
                cases hSb : S b with
                | false =>
                  rw [hSb] at hdb
                  have Hno := Lib.hid (moTo_no (t := t) (n := n) (f := f') (a := a) (S := S) (b := b) (by rw [hSb, Bool.and_false]))
                  clear htab hSb
                  go_wp2
                  go_roundw
                  case rel => exact ⟨b + 1, by omega, by omega, by go_num, by rw [Hno.out, Hm.out], Apr.out, Rowr.out⟩
                  case measure => simp [intOf]; omega
                | true =>
                  rw [hSb] at hdb
                  have HSb := Lib.hid hSb
                  have Hyes := Lib.hid (moTo_yes (n := n) (f := f') (show a < b by omega) htab hSb)
                  have hfb := Rowr.out.frz b hlt
                  have row2 := (Rowr.out.set b true).congr (f' := fun x => !(S x && !decide (x = b))) (fun x _ => by by_cases e : x = b <;> simp [e])
                  have ap2 : Apart (fun j => j = gd) wr (wr.setCell ⟨gd, b, none⟩ (.bool true)) := Apart.setCell (S := fun j => j = gd) (p := ⟨gd, b, none⟩) rfl _
                  have apw := Apr.out.trans ap2 (fun j hj => .inl hj)
                  have ihc := IH.out f' (by omega) (fun x => S x && !decide (x = b)) _ (by omega) (Hap.out.trans apw (fun j hj => .inl hj)) row2 (by simp; omega)
                  rw [hsub, show (((a + 1 : Nat)) : Int) = (a : Int) + 1 by omega] at ihc
                  have hle2 := moM_le (t := t) (n := n) f' (fun x => S x && !decide (x = b))
                  obtain ⟨r, hr⟩ : ∃ r, moM t n f' (fun x => S x && !decide (x = b)) = r := ⟨_, rfl⟩
                  rw [hr] at ihc hle2
                  have Hr := Lib.hid hr
                  have Ihc := Lib.hid ihc
                  have Apw := Lib.hid apw
                  clear htab hSb row2 ap2 apw ihc hr
                  go_wp2_with fail
                  refine Ihc.out.mono ?_
                  rintro e w4 ⟨rfl, ap4, row4⟩
                  have ap5 : Apart (fun j => j = gd) w (w4.setCell ⟨gd, b, none⟩ (.bool false)) := (Apw.out.trans ap4 (fun j hj => .inl hj)).trans (Apart.setCell (S := fun j => j = gd) (p := ⟨gd, b, none⟩) rfl _) (fun j hj => .inl hj)
                  have row5 := (row4.set b false).congr (f' := fun x => !S x) (fun x _ => by
                    by_cases e : x = b
                    · subst e; rw [if_pos rfl, HSb.out]; rfl
                    · rw [if_neg e]; simp [e])
                  have hd4 := row4.cell b hlt
                  have hf4 := row4.frz b hlt
                  have Ap5 := Lib.hid ap5
                  have Row5 := Lib.hid row5
                  clear ap4 row4 ap5 row5 Ihc
                  go_wp2_with (go_at_call 83; refine (l1Most_any _ _ _).mono ?_; rintro e w6 ⟨rfl, rfl⟩)
                  go_roundw
                  case rel => exact ⟨b + 1, by omega, by omega, by go_num, by rw [Hyes.out, Hm.out, Hr.out]; congr 1; omega, Ap5.out, Row5.out⟩
                  case measure => simp [intOf]; omega
            · have hbe : b = n := by omega
              subst hbe
              have hge : ¬ ((b : Int) < b) := by omega
              have hend : moTo t b f' a S b = R := by rw [hall.out]; exact HM.out
              rw [hend]
              go_wp2
              go_ret
              exact ⟨rfl, Apr.out, Rowr.out⟩
end Go.Proofs.Ytkiobefojckocaa
/-
  MOST IN PAIRS: the model's, by its contract.
-/
namespace Go.Proofs.Ytkiobefojckocaa
open Go.RowKit

theorem BRow.of_own {w : World} {B g n c : Nat} {e : TypeId} {f : Nat → Bool} (h : w.ownsRow B e 1 (.slice (some ⟨g, 0, none⟩) n c) n ((List.range n).map fun i => Value.bool (f i))) : BRow w g n f := by
  have hc := h.cells (g := g) rfl
  refine ⟨fun i hi => ?_, fun i hi => ?_⟩
  · have := hc i (.bool (f i)) (by simp [hi])
    rwa [Go.WideShapes.add_plain, Nat.zero_add] at this
  · rcases h.2 with ⟨hv, _⟩ | ⟨g', cap, cur, hv, _, hg, _⟩
    · cases hv
    · simp only [Value.slice.injEq, Option.some.injEq, Addr.mk.injEq, and_true, true_and] at hv
      rw [hv.1]
      exact frozen_of_row _ _ _ _ _ hg
theorem own_apart {S : Nat → Prop} {w w' : World} {B : Nat} {e : TypeId} {size n : Nat} {v : Value} {xs : List Value} (h : w.ownsRow B e size v n xs) (ha : Apart S w w') (hS : ∀ k, v.ownBlock = some k → ¬ S k) : w'.ownsRow B e size v n xs := by
  refine ⟨h.1, ?_⟩
  rcases h.2 with h1 | ⟨g, cap, cur, hv, hb, hg, rest⟩
  · exact .inl h1
  · exact .inr ⟨g, cap, cur, hv, hb, (ha.same g (Array.getElem?_eq_some_iff.1 hg).1 (hS g (by rw [hv]; rfl))).trans hg, rest⟩
theorem Apart.new {A C : World} {o : Obj} (h : A.alloc o = C) : Apart (fun _ => False) A C := by
  rw [← h]
  exact ⟨(Below.refl 0 A).alloc (Nat.zero_le _) _, fun j hj _ => (World.grownBy_alloc A o none).block j hj (by simp)⟩
/-- what is laid between two pairs -/
structure PutAt (w : World) (n : Nat) (S : Nat → Bool) (gd : Nat) (o : PL) (A : Option Addr) (c : Nat) : Prop where
  row : BRow w gd n (fun x => !S x)
  own : w.ownsRow (gd + 1) 76 2 (.slice A o.length c) o.length (pcells o)
  lt : gd < w.heap.size

theorem PutAt.apart {w w' : World} {n : Nat} {S : Nat → Bool} {gd : Nat} {o : PL} {A : Option Addr} {c : Nat} {T : Nat → Prop} (h : PutAt w n S gd o A c) (ha : Apart T w w') (hT : ∀ j, T j → w.heap.size ≤ j) : PutAt w' n S gd o A c :=
  ⟨h.row.of_block (ha.same gd h.lt fun ht => by have := hT _ ht; have := h.lt; omega), own_apart h.own ha fun k hk ht => by have := hT _ ht; have := (own_lies h.own k hk).2; omega, by have := ha.below.size; have := h.lt; omega⟩
theorem PutAt.apart' {w w' : World} {n : Nat} {S : Nat → Bool} {gd : Nat} {o : PL} {A : Option Addr} {c : Nat} {g : Nat} (h : PutAt w n S gd o A c) (ha : Apart (fun j => j = g) w w') (hT : ∀ k, (Value.slice A o.length c).ownBlock = some k → k ≠ g) (hg : gd ≠ g) : PutAt w' n S gd o A c :=
  ⟨h.row.of_block (ha.same gd h.lt hg), own_apart h.own ha hT, by have := ha.below.size; have := h.lt; omega⟩
theorem PutAt.below {w w' : World} {n : Nat} {S : Nat → Bool} {gd : Nat} {o : PL} {A : Option Addr} {c : Nat} (h : PutAt w n S gd o A c) (hb : Below w.heap.size w w') : PutAt w' n S gd o A c :=
  ⟨h.row.of_block (hb.block gd h.lt), own_below h.own hb (Nat.le_refl _), by have := hb.size; have := h.lt; omega⟩
set_option maxHeartbeats 8000000 in
set_option maxRecDepth 100000 in
theorem specMostInPairs_any (p : Int) (l : PL) (A : Option Addr) (c : Nat) (w : World) (hl : l.length ≤ 1048576) (hA : CRead w w.heap.size A (pcells l)) :
    Calls Try.prog 29 #[.agg #[.int .i64 p, .slice A l.length c]] w (GotPairsOk w (resMostInPairs p l).1 (resMostInPairs p l).2) := by
  have hr : CRead (w.alloc (Obj.cells #[.int .i64 p, .slice A l.length c] 24)) (w.alloc (Obj.cells #[.int .i64 p, .slice A l.length c] 24)).heap.size A (pcells l) := (hA.below (B' := w.heap.size) (by go_grown) (Nat.le_refl _)).more (by go_size)
  cases hp : isP p l with
  | false =>
    have e : resMostInPairs p l = ([], false) := by simp [resMostInPairs, hp]
    rw [e]
    have Hp := Lib.hid hp
    clear hp e
    go_enter Try.func29, Try.ntmps29
    go_wp2_with fail
    refine (paGood_any _ _ _ _ _ hl hr).mono ?_
    rw [Hp.out]
    rintro e w2 ⟨rfl, hb2⟩
    simp only [World.size_alloc] at hb2
    go_wp2
    go_ret2
    exact ⟨none, 0, rfl, World.ownsRow_nil _ _ _ _, Below.trans (b := _) (by go_grown) (hb2.mono (by omega))⟩
  | true =>
    obtain ⟨i1, hj, hy0, hy1, hy2⟩ := info_parts Try.infoBool
    obtain ⟨i0, hi, hz0, hz1, hz2⟩ := info_parts Try.infoPair
    obtain ⟨n, rfl⟩ : ∃ n : Nat, p = n := ⟨p.toNat, by have := isP_range hp; omega⟩
    have hn := isP_range hp
    have hn12 : n ≤ 12 := by omega
    have hlen : l.length ≤ 66 := by have h1 := isP_length hp; have h2 := people_sq hn.1 hn.2; omega
    have e : resMostInPairs n l = (firstK l (allQ n) (pairsK n), true) := by simp [resMostInPairs, hp]
    have hall := pairs_all hp (fun _ => true)
    have hsrt := pairs_sorted hp
    have hfrm := pairs_from hp
    have hhalf := mx_half (n := n) (l := l) (S := allQ n) hfrm
    have hcnt := cntQ_people n
    unfold allQ at hhalf e
    have hfirst := firstK_mx l (bitsQ (2 ^ n - 1)) (pairsK n) (by unfold pairsK; omega)
    have hmo := mx_moM (t := adj l) (n := n) n l (bitsQ (2 ^ n - 1)) (Nat.le_refl _) hsrt (by simpa using hfrm) (fun x y _ h1 h2 _ _ => hall x y h1 h2 rfl rfl)
    rw [e]
    obtain ⟨R, hR⟩ : ∃ R, firstK l (bitsQ (2 ^ n - 1)) (pairsK n) = R := ⟨_, rfl⟩
    rw [hR] at hfirst ⊢
    obtain ⟨S0, hS0⟩ : ∃ S0, bitsQ (2 ^ n - 1) = S0 := ⟨_, rfl⟩
    have hS1 : ∀ x, x < n → S0 x = true := fun x hx => by rw [← hS0]; exact people_bitsQ hx
    rw [hS0] at hfirst hmo hhalf hcnt
    have tabF := fun (Y : World) (hY : CRead Y Y.heap.size A (pcells l)) => paTable_any n l A c Y hp hY
    simp only [Int.toNat_natCast] at tabF
    have TabF := Lib.hid tabF
    have Hp := Lib.hid hp
    have Hall := Lib.hid hall
    have Hsrt := Lib.hid hsrt
    have Hfrm := Lib.hid hfrm
    have Hfirst := Lib.hid hfirst
    have Hmo := Lib.hid hmo
    have HS1 := Lib.hid hS1
    have Hhalf := Lib.hid hhalf
    have Hcnt := Lib.hid hcnt
    clear tabF hp e hall hsrt hfrm hfirst hmo hS1 hhalf hcnt hR hS0
    go_enter Try.func29, Try.ntmps29
    go_wp2_with fail
    refine (paGood_any _ _ _ _ _ hl hr).mono ?_
    rw [Hp.out]
    rintro e w1 ⟨rfl, hb1⟩
    have c0 : w1.cell? ⟨w.heap.size, 0, none⟩ = some (.int .i64 n) := carry hb1 (by simp) (by simp)
    have c1 : w1.cell? ⟨w.heap.size, 1, none⟩ = some (.slice A l.length c) := carry hb1 (by simp) (by simp)
    have s1 := hb1.size
    simp only [World.size_alloc] at hb1 s1
    have k1 : Below w.heap.size w w1 := Below.trans (b := _) (by go_grown) (hb1.mono (by omega))
    clear hb1 hr
    go_wp2_with fail
    refine (TabF.out _ ((hA.below k1 (Nat.le_refl _)).more k1.size)).mono ?_
    rintro e w2 ⟨A2, c2, G, rfl, tab, hb2⟩
    have s2 := hb2.size
    have d0 := carry hb2 c0 (by omega)
    have d1 := carry hb2 c1 (by omega)
    have k2 := k1.trans (hb2.mono k1.size)
    have tabR : ∀ X : World, Below w2.heap.size w2 X → ∀ i j, i < n → j < n → ∃ gt, A2 = some ⟨gt, 0, none⟩ ∧ X.cell? ⟨gt, i, none⟩ = some (.slice (some ⟨G i, 0, none⟩) n n) ∧ X.cell? ⟨G i, j, none⟩ = some (.bool (adj l i j)) := by
      intro X hX i j hi hj
      have T := tab.below hX (Nat.le_refl _)
      obtain ⟨gt, rfl⟩ := own_form T.own (by omega)
      exact ⟨gt, rfl, T.outer hi, T.cell hi hj⟩
    have TabR := Lib.hid tabR
    have K2 := Lib.hid k2
    clear c0 c1 tab tabR hb2 k1 k2
    have hmk := fun Y : World => run_make_one (P := Try.prog) Y 87 4 i1 (.bool false) Try.underlying87 hj hy0 hy1 rfl n (by rw [hy2]; omega) (by omega)
    go_wp2_with fail
    obtain ⟨gd, hgd⟩ : ∃ g, w2.heap.size = g := ⟨_, rfl⟩
    have row0 : BRow (w2.alloc (Obj.cells (madeCells #[Value.bool false] n) 4)) gd n (fun x => !S0 x) := by
      have h := BRow.of_row (f := fun _ => false) (World.rowIs_made w2 (.bool false) n 4)
      rw [hgd] at h
      exact h.congr fun x hx => by rw [HS1.out x hx]; rfl
    obtain ⟨X, hX⟩ : ∃ X, w2.alloc (Obj.cells (madeCells #[Value.bool false] n) 4) = X := ⟨_, rfl⟩
    have kX : Below gd w2 X := by rw [← hX]; exact (Below.refl _ _).alloc (by omega) _
    have sX : X.heap.size = gd + 1 := by rw [← hX, World.size_alloc, hgd]
    rw [hX] at row0 ⊢
    have tabR := TabR.out
    rw [hgd] at tabR s2 ⊢
    have tabX : ∀ (X0 : World) (g : Nat), Below gd w2 X0 → gd ≤ X0.heap.size → gd ≤ g → ∀ X : World, Apart (fun j => j = g) X0 X → ∀ i j, i < n → j < n → ∃ gt, A2 = some ⟨gt, 0, none⟩ ∧ X.cell? ⟨gt, i, none⟩ = some (.slice (some ⟨G i, 0, none⟩) n n) ∧ X.cell? ⟨G i, j, none⟩ = some (.bool (adj l i j)) :=
      fun X0 g h0 h1 h2 X ha => tabR X (h0.trans (below_apart ha h1 fun j hj => by omega))
    have TabX := Lib.hid tabX
    have D0 := Lib.hid d0
    have D1 := Lib.hid d1
    have hgw : w.heap.size < gd := by omega
    have k0 : Below w.heap.size w w2 := K2.out
    have hmoL : moM (adj l) n n S0 = mx l S0 := Hmo.out.symm
    have hle := moM_le (t := adj l) (n := n) n S0
    have call := taMost_any n hn12 (adj l) A2 c2 n gd G X (TabX.out X gd kX (by omega) (Nat.le_refl _)) n S0 X (Nat.le_refl _) (Apart.refl _ _) row0 (by omega)
    rw [Nat.sub_self] at call
    have Call := Lib.hid call
    clear hX tabR TabR tabX d0 d1 call row0 hmk
    refine Call.out.mono ?_
    rintro e w3 ⟨rfl, ap3, row3⟩
    have k3 : Below gd w2 w3 := kX.trans (below_apart ap3 (by omega) fun j hj => by omega)
    have s3 := ap3.below.size
    have d1 := (k3.cell (p := ⟨w.heap.size, 1, none⟩) hgw).trans D1.out
    obtain ⟨k, hk⟩ : ∃ k, moM (adj l) n n S0 = k := ⟨_, rfl⟩
    rw [hk] at hmoL hle ⊢
    have P0 : PutAt w3 n S0 gd [] none 0 := ⟨row3, World.ownsRow_nil _ _ _ _, by omega⟩
    have HmoL := Lib.hid hmoL
    have P0' := Lib.hid P0
    have K3 := Lib.hid k3
    clear Call kX ap3 row3 P0 k3 hmoL hk
    go_wp2
    go_loopw [6, 7, 10, 11, 26] (fun v lf _ _ i wr => ∃ (k i' : Nat) (S : Nat → Bool) (o : PL) (A' : Option Addr) (c' : Nat), i' ≤ l.length ∧ v = .slice A' o.length c' ∧ lf = .int .i64 k ∧ i = .int .i64 i' ∧ k ≤ 12 ∧ mx (l.drop i') S = k ∧ takeL (l.drop i') k S o = R ∧ o.length ≤ i' ∧ PutAt wr n S gd o A' c' ∧ Below gd w2 wr) (fun _ _ _ _ i _ => l.length - (intOf i).toNat)
    case atStart => exact ⟨k, 0, S0, [], none, 0, Nat.zero_le _, rfl, rfl, rfl, by omega, by rw [List.drop_zero]; exact HmoL.out.symm, by rw [List.drop_zero, HmoL.out]; exact Hfirst.out.symm, Nat.le_refl _, P0'.out, K3.out⟩
    case round =>
      clear P0' K3 d1 hle HmoL
      obtain ⟨k, i', S, o, A', c', hi', rfl, rfl, rfl, hk12, hmx, htk, hol, hput, kr⟩ := hrel
      have HPut := Lib.hid hput
      have Kr := Lib.hid kr
      have szr := kr.size
      have lgd := hput.lt
      have kwr : Below w.heap.size w wr := k0.trans (kr.mono (by omega))
      clear hput kr
      by_cases hlt : i' < l.length
      · obtain ⟨⟨x, y⟩, hx⟩ := getSome l i' hlt
        have hq := Hfrm.out (x, y) (List.mem_of_getElem? hx)
        obtain ⟨a, rfl⟩ : ∃ a : Nat, x = a := ⟨x.toNat, by omega⟩
        obtain ⟨b, rfl⟩ : ∃ b : Nat, y = b := ⟨y.toNat, by omega⟩
        have hab : a < b := by have := hq.2.1; simp only at this; omega
        have hbn : b < n := by have := hq.2.2; simp only at this; omega
        have han : a < n := by omega
        have hai : (a : Int) < n := by omega
        have hbi : (b : Int) < n := by omega
        have hii : (i' : Int) < (l.length : Int) := by omega
        have hdrop : l.drop i' = ((a : Int), (b : Int)) :: l.drop (i' + 1) := by
          rw [List.drop_eq_getElem_cons hlt]
          congr 1
          rw [List.getElem?_eq_getElem hlt] at hx
          simpa using hx
        have hsplit : l.take i' ++ (((a : Int), (b : Int)) :: l.drop (i' + 1)) = l := by rw [← hdrop, List.take_append_drop]
        have hleft := moM_left (t := adj l) (n := n) (S := S) (pre := l.take i') (ps := l.drop (i' + 1)) (q := ((a : Int), (b : Int))) (by rw [hsplit]; exact Hsrt.out) (by rw [hsplit]; exact Hfrm.out) (by rw [hsplit]; exact fun x y h1 h2 => Hall.out x y h1 h2 rfl rfl)
        rw [hdrop] at hmx htk
        obtain ⟨bb, off, rfl, hbb, e0, e1⟩ := (hA.below kwr (Nat.le_refl _)).pair hx
        have Hmx := Lib.hid hmx
        have Htk := Lib.hid htk
        have Hleft := Lib.hid hleft
        clear hx hq hdrop hsplit hmx htk hleft
        by_cases hk0 : k = 0
        · subst hk0
          obtain ⟨z1, z2⟩ := takeL_z Hmx.out Htk.out
          have Z := Lib.hid (And.intro z1 z2)
          clear z1 z2
          go_wp2
          obtain ⟨Y, hY⟩ : ∃ Y, wr.alloc (Obj.cells #[.int .i64 (a : Int), .int .i64 (b : Int)] 76) = Y := ⟨_, rfl⟩
          have ap := Apart.new hY
          go_roundw
          case rel => exact ⟨0, i' + 1, S, o, A', c', by omega, rfl, rfl, by go_num, by omega, Z.out.1, Z.out.2, by omega, by rw [hY]; exact HPut.out.apart ap (fun _ h => h.elim), by rw [hY]; exact Kr.out.trans (below_apart ap (by omega) fun _ h => h.elim)⟩
          case measure => simp [intOf]; omega
        · have hk0' : ((k : Int) == 0) = false := by simp; omega
          have ya : (wr.alloc (Obj.cells #[.int .i64 (a : Int), .int .i64 (b : Int)] 76)).cell? ⟨gd, a, none⟩ = some (.bool (!S a)) := (World.cell?_alloc_lt _ _ _ lgd).trans (HPut.out.row.cell a han)
          have yb : (wr.alloc (Obj.cells #[.int .i64 (a : Int), .int .i64 (b : Int)] 76)).cell? ⟨gd, b, none⟩ = some (.bool (!S b)) := (World.cell?_alloc_lt _ _ _ lgd).trans (HPut.out.row.cell b hbn)
          cases hSa : S a with
          | false =>
            rw [hSa] at ya
            obtain ⟨z1, z2⟩ := takeL_h Hmx.out Htk.out (by unfold hasQ; simp [hSa])
            have Z := Lib.hid (And.intro z1 z2)
            clear z1 z2 yb hSa
            go_wp2
            obtain ⟨Y, hY⟩ : ∃ Y, wr.alloc (Obj.cells #[.int .i64 (a : Int), .int .i64 (b : Int)] 76) = Y := ⟨_, rfl⟩
            have ap := Apart.new hY
            go_roundw
            case rel => exact ⟨k, i' + 1, S, o, A', c', by omega, rfl, rfl, by go_num, by omega, Z.out.1, Z.out.2, by omega, by rw [hY]; exact HPut.out.apart ap (fun _ h => h.elim), by rw [hY]; exact Kr.out.trans (below_apart ap (by omega) fun _ h => h.elim)⟩
            case measure => simp [intOf]; omega
          | true =>
            rw [hSa] at ya
            cases hSb : S b with
            | false =>
              rw [hSb] at yb
              obtain ⟨z1, z2⟩ := takeL_h Hmx.out Htk.out (by unfold hasQ; simp [hSb])
              have Z := Lib.hid (And.intro z1 z2)
              clear z1 z2 hSa hSb
              go_wp2
              obtain ⟨Y, hY⟩ : ∃ Y, wr.alloc (Obj.cells #[.int .i64 (a : Int), .int .i64 (b : Int)] 76) = Y := ⟨_, rfl⟩
              have ap := Apart.new hY
              go_roundw
              case rel => exact ⟨k, i' + 1, S, o, A', c', by omega, rfl, rfl, by go_num, by omega, Z.out.1, Z.out.2, by omega, by rw [hY]; exact HPut.out.apart ap (fun _ h => h.elim), by rw [hY]; exact Kr.out.trans (below_apart ap (by omega) fun _ h => h.elim)⟩
              case measure => simp [intOf]; omega
            | true =>
              rw [hSb] at yb
              have hhas : hasQ S ((a : Int), (b : Int)) = true := by unfold hasQ; simp [hSa, hSb]
              have Hhas := Lib.hid hhas
              have HSa := Lib.hid hSa
              have HSb := Lib.hid hSb
              clear hhas hSa hSb
              obtain ⟨V, hV⟩ : ∃ V, (wr.alloc (Obj.cells #[.int .i64 (a : Int), .int .i64 (b : Int)] 76)).alloc (Obj.cells #[] 4) = V := ⟨_, rfl⟩
              have sV : V.heap.size = wr.heap.size + 1 + 1 := by rw [← hV]; simp
              have kV : Below gd w2 V := by rw [← hV]; exact (Kr.out.alloc (by omega) _).alloc (by simp; omega) _
              have apV : Apart (fun _ => False) wr V := by rw [← hV]; exact (Apart.new rfl).trans (Apart.new rfl) fun _ h => h.elim
              have putV : PutAt V n S gd o A' c' := HPut.out.apart apV fun _ h => h.elim
              have xV : V.heap[wr.heap.size]? = some (Obj.cells #[.int .i64 (a : Int), .int .i64 (b : Int)] 76) := by rw [← hV, heap_alloc_lt _ _ _ (by simp)]; exact heap_alloc_new _ _
              have hmade : V.ownsRow (wr.heap.size + 1) 4 1 (.slice (some ⟨wr.heap.size + 1, 0, none⟩) 0 0) 0 [] := by
                have h := World.ownsRow_made (e := 4) (size := 1) (base := (wr.alloc (Obj.cells #[.int .i64 (a : Int), .int .i64 (b : Int)] 76)).heap.size) (wr.alloc (Obj.cells #[.int .i64 (a : Int), .int .i64 (b : Int)] 76)) #[] 0 (Nat.le_refl _) (Nat.zero_le _) rfl
                rw [hV, World.size_alloc] at h
                exact h
              have hnews : ∀ j u, ((List.range n).map fun i => Value.bool (!S i))[j]? = some u → V.cell? ((⟨gd, 0, none⟩ : Addr).add j) = some u := by
                intro j u hu
                rw [List.getElem?_map] at hu
                obtain ⟨x, hx, rfl⟩ := Option.map_eq_some_iff.1 hu
                obtain ⟨hjl, rfl⟩ := List.getElem?_eq_some_iff.1 hx
                rw [List.length_range] at hjl
                rw [Go.WideShapes.add_plain, Nat.zero_add, List.getElem_range]
                exact putV.row.cell _ hjl
              have HV := Lib.hid hV
              have Hmade := Lib.hid hmade
              have Hnews := Lib.hid hnews
              have PutV := Lib.hid putV
              have XV := Lib.hid xV
              have KV := Lib.hid kV
              clear hV hmade hnews putV xV kV apV
              go_wp2_with (at_builtin; rw [HV.out]; refine wpList_append_own _ rfl _ _ 87 rfl (wr.heap.size + 1) 4 i1 (.bool false) 1 1 Try.underlying87 hj hy0 hy1 hy2 rfl (by decide) _ 0 [] rfl Hmade.out ⟨gd, 0, none⟩ n n ((List.range n).map fun i => Value.bool (!S i)) rfl ?q1 Hnews.out ?q2 ?q3 ?q4 ?q5 ?_)
              case q1 => simp
              case q2 => intro u hu; obtain ⟨x, _, rfl⟩ := List.mem_map.1 hu; rfl
              case q3 => unfold maxLen; omega
              case q4 => omega
              case q5 => omega
              intro v5 w5 own5 gr5 _
              obtain ⟨A5, c5, rfl, _⟩ := own_shape own5
              obtain ⟨g5, rfl⟩ := own_form own5 (show 0 < n by omega)
              have hg5 := own_lies own5 g5 rfl
              have row5 := BRow.of_own own5
              have bV : Below wr.heap.size wr V := by rw [← HV.out]; exact ((Below.refl _ _).alloc (Nat.le_refl _) _).alloc (by simp) _
              have b5 : Below (wr.heap.size + 1) V w5 := (Below.refl _ _).grown gr5 (by omega) (fun k hk => by simp [Value.ownBlock] at hk; omega)
              have bw5 : Below wr.heap.size wr w5 := bV.trans (b5.mono (by omega))
              have x5 := (b5.block _ (Nat.lt_succ_self _)).trans XV.out
              have s5 := b5.size
              have x50 : w5.cell? ⟨wr.heap.size, 0, none⟩ = some (.int .i64 (a : Int)) := by rw [cell_of_row _ _ _ _ _ _ x5]; rfl
              have r50 := row5.cell a han
              have r5z := row5.frz a han
              have row6 := row5.set a true
              have x6 := (Below.heap_setCell w5 ⟨g5, a, none⟩ (.bool true) wr.heap.size (by simp; omega)).trans x5
              have x61 : (w5.setCell ⟨g5, a, none⟩ (.bool true)).cell? ⟨wr.heap.size, 1, none⟩ = some (.int .i64 (b : Int)) := by rw [cell_of_row _ _ _ _ _ _ x6]; rfl
              have r60 := row6.cell b hbn
              have r6z := row6.frz b hbn
              have row7 := (row6.set b true).congr (f' := fun x => decide (x < 0) || !cutQ S ((a : Int), (b : Int)) x) (fun x _ => by
                rw [cutQ_at]
                by_cases e1 : x = b
                · simp [e1]
                · by_cases e2 : x = a <;> simp [e1, e2])
              have x7 := (Below.heap_setCell (w5.setCell ⟨g5, a, none⟩ (.bool true)) ⟨g5, b, none⟩ (.bool true) wr.heap.size (by simp; omega)).trans x6
              have bw7 : Below wr.heap.size wr ((w5.setCell ⟨g5, a, none⟩ (.bool true)).setCell ⟨g5, b, none⟩ (.bool true)) := (bw5.setCell (by simp; omega) _).setCell (by simp; omega) _
              have s7 : ((w5.setCell ⟨g5, a, none⟩ (.bool true)).setCell ⟨g5, b, none⟩ (.bool true)).heap.size = w5.heap.size := by simp
              have Row7 := Lib.hid row7
              have X7 := Lib.hid x7
              have Bw7 := Lib.hid bw7
              clear own5 gr5 row5 row6 row7 x5 x6 x7 bw5 bw7 b5 bV XV Hmade Hnews ya yb e0 e1
              go_wp2
              obtain ⟨Y7, hY7⟩ : ∃ Y, ((w5.setCell ⟨g5, a, none⟩ (.bool true)).setCell ⟨g5, b, none⟩ (.bool true)) = Y := ⟨_, rfl⟩
              rw [hY7] at Row7 X7 Bw7 s7 ⊢
              clear hY7 x50 r50 r5z x61 r60 r6z
              have PutY := Lib.hid (HPut.out.below Bw7.out)
              have KY := Lib.hid (Kr.out.trans (Bw7.out.mono (by omega)))
              obtain ⟨bx, hbx⟩ : ∃ bx, wr.heap.size = bx := ⟨_, rfl⟩
              have X7b := X7.out
              have gY := hg5.2
              have hob : ∀ j, (Value.slice A' o.length c').ownBlock = some j → j < bx := fun j hj => by have := (own_lies HPut.out.own j hj).2; omega
              rw [hbx] at hg5 X7b ⊢
              have X8 := Lib.hid X7b
              have hgx : gd < bx := by omega
              have h5Y : g5 < Y7.heap.size := by omega
              have hxY : bx < Y7.heap.size := by omega
              clear X7 X7b Bw7 HPut Kr HV PutV KV hbx
              go_loopw [11] (fun i wq => ∃ z : Nat, z ≤ a ∧ i = .int .i64 z ∧ BRow wq g5 n (fun x => decide (x < z) || !cutQ S ((a : Int), (b : Int)) x) ∧ Apart (fun j => j = g5) Y7 wq) (fun i _ => a - (intOf i).toNat)
              case atStart => exact ⟨0, Nat.zero_le _, rfl, Row7.out, Apart.refl _ _⟩
              case round =>
                clear Row7
                obtain ⟨z, hza, rfl, rowq, apq⟩ := hrel
                have xq := (apq.same bx hxY (by omega)).trans X8.out
                have xq0 : wr.cell? ⟨bx, 0, none⟩ = some (.int .i64 (a : Int)) := by rw [cell_of_row _ _ _ _ _ _ xq]; rfl
                have xq1 : wr.cell? ⟨bx, 1, none⟩ = some (.int .i64 (b : Int)) := by rw [cell_of_row _ _ _ _ _ _ xq]; rfl
                have sq := apq.below.size
                by_cases hza' : z < a
                · have hzi : (z : Int) < (a : Int) := by omega
                  have hzn : (z : Int) < (n : Int) := by omega
                  have hz0 := rowq.cell z (by omega)
                  have hz1 := rowq.frz z (by omega)
                  have row9 := (rowq.set z true).congr (f' := fun x => decide (x < z + 1) || !cutQ S ((a : Int), (b : Int)) x) (fun x _ => by
                    by_cases e1 : x = z
                    · simp [e1]
                    · rw [if_neg e1, show decide (x < z + 1) = decide (x < z) from decide_eq_decide.2 (by omega)])
                  have ap9 := apq.trans (Apart.setCell (S := fun j => j = g5) (p := ⟨g5, z, none⟩) rfl (.bool true)) (fun j hj => .inl hj)
                  have Row9 := Lib.hid row9
                  have Ap9 := Lib.hid ap9
                  clear row9 ap9 rowq apq xq
                  go_wp2
                  go_roundw
                  case rel => exact ⟨z + 1, by omega, by go_num, Row9.out, Ap9.out⟩
                  case measure => simp [intOf]; omega
                · have hzae : z = a := by omega
                  subst hzae
                  have hge : ¬ ((z : Int) < (z : Int)) := by omega
                  have rowL : BRow wr g5 n (fun x => !leftQ S ((z : Int), (b : Int)) x) := rowq.congr fun x _ => by
                    unfold leftQ
                    rw [show decide ((x : Int) < ((z : Int), (b : Int)).1) = decide (x < z) from decide_eq_decide.2 (by simp only; omega)]
                    simp [Bool.or_comm]
                  have putq := PutY.out.apart' apq (fun j hj => by have := hob j hj; omega) (by omega)
                  have kq : Below gd w2 wr := KY.out.trans (below_apart apq (by omega) fun j hj => by omega)
                  have call := taMost_any n hn12 (adj l) A2 c2 c5 g5 G wr (TabX.out wr g5 kq (by omega) (by omega)) n (leftQ S ((z : Int), (b : Int))) wr (Nat.le_refl _) (Apart.refl _ _) rowL (by omega)
                  have hle8 := moM_le (t := adj l) (n := n) n (leftQ S ((z : Int), (b : Int)))
                  rw [Hleft.out] at call hle8
                  rw [Nat.sub_self] at call
                  obtain ⟨r, hr⟩ : ∃ r, mx (l.drop (i' + 1)) (cutQ S ((z : Int), (b : Int))) = r := ⟨_, rfl⟩
                  rw [hr] at call hle8
                  have Hr := Lib.hid hr
                  have Call := Lib.hid call
                  have PutQ := Lib.hid putq
                  have Kq := Lib.hid kq
                  have Xq := Lib.hid xq
                  clear hr call putq kq rowL rowq xq
                  go_wp2_with fail
                  refine Call.out.mono ?_
                  rintro e w8 ⟨rfl, ap8, _⟩
                  have s8 := ap8.below.size
                  have put8 := PutQ.out.apart' ap8 (fun j hj => by have := hob j hj; omega) (by omega)
                  have k8 : Below gd w2 w8 := Kq.out.trans (below_apart ap8 (by omega) fun j hj => by omega)
                  have x8 := (ap8.same bx (by omega) (by omega)).trans Xq.out
                  have x80 : w8.cell? ⟨bx, 0, none⟩ = some (.int .i64 (z : Int)) := by rw [cell_of_row _ _ _ _ _ _ x8]; rfl
                  have x81 : w8.cell? ⟨bx, 1, none⟩ = some (.int .i64 (b : Int)) := by rw [cell_of_row _ _ _ _ _ _ x8]; rfl
                  have Put8 := Lib.hid put8
                  have K8 := Lib.hid k8
                  have X9 := Lib.hid x8
                  clear Call ap8 put8 k8 x8 xq0 xq1 PutQ Kq Xq apq
                  by_cases hrk : 1 + r = k
                  · have hrk' : ((1 + (r : Int)) == (k : Int)) = true := by simp; omega
                    obtain ⟨z1, z2⟩ := takeL_y Htk.out hk0 Hhas.out (by rw [Hr.out]; exact hrk)
                    have Z := Lib.hid (And.intro z1 z2)
                    clear z1 z2
                    obtain ⟨V9, hV9⟩ : ∃ V, w8.alloc (Obj.cells #[.int .i64 (z : Int), .int .i64 (b : Int)] 76) = V := ⟨_, rfl⟩
                    have sV9 : V9.heap.size = w8.heap.size + 1 := by rw [← hV9]; simp
                    have own9 : V9.ownsRow (gd + 1) 76 2 (.slice A' o.length c') o.length (pcells o) := by rw [← hV9]; exact Put8.out.own.alloc _
                    have n0 : V9.cell? ⟨w8.heap.size, 0, none⟩ = some (.int .i64 (z : Int)) := by rw [← hV9]; simp
                    have n1 : V9.cell? ⟨w8.heap.size, 1, none⟩ = some (.int .i64 (b : Int)) := by rw [← hV9]; simp
                    have row9 : BRow V9 gd n (fun x => !S x) := by rw [← hV9]; exact Put8.out.row.of_block (heap_alloc_lt _ _ _ Put8.out.lt)
                    have x9 : V9.heap[bx]? = some (Obj.cells #[.int .i64 (z : Int), .int .i64 (b : Int)] 76) := by rw [← hV9, heap_alloc_lt _ _ _ (by omega)]; exact X9.out
                    have k9 : Below gd w2 V9 := by rw [← hV9]; exact K8.out.alloc (by omega) _
                    have HV9 := Lib.hid hV9
                    have Own9 := Lib.hid own9
                    have Row9 := Lib.hid row9
                    have X10 := Lib.hid x9
                    have K9 := Lib.hid k9
                    clear hV9 own9 row9 x9 k9 Put8 K8 X9
                    go_wp2_with (at_builtin; rw [HV9.out]; refine wpList_append_own _ rfl _ _ 22 rfl (gd + 1) 76 i0 _ 2 16 Try.underlying22 hi hz0 hz1 hz2 rfl (by decide) (.slice A' o.length c') o.length (pcells o) rfl Own9.out ⟨w8.heap.size, 0, none⟩ 1 1 [.int .i64 (z : Int), .int .i64 (b : Int)] rfl rfl (two_cells n0 n1) (two_one rfl rfl) ?q3 ?q4 ?q5 ?_)
                    case q3 => unfold maxLen; omega
                    case q4 => omega
                    case q5 => omega
                    intro v10 w10 own10 gr10 _
                    obtain ⟨A10, c10, rfl, _⟩ := own_shape own10
                    have s10 := gr10.size
                    have hgo : some gd ≠ (Value.slice A' o.length c').ownBlock := fun e => by have := (own_lies Own9.out gd e.symm).1; omega
                    have hbo : some bx ≠ (Value.slice A' o.length c').ownBlock := fun e => by have := hob bx e.symm; omega
                    have row10 := Row9.out.of_block (gr10.block gd (by omega) hgo)
                    have x10 := (gr10.block bx (by omega) hbo).trans X10.out
                    have k10 : Below gd w2 w10 := K9.out.grown gr10 (by omega) (fun k hk => by have := (own_lies Own9.out k hk).1; omega)
                    have x100 : w10.cell? ⟨bx, 0, none⟩ = some (.int .i64 (z : Int)) := by rw [cell_of_row _ _ _ _ _ _ x10]; rfl
                    have r100 := row10.cell z han
                    have r10z := row10.frz z han
                    have row11 := row10.set z true
                    have x11 := (Below.heap_setCell w10 ⟨gd, z, none⟩ (.bool true) bx (by simp; omega)).trans x10
                    have x111 : (w10.setCell ⟨gd, z, none⟩ (.bool true)).cell? ⟨bx, 1, none⟩ = some (.int .i64 (b : Int)) := by rw [cell_of_row _ _ _ _ _ _ x11]; rfl
                    have r110 := row11.cell b hbn
                    have r11z := row11.frz b hbn
                    have row12 := (row11.set b true).congr (f' := fun x => !cutQ S ((z : Int), (b : Int)) x) (fun x _ => by
                      rw [cutQ_at]
                      by_cases e1 : x = b
                      · simp [e1]
                      · by_cases e2 : x = z <;> simp [e1, e2])
                    have own12 : ((w10.setCell ⟨gd, z, none⟩ (.bool true)).setCell ⟨gd, b, none⟩ (.bool true)).ownsRow (gd + 1) 76 2 (.slice A10 (o ++ [((z : Int), (b : Int))]).length c10) (o ++ [((z : Int), (b : Int))]).length (pcells (o ++ [((z : Int), (b : Int))])) := by
                      rw [pcells_append, List.length_append]
                      exact ownsRow_setCell_below (ownsRow_setCell_below own10 (a := ⟨gd, z, none⟩) (by simp) _) (a := ⟨gd, b, none⟩) (by simp) _
                    have k12 : Below gd w2 ((w10.setCell ⟨gd, z, none⟩ (.bool true)).setCell ⟨gd, b, none⟩ (.bool true)) := (k10.setCell (by simp) _).setCell (by simp) _
                    have put12 : PutAt ((w10.setCell ⟨gd, z, none⟩ (.bool true)).setCell ⟨gd, b, none⟩ (.bool true)) n (cutQ S ((z : Int), (b : Int))) gd (o ++ [((z : Int), (b : Int))]) A10 c10 := ⟨row12, own12, by simp; omega⟩
                    have Put12 := Lib.hid put12
                    have K12 := Lib.hid k12
                    have hol2 : (o ++ [((z : Int), (b : Int))]).length = o.length + 1 := by simp
                    have Hol2 := Lib.hid hol2
                    clear own10 gr10 row10 row11 row12 x10 x11 k10 own12 k12 put12 hol2 n0 n1
                    go_wp2
                    go_roundw
                    case rel => exact ⟨k - 1, i' + 1, cutQ S ((z : Int), (b : Int)), o ++ [((z : Int), (b : Int))], A10, c10, by omega, by rw [Hol2.out], by congr 1; omega, by go_num, by omega, Z.out.1, Z.out.2, by rw [Hol2.out]; omega, Put12.out, K12.out⟩
                    case measure => simp [intOf]; omega
                  · have hrk' : ((1 + (r : Int)) == (k : Int)) = false := by simp; omega
                    obtain ⟨z1, z2⟩ := takeL_n Hmx.out Htk.out hk0 Hhas.out (by rw [Hr.out]; exact hrk)
                    have Z := Lib.hid (And.intro z1 z2)
                    clear z1 z2 x80 x81
                    go_wp2
                    go_roundw
                    case rel => exact ⟨k, i' + 1, S, o, A', c', by omega, rfl, rfl, by go_num, by omega, Z.out.1, Z.out.2, by omega, Put8.out, K8.out⟩
                    case measure => simp [intOf]; omega
      · have hie : i' = l.length := by omega
        subst hie
        have hge : ¬ ((l.length : Int) < l.length) := by omega
        rw [List.drop_length, takeL] at htk
        have own' := own_lower HPut.out.own (show w.heap.size ≤ gd + 1 by omega)
        clear hmx
        subst htk
        go_wp2
        go_ret2
        exact ⟨A', c', rfl, own', kwr⟩
end Go.Proofs.Ytkiobefojckocaa
/-
  'laws.FnExactMostInPairs' returns true, whatever its arguments: out of the contracts of the model's function and of the program's.
-/
namespace Go.Proofs.Ytkiobefojckocaa
open Go.RowKit

set_option maxHeartbeats 4000000 in
set_option maxRecDepth 100000 in
theorem lawMostInPairs_any (p0 : Int) (l0 : PL) (A0 : Option Addr) (c0 : Nat) (W : World) (hl0 : l0.length ≤ maxLen) (hA0 : CRead W W.heap.size A0 (pcells l0)) :
    Calls Try.prog 6 #[.agg #[.int .i64 p0, .slice A0 l0.length c0]] W fun e w' => e = .returned (.bool true) ∧ Below W.heap.size W w' := by
  have hone : (0 : Int) ≤ 1 ∧ (1 : Int) ≤ 16777216 := by omega
  by_cases hz0 : szI (1048576) l0.length < 0
  · go_enter Try.func6, Try.ntmps6
    go_wp2_with fail
    refine (szParty_any _ _ _ _ _ hl0 (by omega) (by omega) _).mono ?_
    rintro e w1 ⟨rfl, hb1⟩
    simp only [World.size_alloc] at hb1
    have g1 : Below W.heap.size W w1 := Below.trans (b := _) (by go_grown) (hb1.mono (by omega))
    have s1 := hb1.size
    simp only [World.size_alloc] at s1
    have f1_0 : w1.cell? ⟨W.heap.size, 0, none⟩ = some (.int .i64 p0) := carry hb1 (by simp) (by omega)
    have f1_1 : w1.cell? ⟨W.heap.size, 1, none⟩ = some (.slice A0 l0.length c0) := carry hb1 (by simp) (by omega)
    have k1 : Below W.heap.size W w1 := g1
    go_wp2
    go_ret
    exact ⟨rfl, k1⟩
  have hn0 : l0.length ≤ 1048576 := by have h1 := szI_len _ _ hz0; have h2 := szI_hi (1048576) l0.length (by omega); omega
  have hz0' : 0 ≤ szI (1048576) l0.length := by omega
  have hz0'' : szI (1048576) l0.length ≤ 1048576 := by have h2 := szI_hi (1048576) l0.length (by omega); omega
  obtain ⟨⟨rm, rok⟩, hres⟩ : ∃ r, resMostInPairs p0 l0 = r := ⟨_, rfl⟩
  have hrn : rm.length ≤ 1048576 := by have h := resMostInPairs_len p0 l0; rw [hres] at h; exact h
  have hrl : rm.length ≤ maxLen := by unfold maxLen; omega
  have Hres := Lib.hid hres
  clear hres
  go_enter Try.func6, Try.ntmps6
  go_wp2_with fail
  refine (szParty_any _ _ _ _ _ hl0 (by omega) (by omega) _).mono ?_
  rintro e w1 ⟨rfl, hb1⟩
  simp only [World.size_alloc] at hb1
  have g1 : Below W.heap.size W w1 := Below.trans (b := _) (by go_grown) (hb1.mono (by omega))
  have s1 := hb1.size
  simp only [World.size_alloc] at s1
  have f1_0 : w1.cell? ⟨W.heap.size, 0, none⟩ = some (.int .i64 p0) := carry hb1 (by simp) (by omega)
  have f1_1 : w1.cell? ⟨W.heap.size, 1, none⟩ = some (.slice A0 l0.length c0) := carry hb1 (by simp) (by omega)
  have k1 : Below W.heap.size W w1 := g1
  go_wp2_with fail
  refine (toParty_any p0 l0 A0 c0 _ hn0 ((hA0.below k1 (Nat.le_refl _)).more k1.size)).mono ?_
  rintro e w2 ⟨T2, d2, rfl, n2, hb2⟩
  have g2 : Below w1.heap.size w1 w2 := hb2
  have s2 := hb2.size
  have f2_0 := carry g2 f1_0 (by omega)
  have f2_1 := carry g2 f1_1 (by omega)
  have k2 := k1.trans (g2.mono k1.size)
  clear f1_0 f1_1
  have r2 : Lies (.slice T2 l0.length d2) (w1.heap.size) w2.heap.size := own_lies n2
  go_wp2_with fail
  refine (specMostInPairs_any p0 l0 _ _ _ hn0 (CRead.of_own n2)).mono ?_
  rw [Hres.out]
  rintro e w3 ⟨T3, d3, rfl, n3, hb3⟩
  have g3 : Below w2.heap.size w2 w3 := hb3
  have s3 := hb3.size
  have f3_0 := carry g3 f2_0 (by omega)
  have f3_1 := carry g3 f2_1 (by omega)
  have o3_0 := own_below n2 g3 (Nat.le_refl _)
  have k3 := k2.trans (g3.mono k2.size)
  clear f2_0 f2_1 n2
  have r3 : Lies (.slice T3 rm.length d3) (w2.heap.size) w3.heap.size := own_lies n3
  clear o3_0 r2
  go_wp2_with fail
  refine (toParty_any p0 l0 A0 c0 _ hn0 ((hA0.below k3 (Nat.le_refl _)).more k3.size)).mono ?_
  rintro e w4 ⟨T4, d4, rfl, n4, hb4⟩
  have g4 : Below w3.heap.size w3 w4 := hb4
  have s4 := hb4.size
  have f4_0 := carry g4 f3_0 (by omega)
  have f4_1 := carry g4 f3_1 (by omega)
  have o4_0 := own_below n3 g4 (Nat.le_refl _)
  have k4 := k3.trans (g4.mono k3.size)
  clear f3_0 f3_1 n3
  have r4 : Lies (.slice T4 l0.length d4) (w3.heap.size) w4.heap.size := own_lies n4
  have q5_0 : (w4.alloc (Obj.cells #[.int .i64 p0, .slice T4 l0.length d4] 24)).cell? ⟨W.heap.size, 0, none⟩ = some (.int .i64 p0) := (World.cell?_alloc_lt _ _ _ (show W.heap.size < w4.heap.size by omega)).trans f4_0
  have q5_1 : (w4.alloc (Obj.cells #[.int .i64 p0, .slice T4 l0.length d4] 24)).cell? ⟨W.heap.size, 1, none⟩ = some (.slice A0 l0.length c0) := (World.cell?_alloc_lt _ _ _ (show W.heap.size < w4.heap.size by omega)).trans f4_1
  go_wp2_with fail
  refine (implMostInPairs_any p0 l0 _ _ _ hn0 (((CRead.of_own n4).below (B' := w4.heap.size) (by go_grown) (Nat.le_refl _)).more (by go_size)) (own_cap n4)).mono ?_
  rw [Hres.out]
  rintro e w6 ⟨T6, d6, rfl, n6, hb6⟩
  simp only [World.size_alloc] at n6
  simp only [World.size_alloc] at hb6
  have g6 : Below w4.heap.size w4 w6 := Below.trans (b := _) (by go_grown) (hb6.mono (by omega))
  have s6 := hb6.size
  simp only [World.size_alloc] at s6
  have f6_0 := carry g6 f4_0 (by omega)
  have f6_1 := carry g6 f4_1 (by omega)
  have f6_2 : w6.cell? ⟨w4.heap.size, 0, none⟩ = some (.int .i64 p0) := carry hb6 (by simp) (by omega)
  have f6_3 : w6.cell? ⟨w4.heap.size, 1, none⟩ = some (.slice T4 l0.length d4) := carry hb6 (by simp) (by omega)
  have o6_0 := own_below o4_0 g6 (Nat.le_refl _)
  have o6_1 := own_below n4 g6 (Nat.le_refl _)
  have k6 := k4.trans (g6.mono k4.size)
  clear f4_0 f4_1 o4_0 n4 q5_0 q5_1
  have r6 : Lies (.slice T6 rm.length d6) (w4.heap.size + 1) w6.heap.size := own_lies n6
  go_wp2_with fail
  refine (eqPairS_any rm rm _ _ _ _ _ hrl hrl (CRead.of_own n6) (CRead.of_own o6_0)).mono ?_
  rw [decide_eq_true rfl]
  rintro e w7 ⟨rfl, hb7⟩
  have g7 : Below w6.heap.size w6 w7 := hb7
  have s7 := hb7.size
  have f7_0 := carry g7 f6_0 (by omega)
  have f7_1 := carry g7 f6_1 (by omega)
  have f7_2 := carry g7 f6_2 (by omega)
  have f7_3 := carry g7 f6_3 (by omega)
  have o7_0 := own_below o6_0 g7 (Nat.le_refl _)
  have o7_1 := own_below o6_1 g7 (Nat.le_refl _)
  have o7_2 := own_below n6 g7 (Nat.le_refl _)
  have k7 := k6.trans (g7.mono k6.size)
  clear f6_0 f6_1 f6_2 f6_3 o6_0 o6_1 n6
  go_wp2
  go_region_held3 (fun w' => w'.cell? ⟨W.heap.size, 0, none⟩ = some (.int .i64 p0) ∧ w'.cell? ⟨W.heap.size, 1, none⟩ = some (.slice A0 l0.length c0) ∧ w'.cell? ⟨w4.heap.size, 0, none⟩ = some (.int .i64 p0) ∧ w'.cell? ⟨w4.heap.size, 1, none⟩ = some (.slice T4 l0.length d4)) (first | exact ⟨f7_0, f7_1, f7_2, f7_3⟩ | exact ⟨f8_0, f8_1, f8_2, f8_3⟩ | exact ⟨f9_0, f9_1, f9_2, f9_3⟩) ((first | (go_at_call 22; refine (toParty_any p0 l0 A0 c0 _ hn0 ((hA0.below k7.drew (Nat.le_refl _)).more k7.size)).mono ?_; rintro e w8 ⟨T8, d8, rfl, n8, hb8⟩; have g8 : Below w7.heap.size w7 w8 := (Below.refl _ _).drew.trans hb8; have s8 := g8.size; have f8_0 := carry g8 f7_0 (by omega); have f8_1 := carry g8 f7_1 (by omega); have f8_2 := carry g8 f7_2 (by omega); have f8_3 := carry g8 f7_3 (by omega); have o8_0 := own_below o7_0 g8 (Nat.le_refl _); have o8_1 := own_below o7_1 g8 (Nat.le_refl _); have o8_2 := own_below o7_2 g8 (Nat.le_refl _); have k8 := k7.trans (g8.mono k7.size)) | (go_at_call 25; refine (eqParty_any p0 p0 l0 l0 _ _ _ _ _ hl0 hl0 (CRead.of_own o8_1) (CRead.of_own n8)).mono ?_; rw [decide_eq_true ⟨rfl, rfl⟩]; rintro e w9 ⟨rfl, hb9⟩; have g9 : Below w8.heap.size w8 w9 := hb9; have s9 := g9.size; have f9_0 := carry g9 f8_0 (by omega); have f9_1 := carry g9 f8_1 (by omega); have f9_2 := carry g9 f8_2 (by omega); have f9_3 := carry g9 f8_3 (by omega); have o9_0 := own_below o8_0 g9 (Nat.le_refl _); have o9_1 := own_below o8_1 g9 (Nat.le_refl _); have o9_2 := own_below o8_2 g9 (Nat.le_refl _); have k9 := k8.trans (g9.mono k8.size))))
  clear f7_0 f7_1 f7_2 f7_3 o7_0 o7_1 o7_2 f8_0 f8_1 f8_2 f8_3 o8_0 o8_1 o8_2 n8
  go_wp2_with fail
  refine (markParty_any p0 l0 _ _ _ (1) _ _ rfl hn0 (by omega) o9_1).mono ?_
  rintro e w10 ⟨rfl, n10, hg10⟩
  have s10 := hg10.size
  have f10_0 := carryG hg10 r4 f9_0 (by omega)
  have f10_1 := carryG hg10 r4 f9_1 (by omega)
  have f10_2 := carryG hg10 r4 f9_2 (by omega)
  have f10_3 := carryG hg10 r4 f9_3 (by omega)
  have o10_0 := keptG hg10 r4 o9_0 r3 (by omega)
  have o10_2 := keptG hg10 r4 o9_2 r6 (by omega)
  have k10 := belowG k9 hg10 r4 k9.size (by omega)
  clear f9_0 f9_1 f9_2 f9_3 o9_0 o9_1 o9_2
  have hmk : ¬ (1 + 2 * (l0.length : Int) < 0) := by omega
  go_wp2_with fail
  refine (eqPairS_any rm rm _ _ _ _ _ hrl hrl (CRead.of_own o10_2) (CRead.of_own o10_0)).mono ?_
  rw [decide_eq_true rfl]
  rintro e w11 ⟨rfl, hb11⟩
  have g11 : Below w10.heap.size w10 w11 := hb11
  have s11 := hb11.size
  have f11_0 := carry g11 f10_0 (by omega)
  have f11_1 := carry g11 f10_1 (by omega)
  have f11_2 := carry g11 f10_2 (by omega)
  have f11_3 := carry g11 f10_3 (by omega)
  have o11_0 := own_below o10_0 g11 (Nat.le_refl _)
  have o11_1 := own_below n10 g11 (Nat.le_refl _)
  have o11_2 := own_below o10_2 g11 (Nat.le_refl _)
  have k11 := k10.trans (g11.mono k10.size)
  clear f10_0 f10_1 f10_2 f10_3 o10_0 n10 o10_2
  clear o11_1 r4
  go_wp2_with fail
  refine (markPairS_any rm _ _ _ 1 _ _ rfl hrn hone o11_2).mono ?_
  rintro e w12 ⟨rfl, n12, hg12⟩
  have s12 := hg12.size
  have f12_0 := carryG hg12 r6 f11_0 (by omega)
  have f12_1 := carryG hg12 r6 f11_1 (by omega)
  have f12_2 := carryG hg12 r6 f11_2 (by omega)
  have f12_3 := carryG hg12 r6 f11_3 (by omega)
  have o12_0 := keptG hg12 r6 o11_0 r3 (by omega)
  have k12 := belowG k11 hg12 r6 k11.size (by omega)
  clear f11_0 f11_1 f11_2 f11_3 o11_0 o11_2
  have hmr : ¬ (1 + 2 * (rm.length : Int) < 0) := by omega
  go_wp2_with fail
  refine (heldPairS_any _ _ _ 1 _ hrn hone (CRead.of_own n12)).mono ?_
  rintro e w13 ⟨rfl, h13⟩
  subst h13
  go_wp2_with fail
  refine (toParty_any p0 l0 A0 c0 _ hn0 ((hA0.below k12 (Nat.le_refl _)).more k12.size)).mono ?_
  rintro e w14 ⟨T14, d14, rfl, n14, hb14⟩
  have g14 : Below w12.heap.size w12 w14 := hb14
  have s14 := hb14.size
  have f14_0 := carry g14 f12_0 (by omega)
  have f14_1 := carry g14 f12_1 (by omega)
  have f14_2 := carry g14 f12_2 (by omega)
  have f14_3 := carry g14 f12_3 (by omega)
  have o14_0 := own_below o12_0 g14 (Nat.le_refl _)
  have o14_1 := own_below n12 g14 (Nat.le_refl _)
  have k14 := k12.trans (g14.mono k12.size)
  clear f12_0 f12_1 f12_2 f12_3 o12_0 n12
  have r14 : Lies (.slice T14 l0.length d14) (w12.heap.size) w14.heap.size := own_lies n14
  go_wp2_with fail
  refine (implMostInPairs_any p0 l0 _ _ _ hn0 (CRead.of_own n14) (own_cap n14)).mono ?_
  rw [Hres.out]
  rintro e w15 ⟨T15, d15, rfl, n15, hb15⟩
  have g15 : Below w14.heap.size w14 w15 := hb15
  have s15 := hb15.size
  have f15_0 := carry g15 f14_0 (by omega)
  have f15_1 := carry g15 f14_1 (by omega)
  have f15_2 := carry g15 f14_2 (by omega)
  have f15_3 := carry g15 f14_3 (by omega)
  have o15_0 := own_below o14_0 g15 (Nat.le_refl _)
  have o15_1 := own_below o14_1 g15 (Nat.le_refl _)
  have o15_2 := own_below n14 g15 (Nat.le_refl _)
  have k15 := k14.trans (g15.mono k14.size)
  clear f14_0 f14_1 f14_2 f14_3 o14_0 o14_1 n14
  have r15 : Lies (.slice T15 rm.length d15) (w14.heap.size) w15.heap.size := own_lies n15
  clear o15_2 r14
  go_wp2_with fail
  refine (eqPairS_any rm rm _ _ _ _ _ hrl hrl (CRead.of_own n15) (CRead.of_own o15_0)).mono ?_
  rw [decide_eq_true rfl]
  rintro e w16 ⟨rfl, hb16⟩
  have g16 : Below w15.heap.size w15 w16 := hb16
  have s16 := hb16.size
  have f16_0 := carry g16 f15_0 (by omega)
  have f16_1 := carry g16 f15_1 (by omega)
  have f16_2 := carry g16 f15_2 (by omega)
  have f16_3 := carry g16 f15_3 (by omega)
  have o16_0 := own_below o15_0 g16 (Nat.le_refl _)
  have o16_1 := own_below o15_1 g16 (Nat.le_refl _)
  have o16_2 := own_below n15 g16 (Nat.le_refl _)
  have k16 := k15.trans (g16.mono k15.size)
  clear f15_0 f15_1 f15_2 f15_3 o15_0 o15_1 n15
  go_wp2_with fail
  refine (heldPairS_any _ _ _ 1 _ hrn hone (CRead.of_own o16_1)).mono ?_
  rintro e w17 ⟨rfl, h17⟩
  subst h17
  go_wp2
  go_ret
  exact ⟨rfl, k16⟩
end Go.Proofs.Ytkiobefojckocaa
/-
  THE PROGRAM's HEAD, LOOKED AT ONCE: which make it is, and that a call may enter it. (The head's text is long: the kernel must not read it twice.)
-/
namespace Go.Proofs.Ytkiobefojckocaa

theorem make_of {P : Program} {rest : List (List Char)} (h : behindMainWord (wordsSigns P.initOrder.toList) = "cut".toList :: rest) : P.make = some .cut := by
  unfold Program.make
  rw [h]
  rfl
theorem strip_cut (rest : List (List Char)) : stripLifts liftWords ("cut".toList :: rest) = ([], "cut".toList :: rest) := rfl
theorem lifts_of {P : Program} {rest : List (List Char)} (h : behindMainWord (wordsSigns P.initOrder.toList) = "cut".toList :: rest) : P.headLifts = [] := by
  unfold Program.headLifts
  rw [h, strip_cut]
  rfl
theorem final_of {P : Program} {rest : List (List Char)} (h : behindMainWord (wordsSigns P.initOrder.toList) = "cut".toList :: rest) : P.liftsFinal = false := by
  unfold Program.liftsFinal
  rw [lifts_of h, h]
  rfl
theorem enter_of {P : Program} {rest : List (List Char)} (h : behindMainWord (wordsSigns P.initOrder.toList) = "cut".toList :: rest) (h1 : P.laysLater = false) (h2 : P.bearsReflect = false) (h3 : P.doorFits [] = true) : P.mayEnter = true := by
  unfold Program.mayEnter
  rw [h]
  show (_ || _ || _) = true
  rw [strip_cut, h1, h2, h3]
  rfl
end Go.Proofs.Ytkiobefojckocaa
