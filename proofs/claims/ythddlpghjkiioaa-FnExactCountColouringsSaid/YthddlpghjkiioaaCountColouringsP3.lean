/-
  Texts put together for the claims of 'CountColourings' (pack 3): GreedP, ColsP, ColsQ, Nums, NumsW, Has, GreedS, ColsS, Meet, MeetW.
-/
import Derived.Test.YthddlpghjkiioaaCountColouringsP1
import Derived.Test.YthddlpghjkiioaaCountColouringsP2
/-
  COLOURS GIVEN ONE AFTER THE OTHER, as plain lists: the least one that nobody tied has. Nothing here speaks of the program.
-/
namespace Go.Proofs.Ythddlpghjkiioaa
open Go.RowKit

def hasTo (t : Nat → Nat → Bool) (col : Nat → Int) (j a : Nat) (c : Int) : Bool := (List.range j).any fun b => t a b && decide (col b = c)
theorem hasTo_zero (t : Nat → Nat → Bool) (col : Nat → Int) (a : Nat) (c : Int) : hasTo t col 0 a c = false := rfl
theorem hasTo_succ (t : Nat → Nat → Bool) (col : Nat → Int) (j a : Nat) (c : Int) : hasTo t col (j + 1) a c = (hasTo t col j a c || (t a j && decide (col j = c))) := by simp [hasTo, List.range_succ, List.any_append]
def freeC (t : Nat → Nat → Bool) (col : Nat → Int) (n K a : Nat) : Nat := ((List.range K).find? fun c : Nat => !hasTo t col n a (c : Int)).getD K
theorem freeC_eq {t : Nat → Nat → Bool} {col : Nat → Int} {n K a c : Nat} (h1 : ∀ c', c' < c → hasTo t col n a (c' : Int) = true) (h2 : c < K → hasTo t col n a (c : Int) = false) (hc : c ≤ K) : freeC t col n K a = c := by
  unfold freeC
  by_cases hK : c < K
  · have e : (List.range K).find? (fun c : Nat => !hasTo t col n a (c : Int)) = some c := by
      rw [List.find?_eq_some_iff_getElem]
      refine ⟨by simp [h2 hK], c, by simpa using hK, by simp, fun j hj => ?_⟩
      simp [h1 j hj]
    rw [e]; rfl
  · have e : (List.range K).find? (fun c : Nat => !hasTo t col n a (c : Int)) = none := by
      rw [List.find?_eq_none]
      intro x hx
      have := List.mem_range.1 hx
      simp [h1 x (by omega)]
    rw [e]
    show K = c
    omega
def stepC (t : Nat → Nat → Bool) (n : Nat) (s : (Nat → Int) × Nat) (x : Int) : (Nat → Int) × Nat :=
  (upN s.1 x.toNat (freeC t s.1 n s.2 x.toNat : Int), if freeC t s.1 n s.2 x.toNat = s.2 then s.2 + 1 else s.2)
def runC (t : Nat → Nat → Bool) (n : Nat) (q : List Int) : (Nat → Int) × Nat := q.foldl (stepC t n) (fun _ => -1, 0)
theorem runC_snoc (t : Nat → Nat → Bool) (n : Nat) (q : List Int) (x : Int) : runC t n (q ++ [x]) = stepC t n (runC t n q) x := by simp [runC, List.foldl_append]
theorem freeC_le (t : Nat → Nat → Bool) (col : Nat → Int) (n K a : Nat) : freeC t col n K a ≤ K := by
  unfold freeC
  cases e : (List.range K).find? fun c : Nat => !hasTo t col n a (c : Int) with
  | none => exact Nat.le_refl _
  | some c => have := List.mem_range.1 (List.mem_of_find?_eq_some e); simp; omega
structure Coloured (q : List Int) (s : (Nat → Int) × Nat) : Prop where
  low : ∀ b, s.1 b = -1 ∨ 0 ≤ s.1 b ∧ s.1 b < s.2
  few : s.2 ≤ q.length
  all : ∀ x ∈ q, 0 ≤ s.1 x.toNat
theorem runC_good (t : Nat → Nat → Bool) (n : Nat) (q : List Int) : Coloured q (runC t n q) := by
  induction q using snocRec with
  | nil => exact ⟨fun b => .inl rfl, Nat.le_refl _, fun x hx => by cases hx⟩
  | append_singleton q x ih =>
    rw [runC_snoc]
    have hle := freeC_le t (runC t n q).1 n (runC t n q).2 x.toNat
    unfold stepC
    obtain ⟨F, hF⟩ : ∃ F, freeC t (runC t n q).1 n (runC t n q).2 x.toNat = F := ⟨_, rfl⟩
    rw [hF] at hle ⊢
    have h1 := ih.low
    have h2 := ih.few
    have h3 := ih.all
    refine ⟨fun b => ?_, ?_, fun y hy => ?_⟩
    · by_cases hb : b = x.toNat
      · subst hb
        right
        simp only [upN_self]
        split <;> omega
      · simp only [upN_ne _ _ hb]
        rcases h1 b with h | h
        · exact .inl h
        · right; split <;> omega
    · simp only [List.length_append, List.length_singleton]
      split <;> omega
    · by_cases hb : y.toNat = x.toNat
      · simp only [hb, upN_self]; omega
      · simp only [upN_ne _ _ hb]
        rcases List.mem_append.1 hy with h | h
        · exact h3 y h
        · simp at h; subst h; exact absurd rfl hb
theorem hasTo_over {t : Nat → Nat → Bool} {q : List Int} {s : (Nat → Int) × Nat} (h : Coloured q s) (n a : Nat) {c : Nat} (hc : s.2 ≤ c) : hasTo t s.1 n a (c : Int) = false := by
  unfold hasTo
  rw [List.any_eq_false]
  intro b _
  have := h.low b
  simp
  omega
def colsG (t : Nat → Nat → Bool) (n : Nat) (q : List Int) : List Int := (List.range n).map (runC t n q).1
/-- the program's list: those who have no colour yet have the first one -/
def posC (col : Nat → Int) (b : Nat) : Int := if col b < 0 then 0 else col b
theorem posC_up (col : Nat → Int) (a c : Nat) : upN (posC col) a (c : Int) = posC (upN col a (c : Int)) := by
  funext b
  unfold posC
  by_cases hb : b = a
  · subst hb; simp only [upN_self]; rw [if_neg (by omega)]
  · simp only [upN_ne _ _ hb]
theorem naming_nat {n : Nat} {q : List Int} (h : isNamingI n q = true) : ∀ b, b < n → (b : Int) ∈ q := fun b hb => naming_all h (i := b) (by omega)
theorem colsG_pos {t : Nat → Nat → Bool} {n : Nat} {q : List Int} (h : isNamingI n q = true) : (List.range n).map (posC (runC t n q).1) = colsG t n q := by
  unfold colsG
  refine List.map_congr_left fun b hb => ?_
  have hm := naming_nat h b (List.mem_range.1 hb)
  have := (runC_good t n q).all _ hm
  rw [Int.toNat_natCast] at this
  unfold posC
  rw [if_neg (by omega)]
def resGreedyColouring (p : Int) (l : PL) (q : List Int) : List Int × Bool := if isP p l && isNamingI p q then (colsG (adj l) p.toNat q, true) else ([], false)
theorem resGreedyColouring_len (p : Int) (l : PL) (q : List Int) : (resGreedyColouring p l q).1.length ≤ 1048576 := by
  unfold resGreedyColouring
  split
  · rename_i h
    have := isP_range (show isP p l = true by rw [Bool.and_eq_true] at h; exact h.1)
    simp [colsG]
    omega
  · simp
theorem map_range_at {α : Type} (f : Nat → α) {n k : Nat} (h : k < n) : ((List.range n).map f)[k]? = some (f k) := by simp [h]
end Go.Proofs.Ythddlpghjkiioaa
/-
  COLOURINGS LOOKED FOR ONE PERSON AFTER THE OTHER, as plain lists: the first one of so many colours. Nothing here speaks of the program.
-/
namespace Go.Proofs.Ythddlpghjkiioaa
open Go.RowKit

theorem hasTo_congr {t : Nat → Nat → Bool} {f g : Nat → Int} {m : Nat} (h : ∀ b, b < m → f b = g b) (a : Nat) (c : Int) : hasTo t f m a c = hasTo t g m a c := by
  induction m with
  | zero => rfl
  | succ m ih => rw [hasTo_succ, hasTo_succ, ih (fun b hb => h b (by omega)), h m (by omega)]

/-- The colours told to the first people as a function. -/
def ofTold (q : List Int) (b : Nat) : Int := q.getD b 0
theorem ofTold_old (q : List Int) (c : Int) {b : Nat} (h : b < q.length) : ofTold (q ++ [c]) b = ofTold q b := by
  unfold ofTold
  rw [List.getD_eq_getElem?_getD, List.getD_eq_getElem?_getD, List.getElem?_append_left h]
theorem ofTold_new (q : List Int) (c : Int) : ofTold (q ++ [c]) q.length = c := by
  unfold ofTold
  simp [List.getD_eq_getElem?_getD]

/-- The first list of k more colours, each less than a number, behind those told, in which no two who are tied have the same one. -/
def lookC (t : Nat → Nat → Bool) (most : Nat) : Nat → List Int → Option (List Int)
  | 0, q => some q
  | k + 1, q => (List.range most).findSome? fun c : Nat => if hasTo t (ofTold q) q.length q.length (c : Int) then none else lookC t most k (q ++ [(c : Int)])
theorem lookC_none {t : Nat → Nat → Bool} {most k : Nat} {q : List Int} (h : ∀ c : Nat, c < most → (if hasTo t (ofTold q) q.length q.length (c : Int) then none else lookC t most k (q ++ [(c : Int)])) = none) : lookC t most (k + 1) q = none := by
  unfold lookC
  rw [List.findSome?_eq_none_iff]
  intro c hc
  exact h c (List.mem_range.1 hc)
theorem findSome_range {α : Type} (g : Nat → Option α) {m c : Nat} (hc : c < m) (h : ∀ c', c' < c → g c' = none) {r : α} (hr : g c = some r) : (List.range m).findSome? g = some r := by
  induction m with
  | zero => omega
  | succ m ih =>
    rw [List.range_succ, List.findSome?_append]
    by_cases e : c < m
    · rw [ih e]; rfl
    · have : c = m := by omega
      subst this
      have h0 : (List.range c).findSome? g = none := by
        rw [List.findSome?_eq_none_iff]
        intro x hx
        exact h x (List.mem_range.1 hx)
      rw [h0]
      simp [hr]
theorem lookC_some {t : Nat → Nat → Bool} {most k c : Nat} {q r : List Int} (hc : c < most) (h : ∀ c' : Nat, c' < c → (if hasTo t (ofTold q) q.length q.length (c' : Int) then none else lookC t most k (q ++ [(c' : Int)])) = none)
    (hr : (if hasTo t (ofTold q) q.length q.length (c : Int) then none else lookC t most k (q ++ [(c : Int)])) = some r) : lookC t most (k + 1) q = some r := by
  unfold lookC
  exact findSome_range _ hc h hr
theorem lookC_length {t : Nat → Nat → Bool} {most k : Nat} {q r : List Int} (h : lookC t most k q = some r) : r.length = q.length + k := by
  induction k generalizing q with
  | zero => cases h; rfl
  | succ k ih =>
    unfold lookC at h
    obtain ⟨c, _, hc⟩ := List.exists_of_findSome?_eq_some h
    split at hc
    · cases hc
    · have := ih hc
      simp at this
      omega

/-- The fewest colours that the model finds, and the colouring: people up to n. -/
def fewestC (t : Nat → Nat → Bool) (n : Nat) : List Int × Nat :=
  match (List.range n).findSome? fun most => (lookC t most n []).map fun r => (r, most) with
  | some x => x
  | none => ((List.range n).map fun a : Nat => (a : Int), n)
theorem fewestC_some {t : Nat → Nat → Bool} {n m : Nat} {r : List Int} (hm : m < n) (h : ∀ m', m' < m → lookC t m' n [] = none) (hr : lookC t m n [] = some r) : fewestC t n = (r, m) := by
  have e : (List.range n).findSome? (fun most => (lookC t most n []).map fun r => (r, most)) = some (r, m) := findSome_range _ hm (fun m' h' => by rw [h m' h']; rfl) (by rw [hr]; rfl)
  unfold fewestC
  rw [e]
theorem fewestC_none {t : Nat → Nat → Bool} {n : Nat} (h : ∀ m', m' < n → lookC t m' n [] = none) : fewestC t n = ((List.range n).map fun a : Nat => (a : Int), n) := by
  have e : (List.range n).findSome? (fun most => (lookC t most n []).map fun r => (r, most)) = none := by
    rw [List.findSome?_eq_none_iff]
    intro x hx
    rw [h x (List.mem_range.1 hx)]
    rfl
  unfold fewestC
  rw [e]
theorem map_ofTold {r : List Int} {n : Nat} (h : r.length = n) : (List.range n).map (ofTold r) = r := by
  refine List.ext_getElem (by simp [h]) fun i h1 h2 => ?_
  simp [ofTold, List.getD_eq_getElem?_getD, List.getElem?_eq_getElem h2]
theorem fewestC_length (t : Nat → Nat → Bool) (n : Nat) : (fewestC t n).1.length = n := by
  unfold fewestC
  split
  · next x h =>
    obtain ⟨m, _, hm⟩ := List.exists_of_findSome?_eq_some h
    obtain ⟨r, hr, rfl⟩ := Option.map_eq_some_iff.1 hm
    simpa using lookC_length hr
  · simp
theorem fewestC_le (t : Nat → Nat → Bool) (n : Nat) : (fewestC t n).2 ≤ n := by
  unfold fewestC
  split
  · next x h =>
    obtain ⟨m, hm0, hm⟩ := List.exists_of_findSome?_eq_some h
    obtain ⟨r, _, rfl⟩ := Option.map_eq_some_iff.1 hm
    exact Nat.le_of_lt (List.mem_range.1 hm0)
  · exact Nat.le_refl _
end Go.Proofs.Ythddlpghjkiioaa
/-
  COLOURINGS IN WHICH EACH COLOUR COMES AFTER THE LESSER ONES: the first of them is the first of all, and has as many colours as are the fewest. Nothing here speaks of the program.
-/
namespace Go.Proofs.Ythddlpghjkiioaa
open Go.RowKit

/-- One more than the greatest colour. -/
def usedC (q : List Int) : Nat := q.foldl (fun u x => max u (x.toNat + 1)) 0
theorem usedC_snoc (q : List Int) (c : Int) : usedC (q ++ [c]) = max (usedC q) (c.toNat + 1) := by simp [usedC, List.foldl_append]
theorem usedC_nil : usedC [] = 0 := rfl
theorem usedC_lt {q : List Int} {x : Int} (h : x ∈ q) : x.toNat < usedC q := by
  induction q using snocRec with
  | nil => cases h
  | append_singleton q c ih =>
    rw [usedC_snoc]
    rcases List.mem_append.1 h with h | h
    · have := ih h; omega
    · have := List.mem_singleton.1 h; subst this; omega
/-- All lists of k more colours, each less than a number, in which each one comes after the lesser ones. -/
def growC (t : Nat → Nat → Bool) (most : Nat) : Nat → List Int → List (List Int)
  | 0, q => [q]
  | k + 1, q => (List.range (min (usedC q + 1) most)).flatMap fun c : Nat => if hasTo t (ofTold q) q.length q.length (c : Int) then [] else growC t most k (q ++ [(c : Int)])

theorem look_iff {t : Nat → Nat → Bool} {m k : Nat} {q : List Int} : (lookC t m (k + 1) q).isSome = true ↔ ∃ c : Nat, c < m ∧ hasTo t (ofTold q) q.length q.length (c : Int) = false ∧ (lookC t m k (q ++ [(c : Int)])).isSome = true := by
  constructor
  · intro h
    obtain ⟨r, hr⟩ := Option.isSome_iff_exists.1 h
    unfold lookC at hr
    obtain ⟨c, hc, he⟩ := List.exists_of_findSome?_eq_some hr
    cases hh : hasTo t (ofTold q) q.length q.length (c : Int) with
    | true => rw [hh, if_pos rfl] at he; cases he
    | false =>
      rw [hh, if_neg (by simp)] at he
      exact ⟨c, List.mem_range.1 hc, hh, by rw [he]; rfl⟩
  · rintro ⟨c, hc, hf, hs⟩
    cases hn : lookC t m (k + 1) q with
    | some r => rfl
    | none =>
      unfold lookC at hn
      rw [List.findSome?_eq_none_iff] at hn
      have := hn c (List.mem_range.2 hc)
      rw [if_neg (by rw [hf]; simp)] at this
      rw [this] at hs
      cases hs
/-- Two colours exchanged. -/
def swapC (u v : Nat) (x : Int) : Int := if x = u then v else if x = v then u else x
theorem swapC_inj {u v : Nat} {x y : Int} (h : swapC u v x = swapC u v y) : x = y := by
  unfold swapC at h
  split at h <;> split at h <;> (try split at h) <;> (try split at h) <;> omega
theorem swapC_nat {u v m : Nat} (hu : u < m) (hv : v < m) {c : Nat} (hc : c < m) : ∃ c' : Nat, c' < m ∧ swapC u v (c : Int) = (c' : Int) := by
  unfold swapC
  split
  · exact ⟨v, hv, rfl⟩
  · split
    · exact ⟨u, hu, rfl⟩
    · exact ⟨c, hc, rfl⟩
theorem ofTold_map (g : Int → Int) (q : List Int) {b : Nat} (h : b < q.length) : ofTold (q.map g) b = g (ofTold q b) := by
  unfold ofTold
  rw [List.getD_eq_getElem?_getD, List.getD_eq_getElem?_getD, List.getElem?_map, List.getElem?_eq_getElem h]
  rfl
theorem hasTo_swap {t : Nat → Nat → Bool} {u v a : Nat} {q : List Int} {c : Int} : ∀ {m : Nat}, m ≤ q.length → hasTo t (ofTold (q.map (swapC u v))) m a (swapC u v c) = hasTo t (ofTold q) m a c := by
  intro m
  induction m with
  | zero => intro _; rfl
  | succ m ih =>
    intro hm
    rw [hasTo_succ, hasTo_succ, ih (by omega), ofTold_map _ _ (by omega)]
    congr 2
    by_cases e : ofTold q m = c
    · rw [e]; simp
    · rw [decide_eq_false e, decide_eq_false fun h => e (swapC_inj h)]
theorem look_swap {t : Nat → Nat → Bool} {u v m : Nat} (hu : u < m) (hv : v < m) : ∀ {k : Nat} {q : List Int}, (lookC t m k q).isSome = true → (lookC t m k (q.map (swapC u v))).isSome = true := by
  intro k
  induction k with
  | zero => intro q _; rfl
  | succ k ih =>
    intro q h
    obtain ⟨c, hc, hf, hs⟩ := look_iff.1 h
    obtain ⟨c', hc', he⟩ := swapC_nat hu hv hc
    refine look_iff.2 ⟨c', hc', ?_, ?_⟩
    · rw [← he, List.length_map, hasTo_swap (Nat.le_refl _)]; exact hf
    · have := ih hs
      rw [List.map_append, List.map_cons, List.map_nil, he] at this
      exact this
theorem free_new {t : Nat → Nat → Bool} {q : List Int} {c : Int} (h : c ∉ q) (a : Nat) : hasTo t (ofTold q) q.length a c = false := by
  unfold hasTo
  rw [List.any_eq_false]
  intro b hb
  have hbl := List.mem_range.1 hb
  have : ofTold q b ≠ c := fun e => h (by
    rw [← e]
    unfold ofTold
    rw [List.getD_eq_getElem?_getD, List.getElem?_eq_getElem hbl]
    exact List.getElem_mem _)
  simp [this]
theorem swap_same {q : List Int} {u v : Nat} (h : ∀ x ∈ q, x ≠ u ∧ x ≠ v) : q.map (swapC u v) = q := by
  have e : q.map (swapC u v) = q.map id := List.map_congr_left fun x hx => by
    obtain ⟨h1, h2⟩ := h x hx
    unfold swapC
    rw [if_neg h1, if_neg h2]
    rfl
  rw [e, List.map_id]
theorem nat_not {q : List Int} (hq : ∀ x ∈ q, 0 ≤ x) {c : Nat} (hc : usedC q ≤ c) : ∀ x ∈ q, x ≠ (c : Int) := fun x hx e => by
  have h1 := usedC_lt hx
  have h2 := hq x hx
  omega

/-- THE FIRST OF ALL IS THE FIRST OF THOSE. -/
theorem lookC_grow (t : Nat → Nat → Bool) (m : Nat) : ∀ (k : Nat) (q : List Int), (∀ x ∈ q, 0 ≤ x) → lookC t m k q = (growC t m k q).head? := by
  intro k
  induction k with
  | zero => intro q _; rfl
  | succ k ih =>
    intro q hq
    have hg : ∀ c : Nat, (if hasTo t (ofTold q) q.length q.length (c : Int) then [] else growC t m k (q ++ [(c : Int)])).head? = if hasTo t (ofTold q) q.length q.length (c : Int) then none else lookC t m k (q ++ [(c : Int)]) := fun c => by
      split
      · rfl
      · exact (ih _ fun x hx => by rcases List.mem_append.1 hx with h | h; exact hq x h; simp at h; omega).symm
    unfold lookC growC
    rw [List.head?_flatMap]
    simp only [hg]
    by_cases hu : m ≤ usedC q + 1
    · rw [Nat.min_eq_right hu]
    · rw [Nat.min_eq_left (by omega)]
      have hr : List.range m = List.range (usedC q + 1) ++ (List.range (m - (usedC q + 1))).map (usedC q + 1 + ·) := by
        rw [← List.range_add]; congr 1; omega
      rw [hr, List.findSome?_append]
      cases hf : (List.range (usedC q + 1)).findSome? fun c : Nat => if hasTo t (ofTold q) q.length q.length (c : Int) then none else lookC t m k (q ++ [(c : Int)]) with
      | some r => rfl
      | none =>
        rw [Option.none_or, List.findSome?_eq_none_iff]
        intro c hc
        obtain ⟨i, hi, rfl⟩ := List.mem_map.1 hc
        have hi2 := List.mem_range.1 hi
        cases hh : hasTo t (ofTold q) q.length q.length ((usedC q + 1 + i : Nat) : Int) with
        | true => rfl
        | false =>
          rw [if_neg (by simp)]
          cases hs : lookC t m k (q ++ [((usedC q + 1 + i : Nat) : Int)]) with
          | none => rfl
          | some r =>
            have h1 := look_swap (t := t) (u := usedC q + 1 + i) (v := usedC q) (m := m) (by omega) (by omega) (k := k) (q := q ++ [((usedC q + 1 + i : Nat) : Int)]) (by rw [hs]; rfl)
            rw [List.map_append, swap_same fun x hx => ⟨nat_not hq (by omega) x hx, nat_not hq (Nat.le_refl _) x hx⟩] at h1
            have e1 : [((usedC q + 1 + i : Nat) : Int)].map (swapC (usedC q + 1 + i) (usedC q)) = [((usedC q : Nat) : Int)] := by simp [swapC]
            rw [e1] at h1
            rw [List.findSome?_eq_none_iff] at hf
            have h2 := hf (usedC q) (List.mem_range.2 (by omega))
            rw [free_new (fun h => nat_not hq (Nat.le_refl _) _ h rfl), if_neg (by simp)] at h2
            rw [h2] at h1
            cases h1
theorem lookC_step {t : Nat → Nat → Bool} {m k : Nat} {q r : List Int} (h : lookC t m (k + 1) q = some r) : ∃ c : Nat, c < m ∧ hasTo t (ofTold q) q.length q.length (c : Int) = false ∧ lookC t m k (q ++ [(c : Int)]) = some r := by
  unfold lookC at h
  obtain ⟨c, hc, he⟩ := List.exists_of_findSome?_eq_some h
  cases hh : hasTo t (ofTold q) q.length q.length (c : Int) with
  | true => rw [hh, if_pos rfl] at he; cases he
  | false =>
    rw [hh, if_neg (by simp)] at he
    exact ⟨c, List.mem_range.1 hc, hh, he⟩
theorem lookC_prefix {t : Nat → Nat → Bool} {m : Nat} : ∀ {k : Nat} {q r : List Int}, lookC t m k q = some r → q <+: r := by
  intro k
  induction k with
  | zero => intro q r h; cases h; exact List.prefix_refl _
  | succ k ih =>
    intro q r h
    obtain ⟨c, _, _, hr⟩ := lookC_step h
    exact (List.prefix_append _ _).trans (ih hr)
theorem lookC_fewer {t : Nat → Nat → Bool} {m m' : Nat} : ∀ {k : Nat} {q r : List Int}, lookC t m k q = some r → usedC r ≤ m' → (lookC t m' k q).isSome = true := by
  intro k
  induction k with
  | zero => intro q r _ _; rfl
  | succ k ih =>
    intro q r h hm
    obtain ⟨c, _, hf, hr⟩ := lookC_step h
    have hc := usedC_lt ((lookC_prefix hr).subset (List.mem_append.2 (.inr (List.mem_singleton.2 rfl))))
    exact look_iff.2 ⟨c, by simp at hc; omega, hf, ih hr hm⟩
theorem lookC_used {t : Nat → Nat → Bool} {m : Nat} : ∀ {k : Nat} {q r : List Int}, lookC t m k q = some r → usedC q ≤ m → usedC r ≤ m := by
  intro k
  induction k with
  | zero => intro q r h hq; cases h; exact hq
  | succ k ih =>
    intro q r h hq
    obtain ⟨c, hc, _, hr⟩ := lookC_step h
    exact ih hr (by rw [usedC_snoc]; simp; omega)
theorem look_all {t : Nat → Nat → Bool} {m : Nat} : ∀ {k : Nat} {q : List Int}, (∀ x ∈ q, 0 ≤ x ∧ x < q.length) → q.length + k ≤ m → (lookC t m k q).isSome = true := by
  intro k
  induction k with
  | zero => intro q _ _; rfl
  | succ k ih =>
    intro q hq hm
    refine look_iff.2 ⟨q.length, by omega, free_new (fun h => by have := hq _ h; omega) _, ih (fun x hx => ?_) (by simp; omega)⟩
    rw [List.length_append]
    rcases List.mem_append.1 hx with h | h
    · have := hq x h; simp; omega
    · simp at h; subst h; exact ⟨by omega, by simp; omega⟩
theorem growC_used {t : Nat → Nat → Bool} {m : Nat} : ∀ {k : Nat} {q r : List Int}, r ∈ growC t m k q → usedC r ≤ usedC q + k ∧ (usedC r = usedC q + k → r = q ++ (List.range k).map fun i : Nat => ((usedC q + i : Nat) : Int)) := by
  intro k
  induction k with
  | zero => intro q r h; have := List.mem_singleton.1 h; subst this; exact ⟨Nat.le_refl _, fun _ => by simp⟩
  | succ k ih =>
    intro q r h
    unfold growC at h
    obtain ⟨c, hc, hr⟩ := List.mem_flatMap.1 h
    have hc2 := List.mem_range.1 hc
    split at hr
    · cases hr
    · obtain ⟨h1, h2⟩ := ih hr
      have hs := usedC_snoc q (c : Int)
      rw [Int.toNat_natCast] at hs
      refine ⟨by omega, fun he => ?_⟩
      have hcu : c = usedC q := by omega
      have hu : usedC (q ++ [(c : Int)]) = usedC q + 1 := by omega
      rw [hu] at h2
      rw [h2 (by omega), List.append_assoc, List.range_succ_eq_map, List.map_cons, List.map_map, hcu]
      congr 1
      simp only [Nat.add_zero, List.singleton_append, List.cons.injEq, true_and]
      refine List.map_congr_left fun i _ => ?_
      simp only [Function.comp]
      omega

/-- WHAT THE PROGRAM FINDS is what the model finds. -/
theorem fewest_grow {t : Nat → Nat → Bool} {n m : Nat} {r : List Int} {rest : List (List Int)} (hno : ∀ m', m' < m → growC t m' n [] = []) (hr : growC t m n [] = r :: rest) : fewestC t n = (r, usedC r) ∧ usedC r = m := by
  have hl : ∀ m', lookC t m' n [] = (growC t m' n []).head? := fun m' => lookC_grow t m' n [] (fun x hx => by cases hx)
  have hnone : ∀ m', m' < m → lookC t m' n [] = none := fun m' h => by rw [hl, hno m' h]; rfl
  have hsome : lookC t m n [] = some r := by rw [hl, hr]; rfl
  have hle := lookC_used hsome (by rw [usedC_nil]; omega)
  have hum : usedC r = m := by
    refine Nat.le_antisymm hle (Nat.le_of_not_lt fun h => ?_)
    have := lookC_fewer hsome (Nat.le_refl (usedC r))
    rw [hnone _ h] at this
    cases this
  have hmem : r ∈ growC t m n [] := by rw [hr]; exact List.mem_cons_self
  have hg := growC_used hmem
  rw [usedC_nil] at hg
  refine ⟨?_, hum⟩
  by_cases hmn : m < n
  · rw [fewestC_some hmn hnone hsome, hum]
  · have hn : usedC r = 0 + n := by omega
    rw [fewestC_none fun m' h => hnone m' (by omega), hg.2 hn, ← hg.2 hn, hn, hg.2 hn]
    simp
theorem grow_some (t : Nat → Nat → Bool) (n : Nat) : growC t n n [] ≠ [] := by
  intro h
  have h1 := look_all (t := t) (m := n) (k := n) (q := []) (fun x hx => by cases hx) (by simp)
  rw [lookC_grow t n n [] (fun x hx => by cases hx), h] at h1
  cases h1
end Go.Proofs.Ythddlpghjkiioaa
/-
  LISTS OF NUMBERS OF FRIENDS AS PLAIN LISTS: what numbers are; sorted so that they are falling; sums; where they fail. Nothing here speaks of the program.
-/
namespace Go.Proofs.Ythddlpghjkiioaa

def isNums (q : List Int) : Bool := decide (q.length ≤ 12) && q.all fun x => decide (0 ≤ x ∧ x < q.length)
theorem isNums_len {q : List Int} (h : isNums q = true) : q.length ≤ 12 := by
  simp only [isNums, Bool.and_eq_true, decide_eq_true_eq] at h
  exact h.1
theorem isNums_mem {q : List Int} (h : isNums q = true) : ∀ x ∈ q, 0 ≤ x ∧ x < q.length := by
  simp only [isNums, Bool.and_eq_true, List.all_eq_true, decide_eq_true_eq] at h
  exact h.2
theorem isNums_at {q : List Int} (h : isNums q = true) {k : Nat} {x : Int} (hx : q[k]? = some x) : 0 ≤ x ∧ x < q.length := isNums_mem h x (List.mem_of_getElem? hx)
theorem isNums_of {q : List Int} (h : q.length ≤ 12) (h2 : ∀ (k : Nat) (x : Int), k < q.length → q[k]? = some x → 0 ≤ x ∧ x < q.length) : isNums q = true := by
  simp only [isNums, Bool.and_eq_true, List.all_eq_true, decide_eq_true_eq]
  refine ⟨h, fun x hx => ?_⟩
  obtain ⟨i, hi, rfl⟩ := List.getElem_of_mem hx
  exact h2 i _ hi (List.getElem?_eq_getElem hi)
theorem isNums_bad {q : List Int} {k : Nat} {x : Int} (hx : q[k]? = some x) (h : ¬ (0 ≤ x ∧ x < q.length)) : isNums q = false := by
  cases he : isNums q with
  | false => rfl
  | true => exact absurd (isNums_at he hx) h
theorem isNums_many {q : List Int} (h : 12 < q.length) : isNums q = false := by
  cases he : isNums q with
  | false => rfl
  | true => have := isNums_len he; omega

/-! ## Falling -/
def fall (q : List Int) : List Int := q.mergeSort fun x y => decide (y ≤ x)
theorem fall_perm (q : List Int) : (fall q).Perm q := List.mergeSort_perm _ _
theorem fall_length (q : List Int) : (fall q).length = q.length := (fall_perm q).length_eq
theorem fall_mem {q : List Int} {x : Int} : x ∈ fall q ↔ x ∈ q := (fall_perm q).mem_iff
theorem fall_sorted (q : List Int) : (fall q).Pairwise fun x y => y ≤ x := by
  have h := List.pairwise_mergeSort (le := fun x y : Int => decide (y ≤ x)) (by intro a b c; simp; omega) (by intro a b; simp; omega) q
  exact h.imp (by simp)
theorem fall_unique {l q : List Int} (hs : l.Pairwise fun x y => y ≤ x) (hp : l.Perm q) : l = fall q :=
  List.Perm.eq_of_pairwise (le := fun x y : Int => y ≤ x) (fun a b _ _ h1 h2 => by omega) hs (fall_sorted q) (hp.trans (fall_perm q).symm)
theorem fall_nums {q : List Int} (h : isNums q = true) : isNums (fall q) = true := by
  refine isNums_of (by rw [fall_length]; exact isNums_len h) fun k x _ hx => ?_
  have := isNums_mem h x (fall_mem.1 (List.mem_of_getElem? hx))
  rw [fall_length]
  exact this

/-- the numbers from n down, j of them, each as often as it is in the list -/
def blockI (q : List Int) (x : Int) : List Int := q.filter fun y => decide (x = y)
def descI (q : List Int) (n j : Nat) : List Int := (List.range j).flatMap fun i : Nat => blockI q ((n : Int) - (i : Int))
theorem descI_zero (q : List Int) (n : Nat) : descI q n 0 = [] := rfl
theorem descI_next (q : List Int) (n j : Nat) : descI q n (j + 1) = descI q n j ++ blockI q ((n : Int) - j) := by
  unfold descI
  rw [List.range_succ, List.flatMap_append]
  simp
theorem blockI_snoc (q : List Int) (x y : Int) : blockI (q ++ [y]) x = blockI q x ++ if x = y then [y] else [] := by
  unfold blockI
  rw [List.filter_append]
  congr 1
  by_cases h : x = y
  · rw [if_pos h, List.filter_cons_of_pos (by simpa using h)]; rfl
  · rw [if_neg h, List.filter_cons_of_neg (by simpa using h)]; rfl
theorem mem_blockI {q : List Int} {x y : Int} : y ∈ blockI q x ↔ y ∈ q ∧ x = y := by simp [blockI]
theorem mem_descI {q : List Int} {n j : Nat} {y : Int} : y ∈ descI q n j ↔ y ∈ q ∧ (n : Int) - j < y ∧ y ≤ n := by
  simp only [descI, List.mem_flatMap, List.mem_range, mem_blockI]
  constructor
  · rintro ⟨i, hi, hy, rfl⟩; exact ⟨hy, by omega, by omega⟩
  · rintro ⟨hy, h1, h2⟩; exact ⟨((n : Int) - y).toNat, by omega, hy, by omega⟩
theorem descI_sorted (q : List Int) (n j : Nat) : (descI q n j).Pairwise fun x y => y ≤ x := by
  induction j with
  | zero => exact List.Pairwise.nil
  | succ j ih =>
    rw [descI_next, List.pairwise_append]
    refine ⟨ih, ?_, fun a ha b hb => ?_⟩
    · rw [List.pairwise_iff_getElem]
      intro a b ha hb _
      have h1 := (mem_blockI.1 (List.getElem_mem ha)).2
      have h2 := (mem_blockI.1 (List.getElem_mem hb)).2
      omega
    · have h1 := mem_descI.1 ha
      have h2 := (mem_blockI.1 hb).2
      omega
theorem count_blockI (q : List Int) (x y : Int) : (blockI q x).count y = if x = y then q.count y else 0 := by
  unfold blockI
  by_cases h : x = y
  · subst h
    rw [if_pos rfl, List.count_filter (by simp)]
  · rw [if_neg h, List.count_eq_zero]
    intro hm
    exact h (by simpa using (List.mem_filter.1 hm).2)
theorem count_descI (q : List Int) (n j : Nat) (y : Int) : (descI q n j).count y = if (n : Int) - j < y ∧ y ≤ n then q.count y else 0 := by
  induction j with
  | zero => rw [descI_zero, if_neg (by omega)]; rfl
  | succ j ih =>
    rw [descI_next, List.count_append, ih, count_blockI]
    by_cases h1 : (n : Int) - j = y
    · rw [if_pos h1, if_neg (by omega), if_pos (by omega), Nat.zero_add]
    · rw [if_neg h1, Nat.add_zero]
      by_cases h2 : (n : Int) - j < y ∧ y ≤ n
      · rw [if_pos h2, if_pos (by omega)]
      · rw [if_neg h2, if_neg (by omega)]
theorem descI_fall {q : List Int} (h : isNums q = true) : descI q q.length (q.length + 1) = fall q := by
  refine fall_unique (descI_sorted _ _ _) (List.perm_iff_count.2 fun y => ?_)
  rw [count_descI]
  split
  · rfl
  · rename_i hn
    symm
    rw [List.count_eq_zero]
    intro hy
    have := isNums_mem h y hy
    omega
theorem descI_le (q : List Int) (n j : Nat) : (descI q n j).length ≤ j * q.length := by
  induction j with
  | zero => simp [descI_zero]
  | succ j ih =>
    rw [descI_next, List.length_append, Nat.add_mul, Nat.one_mul]
    have : (blockI q ((n : Int) - j)).length ≤ q.length := List.length_filter_le _ _
    omega
theorem blockI_le (q : List Int) (x : Int) : (blockI q x).length ≤ q.length := List.length_filter_le _ _

/-! ## Sums -/
def sumI (q : List Int) : Int := q.foldl (· + ·) 0
theorem sumI_snoc (q : List Int) (x : Int) : sumI (q ++ [x]) = sumI q + x := by simp [sumI, List.foldl_append]
theorem sumI_nil : sumI [] = 0 := rfl
/-- a bound of the sum of a beginning -/
theorem sumI_take_bound {q : List Int} {m : Int} (hm : 0 ≤ m) (h : ∀ x ∈ q, 0 ≤ x ∧ x ≤ m) : ∀ k, 0 ≤ sumI (q.take k) ∧ sumI (q.take k) ≤ k * m := by
  intro k
  induction k with
  | zero => simp [sumI_nil]
  | succ k ih =>
    rw [List.take_add_one]
    have e : ((k + 1 : Nat) : Int) * m = k * m + m := by rw [Int.natCast_add, Int.add_mul]; simp
    rw [e]
    cases hx : q[k]? with
    | none => simp; omega
    | some x =>
      have := h x (List.mem_of_getElem? hx)
      rw [Option.toList_some, sumI_snoc]
      omega
theorem sumI_perm {q l : List Int} (h : q.Perm l) : sumI q = sumI l := by
  unfold sumI
  exact h.foldl_eq' (fun x _ y _ z => by omega) 0

/-! ## Where numbers fail -/
def minsI (k : Int) (q : List Int) : List Int := q.map fun x => if k < x then k else x
theorem minsI_snoc (k : Int) (q : List Int) (x : Int) : minsI k (q ++ [x]) = minsI k q ++ [if k < x then k else x] := by simp [minsI]
def mostI (s : List Int) (k : Nat) : Int := (k : Int) * (k - 1) + sumI (minsI k (s.drop k))
def failAt (s : List Int) (k : Nat) : Bool := decide (mostI s k < sumI (s.take k))
def failsI (s : List Int) : Int := match (List.range s.length).find? fun i => failAt s (i + 1) with | none => 0 | some i => (i : Int) + 1
theorem failsI_at {s : List Int} {k : Nat} (hk : k < s.length) (h : ∀ j, j < k → failAt s (j + 1) = false) (hf : failAt s (k + 1) = true) : failsI s = k + 1 := by
  have : (List.range s.length).find? (fun i => failAt s (i + 1)) = some k := by
    rw [List.find?_range_eq_some]
    exact ⟨hf, by simpa using hk, fun j hj => by simp [h j hj]⟩
  unfold failsI
  rw [this]
theorem failsI_none {s : List Int} (h : ∀ j, j < s.length → failAt s (j + 1) = false) : failsI s = 0 := by
  have : (List.range s.length).find? (fun i => failAt s (i + 1)) = none := by
    rw [List.find?_range_eq_none]
    intro j hj
    simp [h j hj]
  unfold failsI
  rw [this]
theorem failsI_range (s : List Int) : 0 ≤ failsI s ∧ failsI s ≤ s.length := by
  unfold failsI
  split
  · omega
  · rename_i i hi
    have := List.mem_of_find?_eq_some hi
    rw [List.mem_range] at this
    omega
theorem minsI_bound {s : List Int} {m k : Int} (hk : 0 ≤ k) (h : ∀ x ∈ s, 0 ≤ x ∧ x ≤ m) : ∀ x ∈ minsI k s, 0 ≤ x ∧ x ≤ m := by
  intro x hx
  obtain ⟨y, hy, rfl⟩ := List.mem_map.1 hx
  have := h y hy
  split <;> omega
/-- they can be -/
def canI (q : List Int) : Bool := decide (sumI q % 2 = 0) && decide (failsI (fall q) = 0)
end Go.Proofs.Ythddlpghjkiioaa
/-
  NUMBERS OF FRIENDS: what they are, by the model's and the program's contracts.
-/
namespace Go.Proofs.Ythddlpghjkiioaa
open Go.RowKit

def l1AllB (q : List Int) (lo hi : Int) : Bool := q.all fun x => decide (lo ≤ x ∧ x ≤ hi)
theorem l1AllB_yes {q : List Int} {lo hi : Int} (h : ∀ (j : Nat) (x : Int), j < q.length → q[j]? = some x → lo ≤ x ∧ x ≤ hi) : l1AllB q lo hi = true := by
  simp only [l1AllB, List.all_eq_true, decide_eq_true_eq]
  intro x hx
  obtain ⟨i, hi, rfl⟩ := List.getElem_of_mem hx
  exact h i _ hi (List.getElem?_eq_getElem hi)
theorem l1AllB_no {q : List Int} {lo hi : Int} {k : Nat} {x : Int} (hx : q[k]? = some x) (h : ¬ (lo ≤ x ∧ x ≤ hi)) : l1AllB q lo hi = false := by
  cases he : l1AllB q lo hi with
  | false => rfl
  | true =>
    simp only [l1AllB, List.all_eq_true, decide_eq_true_eq] at he
    exact absurd (he x (List.mem_of_getElem? hx)) h

set_option maxHeartbeats 1000000 in
theorem l1All_any (q : List Int) (A : Option Addr) (c : Nat) (lo hi : Int) (w : World) (hl : q.length ≤ 1048576) (hA : CRead w w.heap.size A (icells q)) :
    Calls Try.prog 93 #[.slice A q.length c, .int .i64 lo, .int .i64 hi] w fun e w' => e = .returned (.bool (l1AllB q lo hi)) ∧ w = w' := by
  go_enter Try.func93, Try.ntmps93
  go_wp2
  go_loop [11] (fun i => ∃ k : Nat, k ≤ q.length ∧ i = .int .i64 k ∧ ∀ (j : Nat) (x : Int), j < k → q[j]? = some x → lo ≤ x ∧ x ≤ hi) (fun i => q.length - (intOf i).toNat)
  case atStart => exact ⟨0, Nat.zero_le _, rfl, fun j x hj => by omega⟩
  case round =>
    obtain ⟨k, hk, rfl, hg⟩ := hrel
    have Hg := Lib.hid hg
    clear hg
    by_cases hlt : k < q.length
    · obtain ⟨x, hx⟩ := getSome q k hlt
      obtain ⟨b, off, rfl, hbb, c0⟩ := hA.int hx
      have hki : (k : Int) < (q.length : Int) := by omega
      have Hx := Lib.hid hx
      clear hx
      by_cases hin : lo ≤ x ∧ x ≤ hi
      · go_wp2_with (go_at_call 57; refine (l1In_yes _ _ _ hin.1 hin.2 _).mono ?_; rintro e w' ⟨rfl, rfl⟩)
        go_round
        case rel =>
          refine ⟨k + 1, by omega, by go_num, fun j y hj hy => ?_⟩
          by_cases hjk : j = k
          · subst hjk
            rw [Hx.out] at hy
            simp only [Option.some.injEq] at hy
            subst hy
            exact hin
          · exact Hg.out j y (by omega) hy
        case measure => simp [intOf]; omega
      · have e : l1AllB q lo hi = false := l1AllB_no Hx.out hin
        have He := Lib.hid e
        clear e
        go_wp2_with (go_at_call 57; refine (l1In_no _ _ _ (by omega) _).mono ?_; rintro e w' ⟨rfl, rfl⟩)
        go_ret
        exact ⟨by rw [He.out]; rfl, rfl⟩
    · have hkl : k = q.length := by omega
      have e : l1AllB q lo hi = true := l1AllB_yes fun j x hj hx => Hg.out j x (by omega) hx
      have He := Lib.hid e
      clear e
      have hge : ¬ ((k : Int) < (q.length : Int)) := by omega
      go_wp2
      go_ret
      exact ⟨by rw [He.out]; rfl, rfl⟩

theorem isNums_all {q : List Int} (h : q.length ≤ 12) : l1AllB q 0 ((q.length : Int) - 1) = isNums q := by
  unfold l1AllB isNums
  rw [decide_eq_true h, Bool.true_and]
  congr 1
  funext x
  congr 1
  apply propext
  omega

set_option maxHeartbeats 1000000 in
theorem deGood_any (q : List Int) (A : Option Addr) (c : Nat) (w : World) (hl : q.length ≤ 1048576) (hA : CRead w w.heap.size A (icells q)) :
    Calls Try.prog 68 #[.slice A q.length c] w fun e w' => e = .returned (.bool (isNums q)) ∧ w = w' := by
  by_cases h : q.length ≤ 12
  · have e := isNums_all h
    have He := Lib.hid e
    clear e
    have hi : (q.length : Int) ≤ 12 := by omega
    go_enter Try.func68, Try.ntmps68
    go_wp2_with fail
    refine (l1All_any _ _ _ _ _ _ hl hA).mono ?_
    rw [He.out]
    rintro e w' ⟨rfl, rfl⟩
    go_wp2
    go_ret
    exact ⟨rfl, rfl⟩
  · rw [isNums_many (by omega)]
    have hi : ¬ (q.length : Int) ≤ 12 := by omega
    go_enter Try.func68, Try.ntmps68
    go_wp2
    go_ret
    exact ⟨rfl, rfl⟩

def resIsNumbers (q : List Int) : Bool := isNums q
set_option maxHeartbeats 1000000 in
theorem isNumbers_any (q : List Int) (A : Option Addr) (c : Nat) (w : World) (hl : q.length ≤ 1048576) (hA : CRead w w.heap.size A (icells q)) :
    Calls Try.prog 71 #[.slice A q.length c] w fun e w' => e = .returned (.bool (isNums q)) ∧ w = w' := by
  by_cases h : q.length ≤ 12
  · have hi : ¬ (12 < (q.length : Int)) := by omega
    go_enter Try.func71, Try.ntmps71
    go_wp2
    go_loop [10] (fun i => ∃ k : Nat, k ≤ q.length ∧ i = .int .i64 k ∧ ∀ (j : Nat) (x : Int), j < k → q[j]? = some x → 0 ≤ x ∧ x < q.length) (fun i => q.length - (intOf i).toNat)
    case atStart => exact ⟨0, Nat.zero_le _, rfl, fun j x hj => by omega⟩
    case round =>
      obtain ⟨k, hk, rfl, hg⟩ := hrel
      have Hg := Lib.hid hg
      clear hg
      by_cases hlt : k < q.length
      · obtain ⟨x, hx⟩ := getSome q k hlt
        obtain ⟨b, off, rfl, hbb, c0⟩ := hA.int hx
        have hki : (k : Int) < (q.length : Int) := by omega
        have Hx := Lib.hid hx
        clear hx
        by_cases h0 : x < 0
        · have He := Lib.hid (isNums_bad Hx.out (by omega))
          go_wp2
          go_ret
          exact ⟨by rw [He.out]; rfl, rfl⟩
        · by_cases h1 : (q.length : Int) ≤ x
          · have He := Lib.hid (isNums_bad Hx.out (by omega))
            go_wp2
            go_ret
            exact ⟨by rw [He.out]; rfl, rfl⟩
          · go_wp2
            go_round
            case rel =>
              refine ⟨k + 1, by omega, by go_num, fun j y hj hy => ?_⟩
              by_cases hjk : j = k
              · subst hjk
                rw [Hx.out] at hy
                simp only [Option.some.injEq] at hy
                subst hy
                omega
              · exact Hg.out j y (by omega) hy
            case measure => simp [intOf]; omega
      · have hkl : k = q.length := by omega
        have He := Lib.hid (isNums_of h fun j x hj hx => Hg.out j x (by omega) hx)
        have hge : ¬ ((k : Int) < (q.length : Int)) := by omega
        go_wp2
        go_ret
        exact ⟨by rw [He.out]; rfl, rfl⟩
  · rw [isNums_many (by omega)]
    have hi : (12 : Int) < (q.length : Int) := by omega
    go_enter Try.func71, Try.ntmps71
    go_wp2
    go_ret
    exact ⟨rfl, rfl⟩
theorem implIsNumbers_any (q : List Int) (A : Option Addr) (c : Nat) (w : World) (hl : q.length ≤ 1048576) (hA : CRead w w.heap.size A (icells q)) :
    Calls Try.prog 71 #[.slice A q.length c] w fun e w' => e = .returned (.bool (resIsNumbers q)) ∧ Below w.heap.size w w' :=
  (isNumbers_any q A c w hl hA).mono fun e w' ⟨he, hw⟩ => ⟨he, by subst hw; exact Below.refl _ _⟩

/-! ## Sums -/
/-! ## Sorted so that they are falling: the model's -/
end Go.Proofs.Ythddlpghjkiioaa
/-
  WHETHER A NUMBER IS IN A LIST: the model's look; a list's front.
-/
namespace Go.Proofs.Ythddlpghjkiioaa
open Go.RowKit

theorem icells_getD {l : List Int} {j : Nat} (h : j < l.length) : (icells l)[j]? = some (.int .i64 (l.getD j 0)) := by
  simp [icells, List.getD_eq_getElem?_getD, List.getElem?_eq_getElem h]
theorem CRead.ints {w : World} {B : Nat} {A : Option Addr} {q : List Int} (h : CRead w B A (icells q)) (hq : 0 < q.length) : ∃ b off, A = some ⟨b, off, none⟩ ∧ b < B ∧ ∀ j, j < q.length → w.cell? ⟨b, off + j, none⟩ = some (.int .i64 (q.getD j 0)) := by
  obtain ⟨b, off, rfl, hb, _⟩ := h 0 _ (icells_getD hq)
  refine ⟨b, off, rfl, hb, fun j hj => ?_⟩
  obtain ⟨b', off', e, _, hc⟩ := h j _ (icells_getD hj)
  simp only [Option.some.injEq, Addr.mk.injEq, and_true] at e
  obtain ⟨rfl, rfl⟩ := e
  exact hc

theorem CRead.front {w : World} {B : Nat} {A : Option Addr} {q : List Int} (h : CRead w B A (icells q)) (k : Nat) : CRead w B A (icells (q.take k)) := fun j u hu => by
  refine h j u ?_
  unfold icells at hu ⊢
  rw [List.map_take, List.getElem?_take] at hu
  split at hu
  · exact hu
  · cases hu


/-- whether a number is in a list -/
def hasI (q : List Int) (x : Int) : Bool := q.contains x
theorem hasI_mem {q : List Int} {x : Int} : hasI q x = true ↔ x ∈ q := List.contains_iff_mem
set_option maxHeartbeats 1000000 in
theorem l1Has_any (q : List Int) (x : Int) (A : Option Addr) (c : Nat) (w : World) (hl : q.length ≤ 1048576) (hA : CRead w w.heap.size A (icells q)) :
    Calls Try.prog 64 #[.slice A q.length c, .int .i64 x] w fun e w' => e = .returned (.bool (hasI q x)) ∧ w = w' := by
  go_enter Try.func64, Try.ntmps64
  go_wp2
  go_loop [9] (fun i => ∃ k : Nat, k ≤ q.length ∧ i = .int .i64 k ∧ ∀ (j : Nat) (y : Int), j < k → q[j]? = some y → y ≠ x) (fun i => q.length - (intOf i).toNat)
  case atStart => exact ⟨0, Nat.zero_le _, rfl, fun j x hj => by omega⟩
  case round =>
    obtain ⟨k, hk, rfl, hg⟩ := hrel
    have Hg := Lib.hid hg
    clear hg
    by_cases hlt : k < q.length
    · obtain ⟨y, hy⟩ := getSome q k hlt
      obtain ⟨b, off, rfl, hbb, c0⟩ := hA.int hy
      have hki : (k : Int) < (q.length : Int) := by omega
      have Hy := Lib.hid hy
      clear hy
      by_cases hyx : y = x
      · subst hyx
        have He := Lib.hid (show hasI q y = true from hasI_mem.2 (List.mem_of_getElem? Hy.out))
        go_wp2
        go_ret
        exact ⟨by rw [He.out]; rfl, rfl⟩
      · go_wp2
        go_round
        case rel =>
          refine ⟨k + 1, by omega, by go_num, fun j z hj hz => ?_⟩
          by_cases hjk : j = k
          · subst hjk
            rw [Hy.out] at hz
            simp only [Option.some.injEq] at hz
            subst hz
            exact hyx
          · exact Hg.out j z (by omega) hz
        case measure => simp [intOf]; omega
    · have hkl : k = q.length := by omega
      have e : hasI q x = false := by
        rw [Bool.eq_false_iff]
        intro hc
        rw [hasI_mem] at hc
        obtain ⟨i, hi, e⟩ := List.getElem_of_mem hc
        exact Hg.out i _ (by omega) (List.getElem?_eq_getElem hi) e
      have He := Lib.hid e
      clear e
      have hge : ¬ ((k : Int) < (q.length : Int)) := by omega
      go_wp2
      go_ret
      exact ⟨by rw [He.out]; rfl, rfl⟩
end Go.Proofs.Ythddlpghjkiioaa
/-
  'GreedyColouring' of the model, by its contract.
-/
namespace Go.Proofs.Ythddlpghjkiioaa
open Go.RowKit

end Go.Proofs.Ythddlpghjkiioaa
/-
  The model's search of a colouring, by its contract.
-/
namespace Go.Proofs.Ythddlpghjkiioaa
open Go.RowKit

theorem grown_refl (w : World) (row : Option Nat) : w.grownBy w row := ⟨rfl, rfl, rfl, Nat.le_refl _, fun _ _ _ => rfl⟩
theorem grown_trans {w w' w'' : World} {row : Option Nat} (h1 : w.grownBy w' row) (h2 : w'.grownBy w'' row) : w.grownBy w'' row :=
  ⟨h2.os.trans h1.os, h2.tape.trans h1.tape, h2.output.trans h1.output, Nat.le_trans h1.size h2.size, fun k hk hr => (h2.block k (Nat.lt_of_lt_of_le hk h1.size) hr).trans (h1.block k hk hr)⟩
theorem grown_set (w : World) (a : Addr) (u : Value) : w.grownBy (w.setCell a u) (some a.block) := ⟨rfl, rfl, rfl, by simp, fun k _ hk => heap_setCell_other _ _ _ _ (fun e => hk (by rw [e]))⟩
theorem grown_below {w w' : World} {o B : Nat} (h : w.grownBy w' (some o)) (hB : B ≤ o) (hw : B ≤ w.heap.size) : Below B w w' :=
  ⟨h.os, h.tape, h.output, h.size, fun k hk => h.block k (by omega) (by simp; omega)⟩
theorem below_grows {w w' : World} {B : Nat} (h : Below B w w') (hB : w.heap.size ≤ B) (row : Option Nat) : w.grownBy w' row := below_grownBy h hB row
theorem TabG.past {w w' : World} {B n c o : Nat} {A : Option Addr} {G : Nat → Nat} {t : Nat → Nat → Bool} (h : TabG w B (.slice A n c) n n G t) (h0 : 0 < n) (hg : w.grownBy w' (some o)) (ho : o < B) : TabG w' B (.slice A n c) n n G t := by
  obtain ⟨g, rfl⟩ := own_form h.own h0
  have hl := own_lt h.own
  refine ⟨h.own.kept hg (.inr (by show some g ≠ some o; simp; omega)), fun i hi => ⟨(h.row i hi).1, (h.row i hi).2.of_block (hg.block _ (h.row i hi).2.lt (by have := (h.row i hi).1; simp; omega))⟩, h.inj⟩

set_option maxHeartbeats 8000000 in
set_option maxRecDepth 100000 in
theorem grColour_any (n : Nat) (hn : n ≤ 12) (t : Nat → Nat → Bool) (most : Nat) (hm : most ≤ 12) (At : Option Addr) (ct : Nat) (G : Nat → Nat) (Bt : Nat) (wt : World) (tab : TabG wt Bt (.slice At n ct) n n G t) (B0 : Nat) (hB0 : B0 < Bt) (hn0 : 0 < n) :
    ∀ (k : Nat) (q : List Int) (f : Nat → Int) (w : World), q.length + k = n → (∀ b, b < q.length → f b = ofTold q b) → wt.grownBy w (some B0) → w.ownsRow B0 3 1 (.slice (some ⟨B0, 0, none⟩) n n) n (icells ((List.range n).map f)) →
    Calls Try.prog 76 #[.slice At n ct, .slice (some ⟨B0, 0, none⟩) n n, .int .i64 q.length, .int .i64 most] w fun e w' => ∃ f' : Nat → Int, e = .returned (.bool (lookC t most k q).isSome) ∧ (∀ b, b < q.length → f' b = ofTold q b) ∧ (∀ r, lookC t most k q = some r → ∀ b, b < n → f' b = ofTold r b) ∧
      w'.ownsRow B0 3 1 (.slice (some ⟨B0, 0, none⟩) n n) n (icells ((List.range n).map f')) ∧ w.grownBy w' (some B0) := by
  have Tab := Lib.hid tab
  clear tab
  intro k
  induction k with
  | zero =>
    intro q f w hk hf hw own
    have hqn : q.length = n := by omega
    subst hqn
    have hb : ((q.length : Int) == (q.length : Int)) = true := by simp
    have Hf := Lib.hid hf
    have Own := Lib.hid own
    clear hf own
    go_enter Try.func76, Try.ntmps76
    go_wp2
    go_ret
    exact ⟨f, rfl, Hf.out, fun r hr b hb => by cases hr; exact Hf.out b hb, Own.out, grown_refl _ _⟩
  | succ k ih =>
    intro q f w hk hf hw own
    obtain ⟨a, ha⟩ : ∃ a, q.length = a := ⟨_, rfl⟩
    have haln : a < n := by omega
    have hane : ((a : Int) == (n : Int)) = false := by simp; omega
    have hne : ¬ ((a : Int) = (n : Int)) := by omega
    rw [ha] at hf ⊢
    have Hq := Lib.hid ha
    have Hf := Lib.hid hf
    have Own := Lib.hid own
    have Hk := Lib.hid hk
    clear hf own ha hk
    go_enter Try.func76, Try.ntmps76
    go_wp2
    go_loopw [9] (fun i wr => ∃ (c : Nat) (g : Nat → Int), c ≤ most ∧ i = .int .i64 c ∧ (∀ b, b < a → g b = ofTold q b) ∧ (∀ c' : Nat, c' < c → (if hasTo t (ofTold q) a a (c' : Int) then none else lookC t most k (q ++ [(c' : Int)])) = none) ∧ wr.ownsRow B0 3 1 (.slice (some ⟨B0, 0, none⟩) n n) n (icells ((List.range n).map g)) ∧ w.grownBy wr (some B0)) (fun i _ => most - (intOf i).toNat)
    case atStart => exact ⟨0, f, Nat.zero_le _, rfl, Hf.out, fun c' h => by omega, Own.out, grown_refl _ _⟩
    case round =>
      clear Hf Own
      obtain ⟨c, g, hc, rfl, hg, hno, own, hb⟩ := hrel
      by_cases hcm : c < most
      · have hci : (c : Int) < most := by omega
        have tab := Tab.out.past hn0 (grown_trans hw hb) hB0
        obtain ⟨gt, hgA⟩ := own_form tab.own (by omega)
        subst hgA
        have d0 := tab.outer haln
        have Tabr := Lib.hid tab
        have Hg := Lib.hid hg
        have Hno := Lib.hid hno
        have Own := Lib.hid own
        have Hb := Lib.hid hb
        clear hg hno own hb tab
        go_wp2
        go_loopw [10, 11] (fun v i wi => ∃ b : Nat, b ≤ a ∧ i = .int .i64 b ∧ v = .bool (!hasTo t g b a (c : Int)) ∧ wr = wi) (fun _ i _ => a - (intOf i).toNat)
        case atStart => exact ⟨0, Nat.zero_le _, rfl, by rw [hasTo_zero]; rfl, rfl⟩
        case round =>
          obtain ⟨b, hba, rfl, rfl, rfl⟩ := hrel
          by_cases hbt : b < a
          · have hbi : (b : Int) < a := by omega
            have hbn : b < n := by omega
            have e1 := Tabr.out.cell haln hbn
            have cu := own_intAt Own.out (map_range_at g hbn)
            have hsucc := hasTo_succ t g b a (c : Int)
            obtain ⟨h, hh⟩ : ∃ h, hasTo t g b a (c : Int) = h := ⟨_, rfl⟩
            obtain ⟨u, hu⟩ : ∃ u, t a b = u := ⟨_, rfl⟩
            obtain ⟨v, hv⟩ : ∃ v, g b = v := ⟨_, rfl⟩
            rw [hh, hu, hv] at hsucc
            rw [hu] at e1
            rw [hv] at cu
            rw [hh]
            have Hsucc := Lib.hid hsucc
            clear hsucc hh hu hv
            cases h with
            | true =>
              go_wp2
              go_roundw
              case rel => exact ⟨b + 1, by omega, by go_num, by rw [Hsucc.out]; simp, trivial⟩
              case measure => simp [intOf]; omega
            | false =>
              cases u with
              | false =>
                go_wp2
                go_roundw
                case rel => exact ⟨b + 1, by omega, by go_num, by rw [Hsucc.out]; simp, trivial⟩
                case measure => simp [intOf]; omega
              | true =>
                by_cases hvc : v = (c : Int)
                · have hbe : (v == (c : Int)) = true := beq_iff_eq.2 hvc
                  have Hd := Lib.hid (show decide (v = (c : Int)) = true from decide_eq_true hvc)
                  clear hvc
                  go_wp2
                  go_roundw
                  case rel => exact ⟨b + 1, by omega, by go_num, by rw [Hsucc.out, Hd.out]; simp [bne, hbe], trivial⟩
                  case measure => simp [intOf]; omega
                · have hbe : (v == (c : Int)) = false := by simpa using hvc
                  have Hd := Lib.hid (show decide (v = (c : Int)) = false from decide_eq_false hvc)
                  clear hvc
                  go_wp2
                  go_roundw
                  case rel => exact ⟨b + 1, by omega, by go_num, by rw [Hsucc.out, Hd.out]; simp [bne, hbe], trivial⟩
                  case measure => simp [intOf]; omega
          · have hbe : b = a := by omega
            subst hbe
            have hge2 : ¬ ((b : Int) < b) := by omega
            have hcong := hasTo_congr (t := t) (m := b) Hg.out b (c : Int)
            have cu := own_intAt Own.out (map_range_at g haln)
            have fu := Own.out.frozenAt b
            have hset := own_setInt Own.out b (c : Int)
            rw [map_range_set] at hset
            have hbs := grown_trans Hb.out (grown_set wr ⟨B0, b, none⟩ (.int .i64 (c : Int)))
            have hup : ∀ b', b' < (q ++ [(c : Int)]).length → upN g b (c : Int) b' = ofTold (q ++ [(c : Int)]) b' := by
              intro b' hb'
              rw [List.length_append, Hq.out] at hb'
              by_cases e : b' = b
              · subst e; rw [upN_self, ← Hq.out, ofTold_new]
              · have hl : b' < b := by simp at hb'; omega
                rw [upN_ne _ _ e, ofTold_old _ _ (by rw [Hq.out]; exact hl)]
                exact Hg.out b' hl
            obtain ⟨Y, hY⟩ : ∃ Y, wr.setCell ⟨B0, b, none⟩ (.int .i64 (c : Int)) = Y := ⟨_, rfl⟩
            cases hh : hasTo t g b b (c : Int) with
            | true =>
              rw [hh] at hcong
              have Hset := Lib.hid hset
              have Hbs := Lib.hid hbs
              have Hcong := Lib.hid hcong
              have Hup := Lib.hid hup
              clear hset hbs hcong hh d0 hY hup
              go_wp2
              go_roundw
              case rel => exact ⟨c + 1, _, by omega, by go_num, fun b' h => by rw [upN_ne _ _ (by omega)]; exact Hg.out b' h, fun c' h => by
                            by_cases e : c' = c
                            · subst e; rw [if_pos Hcong.out.symm]
                            · exact Hno.out c' (by omega), Hset.out, Hbs.out⟩
              case measure => simp [intOf]; omega
            | false =>
              rw [hh] at hcong
              have hlen : (q ++ [(c : Int)]).length = b + 1 := by rw [List.length_append, Hq.out]; rfl
              rw [hY] at hset hbs
              have ihc := ih (q ++ [(c : Int)]) (upN g b (c : Int)) Y (by have := Hk.out; have := Hq.out; rw [hlen]; omega) hup (grown_trans hw hbs) hset
              rw [hlen, show (((b + 1 : Nat)) : Int) = (b : Int) + 1 from by omega] at ihc
              have IHC := Lib.hid ihc
              have Hbs := Lib.hid hbs
              have Hcong := Lib.hid hcong
              have HY := Lib.hid hY
              clear ihc hset hbs hcong hh d0 hY hup
              go_wp2_with fail
              rw [HY.out]
              refine IHC.out.mono ?_
              rintro e w7 ⟨f', rfl, hold, hsome, own7, hb7⟩
              have Hold := Lib.hid (show ∀ b', b' < b → f' b' = ofTold q b' from fun b' h => by rw [hold b' (by omega), ofTold_old _ _ (by rw [Hq.out]; exact h)])
              have Own7 := Lib.hid own7
              have Hb7 := Lib.hid (grown_trans Hbs.out hb7)
              have Hsome := Lib.hid hsome
              clear IHC hold own7 hb7 hsome HY Hbs hlen
              cases hl : lookC t most k (q ++ [(c : Int)]) with
              | none =>
                have Hl := Lib.hid hl
                clear hl Hsome
                go_wp2
                go_roundw
                case rel => exact ⟨c + 1, f', by omega, by go_num, Hold.out, fun c' h => by
                              by_cases e : c' = c
                              · subst e; rw [if_neg (by rw [← Hcong.out]; simp), Hl.out]
                              · exact Hno.out c' (by omega), Own7.out, Hb7.out⟩
                case measure => simp [intOf]; omega
              | some r =>
                have Hl := Lib.hid (show lookC t most (k + 1) q = some r from lookC_some hcm (by rw [Hq.out]; exact Hno.out) (by rw [Hq.out, if_neg (by rw [← Hcong.out]; simp)]; exact hl))
                have Hr := Lib.hid (Hsome.out r hl)
                clear hl Hsome
                go_wp2
                go_ret
                exact ⟨f', by rw [Hl.out]; rfl, Hold.out, fun r' h => by rw [Hl.out] at h; cases h; exact Hr.out, Own7.out, Hb7.out⟩
      · have hce : c = most := by omega
        have hge : ¬ ((c : Int) < most) := by omega
        have Hl := Lib.hid (show lookC t most (k + 1) q = none from lookC_none (by rw [Hq.out]; intro c' h'; exact hno c' (by omega)))
        have Hg := Lib.hid hg
        have Own := Lib.hid own
        have Hb := Lib.hid hb
        clear hg hno own hb hce
        go_wp2
        go_ret
        exact ⟨by rw [Hl.out]; rfl, g, Hg.out, fun r' h => by (rw [Hl.out] at h; cases h), Own.out, Hb.out⟩
set_option maxHeartbeats 4000000 in
set_option maxRecDepth 100000 in
theorem grFewest_any (n : Nat) (l : PL) (A : Option Addr) (c : Nat) (w : World) (hn12 : n ≤ 12) (hp : isP n l = true) (hA : CRead w w.heap.size A (pcells l)) :
    Calls Try.prog 53 #[.agg #[.int .i64 n, .slice A l.length c]] w fun e w' => ∃ (A' : Option Addr) (c' : Nat), e = .returned (.tuple #[.slice A' n c', .int .i64 (fewestC (adj l) n).2]) ∧
      w'.ownsRow w.heap.size 3 1 (.slice A' n c') n (icells (fewestC (adj l) n).1) ∧ Below w.heap.size w w' := by
  obtain ⟨i0, hi, hz0, hz1, hz2⟩ := info_parts Try.infoInt
  have Hp := Lib.hid hp
  clear hp
  obtain ⟨Z, hZ⟩ : ∃ Z, fewestC (adj l) n = Z := ⟨_, rfl⟩
  rw [hZ]
  have HZ := Lib.hid hZ
  clear hZ
  go_enter Try.func53, Try.ntmps53
  go_wp2_with (at_make; refine wpList_make_full _ rfl _ _ 22 rfl (w.heap.size + 1) 3 i0 _ 1 Try.underlying22 hi hz0 hz1 _ _ _ _ n rfl rfl (by omega) (by omega) (by rw [hz2]; omega) (by unfold maxLen; omega) (by simp) ?_; intro w4 hown4 hgr4)
  rw [show Value.cells (.int .i64 0) = #[.int .i64 0] from rfl, made_ints] at hown4
  have hb4 := below_of_gb hgr4 (show w.heap.size + 1 ≤ (w.alloc (Obj.cells #[Value.int .i64 n, .slice A l.length c] 25)).heap.size by simp)
  have a0 : w4.cell? ⟨w.heap.size, 0, none⟩ = some (.int .i64 n) := carry hb4 (by simp) (by omega)
  have a1 : w4.cell? ⟨w.heap.size, 1, none⟩ = some (.slice A l.length c) := carry hb4 (by simp) (by omega)
  have k4 : Below w.heap.size w w4 := Below.trans (b := _) (by go_grown) (hb4.mono (by omega))
  have s4 := hb4.size
  simp only [World.size_alloc] at hown4 s4
  have hzero : List.replicate n (0 : Int) = (List.range n).map fun _ : Nat => (0 : Int) := List.ext_getElem (by simp) fun i h1 h2 => by simp
  rw [hzero] at hown4
  have Own4 := Lib.hid hown4
  clear hown4 hgr4 hb4 hzero
  go_wp2
  go_loopw [5] (fun i wr => ∃ (m : Nat) (g : Nat → Int), m ≤ n ∧ i = .int .i64 m ∧ (∀ m', m' < m → lookC (adj l) m' n [] = none) ∧ wr.ownsRow (w.heap.size + 1) 3 1 (.slice (some ⟨w.heap.size + 1, 0, none⟩) n n) n (icells ((List.range n).map g)) ∧ w4.grownBy wr (some (w.heap.size + 1))) (fun i _ => n - (intOf i).toNat)
  case atStart => exact ⟨0, _, Nat.zero_le _, rfl, fun m' h => by omega, Own4.out, grown_refl _ _⟩
  case round =>
    clear Own4
    obtain ⟨m, g, hm, rfl, hno, own, hgr⟩ := hrel
    have hbr := grown_below hgr (Nat.le_refl (w.heap.size + 1)) s4
    have b0 := carry hbr a0 (by simp)
    have b1 := carry hbr a1 (by simp)
    have kr := k4.trans (hbr.mono (by omega))
    have Hbr := Lib.hid hbr
    clear hbr
    by_cases hlt : m < n
    · have hmi : (m : Int) < n := by omega
      have hlo := (own_lt own).2
      have RAr := (hA.below kr (Nat.le_refl _)).more kr.size
      have Own := Lib.hid own
      have Hgr := Lib.hid hgr
      have Hno := Lib.hid hno
      clear own hgr hno
      go_wp2_with fail
      refine (paTable_any _ _ _ _ _ Hp.out RAr).mono ?_
      rintro e w5 ⟨A5, c5, G, rfl, tab, hb5⟩
      simp only [Int.toNat_natCast] at tab ⊢
      have own5 := own_below Own.out hb5 (Nat.le_refl _)
      have call := grColour_any n hn12 (adj l) m (by omega) A5 c5 G wr.heap.size w5 tab (w.heap.size + 1) hlo (by omega) n [] g w5 (by simp) (fun b h => by simp at h) (grown_refl _ _) own5
      simp only [List.length_nil] at call
      have Call := Lib.hid call
      have Gr5 := Lib.hid (grown_trans Hgr.out (below_grows hb5 (Nat.le_refl _) _))
      clear call tab own5 hb5 RAr b0 b1 Hgr Own kr
      go_wp2_with fail
      refine Call.out.mono ?_
      rintro e w6 ⟨f', rfl, _, hsome, own6, hgr6⟩
      have Own6 := Lib.hid own6
      have Gr6 := Lib.hid (grown_trans Gr5.out hgr6)
      have Hsome := Lib.hid hsome
      clear own6 hgr6 hsome Gr5 Call
      cases hl : lookC (adj l) m n [] with
      | none =>
        have Hl := Lib.hid hl
        clear hl Hsome
        go_wp2
        go_roundw
        case rel => exact ⟨m + 1, f', by omega, by go_num, fun m' h => by
                      by_cases e : m' = m
                      · subst e; exact Hl.out
                      · exact Hno.out m' (by omega), Own6.out, Gr6.out⟩
        case measure => simp [intOf]; omega
      | some r =>
        have hrl := lookC_length hl
        have hfe : Z = (r, m) := HZ.out.symm.trans (fewestC_some hlt Hno.out hl)
        have hmap : (List.range n).map f' = r := by
          rw [← map_ofTold (r := r) (n := n) (by simpa using hrl)]
          exact List.map_congr_left fun b hb => Hsome.out r hl b (List.mem_range.1 hb)
        have own7 := Own6.out
        rw [hmap] at own7
        have Own7 := Lib.hid (own_lower own7 (show w.heap.size ≤ w.heap.size + 1 by omega))
        have K7 := Lib.hid (k4.trans (grown_below Gr6.out (show w.heap.size ≤ w.heap.size + 1 by omega) (by omega)))
        subst hfe
        clear hl Hsome hrl hmap own7 Own6 Gr6
        go_wp2
        go_ret2
        exact ⟨_, _, rfl, Own7.out, K7.out⟩
    · have hme : m = n := by omega
      subst hme
      have hge : ¬ ((m : Int) < m) := by omega
      have hfe : Z = _ := HZ.out.symm.trans (fewestC_none hno)
      subst hfe
      have Own := Lib.hid own
      have Hgr := Lib.hid hgr
      clear own hgr hno
      go_wp2
      go_loopw [25] (fun i wr => ∃ (j : Nat) (g : Nat → Int), j ≤ m ∧ i = .int .i64 j ∧ (∀ b, b < j → g b = (b : Int)) ∧ wr.ownsRow (w.heap.size + 1) 3 1 (.slice (some ⟨w.heap.size + 1, 0, none⟩) m m) m (icells ((List.range m).map g)) ∧ w4.grownBy wr (some (w.heap.size + 1))) (fun i _ => m - (intOf i).toNat)
      case atStart => exact ⟨0, g, Nat.zero_le _, rfl, fun b h => by omega, Own.out, Hgr.out⟩
      case round =>
        clear Own Hgr Hbr b0 b1 kr
        obtain ⟨j, g, hj, rfl, hg, own, hgr⟩ := hrel
        have hbr := grown_below hgr (Nat.le_refl (w.heap.size + 1)) s4
        have b0 := carry hbr a0 (by simp)
        have b1 := carry hbr a1 (by simp)
        by_cases hlt2 : j < m
        · have hji : (j : Int) < m := by omega
          have cu := own_intAt own (map_range_at g hlt2)
          have fu := own.frozenAt j
          have hset := own_setInt own j (j : Int)
          rw [map_range_set] at hset
          have Hset := Lib.hid hset
          have Hgs := Lib.hid (grown_trans hgr (grown_set wr ⟨w.heap.size + 1, j, none⟩ (.int .i64 (j : Int))))
          have Hg := Lib.hid hg
          clear own hset hgr hg hbr b0 b1
          go_wp2
          go_roundw
          case rel => exact ⟨j + 1, _, by omega, by go_num, fun b h => by
                        by_cases e : b = j
                        · subst e; rw [upN_self]
                        · rw [upN_ne _ _ e]; exact Hg.out b (by omega), Hset.out, Hgs.out⟩
          case measure => simp [intOf]; omega
        · have hje : j = m := by omega
          subst hje
          have hge2 : ¬ ((j : Int) < j) := by omega
          have hmap : (List.range j).map g = (List.range j).map fun a : Nat => (a : Int) := List.map_congr_left fun b hb => hg b (List.mem_range.1 hb)
          rw [hmap] at own
          have Own := Lib.hid (own_lower own (show w.heap.size ≤ w.heap.size + 1 by omega))
          have K7 := Lib.hid (k4.trans (hbr.mono (by omega)))
          clear own hgr hg hmap hbr
          go_wp2
          go_region
          go_wp2
          go_ret2
          exact ⟨_, _, rfl, World.ownsRow.drew Own.out, K7.out.drew⟩
end Go.Proofs.Ythddlpghjkiioaa
/-
  THE PROGRAM's MEETINGS OF A PARTY (each pair of people, and whether they are friends), by its contract.
-/
namespace Go.Proofs.Ythddlpghjkiioaa
open Go.RowKit

abbrev ML := List (Int × Int × Bool)
def mcells : ML → List Value
  | [] => []
  | m :: l => .int .i64 m.1 :: .int .i64 m.2.1 :: .bool m.2.2 :: mcells l
theorem mcells_length (l : ML) : (mcells l).length = l.length * 3 := by
  induction l with
  | nil => rfl
  | cons p l ih => simp only [mcells, List.length_cons, ih]; omega
theorem mcells_append (l m : ML) : mcells (l ++ m) = mcells l ++ mcells m := by
  induction l with
  | nil => rfl
  | cons p l ih => simp [mcells, ih]
theorem mcells_at {l : ML} {k : Nat} {x y : Int} {f : Bool} (h : l[k]? = some (x, y, f)) : (mcells l)[k * 3]? = some (.int .i64 x) ∧ (mcells l)[k * 3 + 1]? = some (.int .i64 y) ∧ (mcells l)[k * 3 + 2]? = some (.bool f) := by
  induction l generalizing k with
  | nil => simp at h
  | cons p l ih =>
    cases k with
    | zero => simp at h; subst h; exact ⟨rfl, rfl, rfl⟩
    | succ k =>
      have := ih (k := k) (by simpa using h)
      rw [show (k + 1) * 3 = k * 3 + 3 from by omega, show k * 3 + 3 + 1 = k * 3 + 1 + 3 from by omega, show k * 3 + 3 + 2 = k * 3 + 2 + 3 from by omega]
      simpa [mcells] using this
theorem CRead.meet {w : World} {B : Nat} {ad : Option Addr} {l : ML} (h : CRead w B ad (mcells l)) {k : Nat} {x y : Int} {f : Bool} (hk : l[k]? = some (x, y, f)) :
    ∃ b off, ad = some ⟨b, off, none⟩ ∧ b < B ∧ w.cell? ⟨b, off + k * 3, none⟩ = some (.int .i64 x) ∧ w.cell? ⟨b, off + k * 3 + 1, none⟩ = some (.int .i64 y) ∧ w.cell? ⟨b, off + k * 3 + 2, none⟩ = some (.bool f) := by
  obtain ⟨e0, e1, e2⟩ := mcells_at hk
  obtain ⟨b, off, rfl, hb, h0⟩ := h _ _ e0
  obtain ⟨b', off', e, _, h1⟩ := h _ _ e1
  simp only [Option.some.injEq, Addr.mk.injEq, and_true] at e
  obtain ⟨rfl, rfl⟩ := e
  obtain ⟨b', off', e, _, h2⟩ := h _ _ e2
  simp only [Option.some.injEq, Addr.mk.injEq, and_true] at e
  obtain ⟨rfl, rfl⟩ := e
  exact ⟨b, off, rfl, hb, h0, h1, h2⟩

/-- the meetings of pairs -/
def meets (l : PL) (qs : PL) : ML := qs.map fun q => (q.1, q.2, l.contains q)
theorem meets_snoc (l qs : PL) (a b : Int) : meets l (qs ++ [(a, b)]) = meets l qs ++ [(a, b, l.contains (a, b))] := by simp [meets]
theorem meets_length (l qs : PL) : (meets l qs).length = qs.length := by simp [meets]

theorem upTo_prefix {n a b : Nat} (ha : a < n) (hab : a < b) (hb : b ≤ n) : ∃ rest, allP n = upTo n a b ++ rest := by
  have e1 : List.range n = List.range (a + 1) ++ (List.range (n - (a + 1))).map (a + 1 + ·) := by
    rw [← List.range_add]; congr 1; omega
  have e2 : rowP a n = (List.range' (a + 1) (b - (a + 1))).map (fun b : Nat => ((a : Int), (b : Int))) ++ (List.range' b (n - b)).map (fun b : Nat => ((a : Int), (b : Int))) := by
    unfold rowP
    rw [← List.map_append]
    congr 1
    have := List.range'_append_1 (s := a + 1) (m := b - (a + 1)) (n := n - b)
    rw [show a + 1 + (b - (a + 1)) = b from by omega] at this
    rw [this]
    congr 1
    omega
  unfold allP
  rw [e1, List.flatMap_append, List.range_succ, List.flatMap_append]
  simp only [List.flatMap_cons, List.flatMap_nil, List.append_nil]
  rw [e2]
  unfold upTo
  exact ⟨_, by simp only [List.append_assoc]; rfl⟩
/-- how many of the pairs so far are friends -/
def toldTo (n : Nat) (l : PL) (a b : Nat) : Nat := ((upTo n a b).filter fun q => l.contains q).length
theorem toldTo_le {n : Nat} {l : PL} (h : isP n l = true) {a b : Nat} (ha : a < n) (hab : a < b) (hb : b ≤ n) : toldTo n l a b ≤ l.length := by
  obtain ⟨rest, hr⟩ := upTo_prefix ha hab hb
  have hl := isP_filter h
  rw [hr, List.filter_append] at hl
  unfold toldTo
  rw [← congrArg List.length hl, List.length_append]
  omega
theorem told_at {n : Nat} {l : PL} (h : isP n l = true) {a b : Nat} (hab : a < b) (hb : b < n) (hc : l.contains ((a : Int), (b : Int)) = true) : l[toldTo n l a b]? = some ((a : Int), (b : Int)) := by
  obtain ⟨rest, hr⟩ := upTo_prefix (n := n) (a := a) (b := b + 1) (by omega) (by omega) (by omega)
  have hl := isP_filter h
  rw [hr, upTo_next hab, List.append_assoc, List.filter_append] at hl
  simp only [List.singleton_append, List.filter_cons, hc, if_true] at hl
  unfold toldTo
  generalize (upTo n a b).filter (fun q => l.contains q) = F at hl ⊢
  rw [← hl]
  simp
theorem told_not {l : PL} {k : Nat} {x y : Int} (hx : l[k]? = some (x, y)) (a b : Int) (hc : l.contains (a, b) = false) : ¬ (x = a ∧ y = b) := by
  rintro ⟨rfl, rfl⟩
  rw [Bool.eq_false_iff] at hc
  exact hc (List.contains_iff_mem.2 (List.mem_of_getElem? hx))
theorem toldTo_yes {n : Nat} {l : PL} {a b : Nat} (hab : a < b) (hc : l.contains ((a : Int), (b : Int)) = true) : toldTo n l a (b + 1) = toldTo n l a b + 1 := by
  unfold toldTo; rw [upTo_next hab, List.filter_append]; simp only [List.filter_cons, hc, if_true, List.filter_nil, List.length_append, List.length_singleton]
theorem toldTo_no {n : Nat} {l : PL} {a b : Nat} (hab : a < b) (hc : l.contains ((a : Int), (b : Int)) = false) : toldTo n l a (b + 1) = toldTo n l a b := by
  unfold toldTo; rw [upTo_next hab, List.filter_append]; simp only [List.filter_cons, hc, Bool.false_eq_true, if_false, List.filter_nil, List.append_nil]
theorem toldTo_row (n : Nat) (l : PL) (a : Nat) : toldTo n l a n = toldTo n l (a + 1) (a + 1 + 1) := by unfold toldTo; rw [upTo_row]
theorem three_cells {w : World} {g : Nat} {u v x : Value} (h : w.cell? ⟨g, 0, none⟩ = some u) (h' : w.cell? ⟨g, 1, none⟩ = some v) (h'' : w.cell? ⟨g, 2, none⟩ = some x) : ∀ j y, [u, v, x][j]? = some y → w.cell? ((⟨g, 0, none⟩ : Addr).add j) = some y := by
  intro j y hy
  match j, hy with
  | 0, hy => simp at hy; subst hy; simpa [Addr.add] using h
  | 1, hy => simp at hy; subst hy; simpa [Addr.add] using h'
  | 2, hy => simp at hy; subst hy; simpa [Addr.add] using h''
theorem three_one {u v x : Value} (h : u.oneCell' = true) (h' : v.oneCell' = true) (h'' : x.oneCell' = true) : ∀ y ∈ [u, v, x], y.oneCell' = true := by
  intro y hy
  simp at hy
  rcases hy with rfl | rfl | rfl
  · exact h
  · exact h'
  · exact h''
theorem Try.infoMeet : (Try.prog.info? 112).map (fun i => (i.zero, i.size, i.bytes)) = some (some (.agg #[.int .i64 0, .int .i64 0, .bool false]), 3, 24) := by kernel_rfl
end Go.Proofs.Ythddlpghjkiioaa
/-
  'impl.meetingsOf', by its contract.
-/
namespace Go.Proofs.Ythddlpghjkiioaa
open Go.RowKit

theorem below_drewN {B : Nat} {a w : World} (h : Below B a w) (k : Nat) : Below B a (w.drewN k) := ⟨h.os, h.tape, h.output, h.size, h.block⟩

set_option maxHeartbeats 2000000 in
set_option maxRecDepth 100000 in
theorem meetingsOf_any (p : Int) (l : PL) (A : Option Addr) (c : Nat) (w : World) (hp : isP p l = true) (hA : CRead w w.heap.size A (pcells l)) :
    Calls Try.prog 85 #[.agg #[.int .i64 p, .slice A l.length c]] w fun e w' => ∃ A' c', e = .returned (.slice A' (meets l (allP p.toNat)).length c') ∧
      w'.ownsRow w.heap.size 112 3 (.slice A' (meets l (allP p.toNat)).length c') (meets l (allP p.toNat)).length (mcells (meets l (allP p.toNat))) ∧ Below w.heap.size w w' := by
  obtain ⟨i0, hi, hz0, hz1, hz2⟩ := info_parts Try.infoMeet
  obtain ⟨n, rfl⟩ : ∃ n : Nat, p = n := ⟨p.toNat, by have := isP_range hp; omega⟩
  have hn := isP_range hp
  have hn12 : n ≤ 12 := by omega
  have hlen : l.length ≤ 66 := by have h1 := isP_length hp; have h2 := people_sq hn.1 hn.2; omega
  simp only [Int.toNat_natCast]
  have Hp := Lib.hid hp
  clear hp
  go_enter Try.func85, Try.ntmps85
  go_wp2
  go_loopw [3, 4, 11] (fun v q i wr => ∃ a : Nat, a ≤ n ∧ i = .int .i64 a ∧ q = .int .i64 (toldTo n l a (a + 1)) ∧ wr.ownsRow (w.heap.size + 1) 112 3 v (meets l (upTo n a (a + 1))).length (mcells (meets l (upTo n a (a + 1)))) ∧ Below (w.heap.size + 1) (w.alloc (Obj.cells #[.int .i64 (n : Int), .slice A l.length c] 25)) wr) (fun _ _ i _ => n - (intOf i).toNat)
  case atStart => exact ⟨0, Nat.zero_le _, rfl, by simp [toldTo, upTo_start], World.ownsRow_nil _ _ _ _, Below.refl _ _⟩
  case round =>
    obtain ⟨a, ha, rfl, rfl, hown, hb⟩ := hrel
    have hs := hb.size
    simp only [World.size_alloc] at hs
    have v0 : wr.cell? ⟨w.heap.size, 0, none⟩ = some (.int .i64 n) := carry hb (by simp) (by omega)
    have v1 : wr.cell? ⟨w.heap.size, 1, none⟩ = some (.slice A l.length c) := carry hb (by simp) (by omega)
    by_cases hlt : a < n
    · have hai : (a : Int) < n := by omega
      have Hown := Lib.hid hown
      have Hb := Lib.hid hb
      clear hown hb
      go_wp2
      go_loopw [3, 4, 6] (fun v q i wx => ∃ b : Nat, a < b ∧ b ≤ n ∧ i = .int .i64 b ∧ q = .int .i64 (toldTo n l a b) ∧ wx.ownsRow (w.heap.size + 1) 112 3 v (meets l (upTo n a b)).length (mcells (meets l (upTo n a b))) ∧ Below (w.heap.size + 1) (w.alloc (Obj.cells #[.int .i64 (n : Int), .slice A l.length c] 25)) wx) (fun _ _ i _ => n - (intOf i).toNat)
      case atStart => exact ⟨a + 1, by omega, by omega, by go_num, rfl, Hown.out, Hb.out⟩
      case round =>
        clear Hown Hb v0 v1 hs
        obtain ⟨b, hab, hbn, rfl, rfl, hown, hb⟩ := hrel
        have hs := hb.size
        simp only [World.size_alloc] at hs
        have hbw : Below w.heap.size w wr := Below.trans (b := _) (by go_grown) (hb.mono (by omega))
        have v0 : wr.cell? ⟨w.heap.size, 0, none⟩ = some (.int .i64 n) := carry hb (by simp) (by omega)
        have v1 : wr.cell? ⟨w.heap.size, 1, none⟩ = some (.slice A l.length c) := carry hb (by simp) (by omega)
        by_cases hbt : b < n
        · have hbi : (b : Int) < n := by omega
          have htl := toldTo_le Hp.out hlt hab hbn
          have hml : (meets l (upTo n a b)).length ≤ 1000 := by rw [meets_length]; exact upTo_length (by omega) (by omega) hn12
          have e0 : (wr.alloc (Obj.cells #[.int .i64 (a : Int), .int .i64 (b : Int)] 64)).cell? ⟨w.heap.size, 1, none⟩ = some (.slice A l.length c) := (World.cell?_alloc_lt _ _ _ (show w.heap.size < wr.heap.size by omega)).trans v1
          have e1 : (wr.alloc (Obj.cells #[.int .i64 (a : Int), .int .i64 (b : Int)] 64)).cell? ⟨w.heap.size, 0, none⟩ = some (.int .i64 n) := (World.cell?_alloc_lt _ _ _ (show w.heap.size < wr.heap.size by omega)).trans v0
          cases hc : l.contains ((a : Int), (b : Int)) with
          | true =>
            have ht := told_at Hp.out hab hbt hc
            have htlt : toldTo n l a b < l.length := (List.getElem?_eq_some_iff.1 ht).1
            obtain ⟨bb, off, rfl, hbb, c0, c1⟩ := (hA.below hbw (Nat.le_refl _)).pair ht
            have Hc := Lib.hid hc
            have Hyes := Lib.hid (toldTo_yes (n := n) hab hc)
            clear hc ht
            generalize hq : toldTo n l a b = q at *
            have Hq := Lib.hid hq
            clear hq
            have hqi : (q : Int) < (l.length : Int) := by omega
            have hqd : decide ((q : Int) < (l.length : Int)) = true := by simp; omega
            have hqd' : decide (q < l.length) = true := by simp; omega
            have f0 : (wr.alloc (Obj.cells #[.int .i64 (a : Int), .int .i64 (b : Int)] 64)).cell? ⟨bb, off + q * 2, none⟩ = some (.int .i64 a) := (World.cell?_alloc_lt _ _ _ (show bb < wr.heap.size by omega)).trans c0
            have f1 : (wr.alloc (Obj.cells #[.int .i64 (a : Int), .int .i64 (b : Int)] 64)).cell? ⟨bb, off + q * 2 + 1, none⟩ = some (.int .i64 b) := (World.cell?_alloc_lt _ _ _ (show bb < wr.heap.size by omega)).trans c1
            go_wp2
            go_quiet (fail)
            generalize hW : (wr.alloc (Obj.cells #[.int .i64 (a : Int), .int .i64 (b : Int)] 64)).drewN nq = W
            have g0 : W.cell? ⟨wr.heap.size, 0, none⟩ = some (.int .i64 a) := by rw [← hW]; simp
            have g1 : W.cell? ⟨wr.heap.size, 1, none⟩ = some (.int .i64 b) := by rw [← hW]; simp
            have g2 : W.cell? ⟨w.heap.size, 1, none⟩ = some (.slice (some ⟨bb, off, none⟩) l.length c) := by rw [← hW]; exact e0
            have g3 : W.cell? ⟨w.heap.size, 0, none⟩ = some (.int .i64 n) := by rw [← hW]; exact e1
            have ownW : W.ownsRow (w.heap.size + 1) 112 3 u3 (meets l (upTo n a b)).length (mcells (meets l (upTo n a b))) := by rw [← hW]; exact hown.alloc _
            have bW : Below (w.heap.size + 1) (w.alloc (Obj.cells #[.int .i64 (n : Int), .slice (some ⟨bb, off, none⟩) l.length c] 25)) W := by rw [← hW]; exact below_drewN (hb.alloc (by omega) _) _
            have sW : wr.heap.size < W.heap.size := by rw [← hW]; simp
            have sW2 : w.heap.size + 1 ≤ W.heap.size := by omega
            clear hW e0 e1 v0 v1 hown hb hs c0 c1 f0 f1
            go_wp2_with (at_builtin; refine wpList_append_own _ rfl _ _ 107 rfl (w.heap.size + 1) 112 i0 _ 3 24 Try.underlying107 hi hz0 hz1 hz2 rfl (by decide) _ _ _ rfl (ownW.alloc _) ⟨W.heap.size, 0, none⟩ 1 1 [.int .i64 a, .int .i64 b, .bool true] rfl rfl (three_cells (by simp) (by simp) (by simp)) (three_one rfl rfl rfl) (by unfold maxLen; omega) (by omega) (by simp; omega) ?_; intro v1 w1 hown1 hg1 _; obtain ⟨A1, d1', rfl, _⟩ := own_shape hown1; have bW1 : Below (w.heap.size + 1) (w.alloc (Obj.cells #[.int .i64 (n : Int), .slice (some ⟨bb, off, none⟩) l.length c] 25)) w1 := (bW.alloc (by omega) _).grown hg1 (by simp; omega) (fun k hk => (ownW.lt k hk).1); have z0 : w1.cell? ⟨w.heap.size, 0, none⟩ = some (.int .i64 n) := carry bW1 (by simp) (by omega); have z1 : w1.cell? ⟨w.heap.size, 1, none⟩ = some (.slice (some ⟨bb, off, none⟩) l.length c) := carry bW1 (by simp) (by omega))
            go_roundw
            case rel =>
              refine ⟨b + 1, by omega, by omega, by go_num, ?_, ?_, bW1⟩
              · rw [Hyes.out]; go_num
              · rw [upTo_next hab, meets_snoc, Hc.out, mcells_append, List.length_append]
                exact hown1
            case measure => simp [intOf]; omega
          | false =>
            have Hc := Lib.hid hc
            have Hno := Lib.hid (toldTo_no (n := n) hab hc)
            clear hc
            generalize hq : toldTo n l a b = q at *
            have Hq := Lib.hid hq
            clear hq
            by_cases hqt : q < l.length
            · obtain ⟨⟨x, y⟩, hx⟩ := getSome l q hqt
              obtain ⟨bb, off, rfl, hbb, c0, c1⟩ := (hA.below hbw (Nat.le_refl _)).pair hx
              have hne := told_not hx a b Hc.out
              have Hx := Lib.hid hx
              clear hx
              have hqi : (q : Int) < (l.length : Int) := by omega
              have hqd : decide ((q : Int) < (l.length : Int)) = true := by simp; omega
              have hqd' : decide (q < l.length) = true := by simp; omega
              have f0 : (wr.alloc (Obj.cells #[.int .i64 (a : Int), .int .i64 (b : Int)] 64)).cell? ⟨bb, off + q * 2, none⟩ = some (.int .i64 x) := (World.cell?_alloc_lt _ _ _ (show bb < wr.heap.size by omega)).trans c0
              have f1 : (wr.alloc (Obj.cells #[.int .i64 (a : Int), .int .i64 (b : Int)] 64)).cell? ⟨bb, off + q * 2 + 1, none⟩ = some (.int .i64 y) := (World.cell?_alloc_lt _ _ _ (show bb < wr.heap.size by omega)).trans c1
              by_cases hxa : x = (a : Int)
              · have hyb : ¬ y = (b : Int) := fun h => hne ⟨hxa, h⟩
                clear hne
                subst hxa
                go_wp2
                go_quiet (fail)
                generalize hW : (wr.alloc (Obj.cells #[.int .i64 (a : Int), .int .i64 (b : Int)] 64)).drewN nq = W
                have g0 : W.cell? ⟨wr.heap.size, 0, none⟩ = some (.int .i64 a) := by rw [← hW]; simp
                have g1 : W.cell? ⟨wr.heap.size, 1, none⟩ = some (.int .i64 b) := by rw [← hW]; simp
                have g2 : W.cell? ⟨w.heap.size, 1, none⟩ = some (.slice (some ⟨bb, off, none⟩) l.length c) := by rw [← hW]; exact e0
                have g3 : W.cell? ⟨w.heap.size, 0, none⟩ = some (.int .i64 n) := by rw [← hW]; exact e1
                have ownW : W.ownsRow (w.heap.size + 1) 112 3 u3 (meets l (upTo n a b)).length (mcells (meets l (upTo n a b))) := by rw [← hW]; exact hown.alloc _
                have bW : Below (w.heap.size + 1) (w.alloc (Obj.cells #[.int .i64 (n : Int), .slice (some ⟨bb, off, none⟩) l.length c] 25)) W := by rw [← hW]; exact below_drewN (hb.alloc (by omega) _) _
                have sW : wr.heap.size < W.heap.size := by rw [← hW]; simp
                have sW2 : w.heap.size + 1 ≤ W.heap.size := by omega
                clear hW e0 e1 v0 v1 hown hb hs c0 c1 f0 f1
                go_wp2_with (at_builtin; refine wpList_append_own _ rfl _ _ 107 rfl (w.heap.size + 1) 112 i0 _ 3 24 Try.underlying107 hi hz0 hz1 hz2 rfl (by decide) _ _ _ rfl (ownW.alloc _) ⟨W.heap.size, 0, none⟩ 1 1 [.int .i64 a, .int .i64 b, .bool false] rfl rfl (three_cells (by simp) (by simp) (by simp)) (three_one rfl rfl rfl) (by unfold maxLen; omega) (by omega) (by simp; omega) ?_; intro v1 w1 hown1 hg1 _; obtain ⟨A1, d1', rfl, _⟩ := own_shape hown1; have bW1 : Below (w.heap.size + 1) (w.alloc (Obj.cells #[.int .i64 (n : Int), .slice (some ⟨bb, off, none⟩) l.length c] 25)) w1 := (bW.alloc (by omega) _).grown hg1 (by simp; omega) (fun k hk => (ownW.lt k hk).1); have z0 : w1.cell? ⟨w.heap.size, 0, none⟩ = some (.int .i64 n) := carry bW1 (by simp) (by omega); have z1 : w1.cell? ⟨w.heap.size, 1, none⟩ = some (.slice (some ⟨bb, off, none⟩) l.length c) := carry bW1 (by simp) (by omega))
                go_roundw
                case rel =>
                  refine ⟨b + 1, by omega, by omega, by go_num, ?_, ?_, bW1⟩
                  · rw [Hno.out]
                  · rw [upTo_next hab, meets_snoc, Hc.out, mcells_append, List.length_append]
                    exact hown1
                case measure => simp [intOf]; omega
              · clear hne
                go_wp2
                go_quiet (fail)
                generalize hW : (wr.alloc (Obj.cells #[.int .i64 (a : Int), .int .i64 (b : Int)] 64)).drewN nq = W
                have g0 : W.cell? ⟨wr.heap.size, 0, none⟩ = some (.int .i64 a) := by rw [← hW]; simp
                have g1 : W.cell? ⟨wr.heap.size, 1, none⟩ = some (.int .i64 b) := by rw [← hW]; simp
                have g2 : W.cell? ⟨w.heap.size, 1, none⟩ = some (.slice (some ⟨bb, off, none⟩) l.length c) := by rw [← hW]; exact e0
                have g3 : W.cell? ⟨w.heap.size, 0, none⟩ = some (.int .i64 n) := by rw [← hW]; exact e1
                have ownW : W.ownsRow (w.heap.size + 1) 112 3 u3 (meets l (upTo n a b)).length (mcells (meets l (upTo n a b))) := by rw [← hW]; exact hown.alloc _
                have bW : Below (w.heap.size + 1) (w.alloc (Obj.cells #[.int .i64 (n : Int), .slice (some ⟨bb, off, none⟩) l.length c] 25)) W := by rw [← hW]; exact below_drewN (hb.alloc (by omega) _) _
                have sW : wr.heap.size < W.heap.size := by rw [← hW]; simp
                have sW2 : w.heap.size + 1 ≤ W.heap.size := by omega
                clear hW e0 e1 v0 v1 hown hb hs c0 c1 f0 f1
                go_wp2_with (at_builtin; refine wpList_append_own _ rfl _ _ 107 rfl (w.heap.size + 1) 112 i0 _ 3 24 Try.underlying107 hi hz0 hz1 hz2 rfl (by decide) _ _ _ rfl (ownW.alloc _) ⟨W.heap.size, 0, none⟩ 1 1 [.int .i64 a, .int .i64 b, .bool false] rfl rfl (three_cells (by simp) (by simp) (by simp)) (three_one rfl rfl rfl) (by unfold maxLen; omega) (by omega) (by simp; omega) ?_; intro v1 w1 hown1 hg1 _; obtain ⟨A1, d1', rfl, _⟩ := own_shape hown1; have bW1 : Below (w.heap.size + 1) (w.alloc (Obj.cells #[.int .i64 (n : Int), .slice (some ⟨bb, off, none⟩) l.length c] 25)) w1 := (bW.alloc (by omega) _).grown hg1 (by simp; omega) (fun k hk => (ownW.lt k hk).1); have z0 : w1.cell? ⟨w.heap.size, 0, none⟩ = some (.int .i64 n) := carry bW1 (by simp) (by omega); have z1 : w1.cell? ⟨w.heap.size, 1, none⟩ = some (.slice (some ⟨bb, off, none⟩) l.length c) := carry bW1 (by simp) (by omega))
                go_roundw
                case rel =>
                  refine ⟨b + 1, by omega, by omega, by go_num, ?_, ?_, bW1⟩
                  · rw [Hno.out]
                  · rw [upTo_next hab, meets_snoc, Hc.out, mcells_append, List.length_append]
                    exact hown1
                case measure => simp [intOf]; omega
            · have hqd : decide ((q : Int) < (l.length : Int)) = false := by simp; omega
              have hqd' : decide (q < l.length) = false := by simp; omega
              go_wp2
              go_quiet (fail)
              generalize hW : (wr.alloc (Obj.cells #[.int .i64 (a : Int), .int .i64 (b : Int)] 64)).drewN nq = W
              have g0 : W.cell? ⟨wr.heap.size, 0, none⟩ = some (.int .i64 a) := by rw [← hW]; simp
              have g1 : W.cell? ⟨wr.heap.size, 1, none⟩ = some (.int .i64 b) := by rw [← hW]; simp
              have g2 : W.cell? ⟨w.heap.size, 1, none⟩ = some (.slice A l.length c) := by rw [← hW]; exact e0
              have g3 : W.cell? ⟨w.heap.size, 0, none⟩ = some (.int .i64 n) := by rw [← hW]; exact e1
              have ownW : W.ownsRow (w.heap.size + 1) 112 3 u3 (meets l (upTo n a b)).length (mcells (meets l (upTo n a b))) := by rw [← hW]; exact hown.alloc _
              have bW : Below (w.heap.size + 1) (w.alloc (Obj.cells #[.int .i64 (n : Int), .slice A l.length c] 25)) W := by rw [← hW]; exact below_drewN (hb.alloc (by omega) _) _
              have sW : wr.heap.size < W.heap.size := by rw [← hW]; simp
              have sW2 : w.heap.size + 1 ≤ W.heap.size := by omega
              clear hW e0 e1 v0 v1 hown hb hs
              go_wp2_with (at_builtin; refine wpList_append_own _ rfl _ _ 107 rfl (w.heap.size + 1) 112 i0 _ 3 24 Try.underlying107 hi hz0 hz1 hz2 rfl (by decide) _ _ _ rfl (ownW.alloc _) ⟨W.heap.size, 0, none⟩ 1 1 [.int .i64 a, .int .i64 b, .bool false] rfl rfl (three_cells (by simp) (by simp) (by simp)) (three_one rfl rfl rfl) (by unfold maxLen; omega) (by omega) (by simp; omega) ?_; intro v1 w1 hown1 hg1 _; obtain ⟨A1, d1', rfl, _⟩ := own_shape hown1; have bW1 : Below (w.heap.size + 1) (w.alloc (Obj.cells #[.int .i64 (n : Int), .slice A l.length c] 25)) w1 := (bW.alloc (by omega) _).grown hg1 (by simp; omega) (fun k hk => (ownW.lt k hk).1); have z0 : w1.cell? ⟨w.heap.size, 0, none⟩ = some (.int .i64 n) := carry bW1 (by simp) (by omega); have z1 : w1.cell? ⟨w.heap.size, 1, none⟩ = some (.slice A l.length c) := carry bW1 (by simp) (by omega))
              go_roundw
              case rel =>
                refine ⟨b + 1, by omega, by omega, by go_num, ?_, ?_, bW1⟩
                · rw [Hno.out]
                · rw [upTo_next hab, meets_snoc, Hc.out, mcells_append, List.length_append]
                  exact hown1
              case measure => simp [intOf]; omega
        · have hbn' : n = b := by omega
          subst hbn'
          have hge : ¬ ((n : Int) < n) := by omega
          go_wp2
          go_roundw
          case rel => exact ⟨a + 1, by omega, by go_num, by rw [← toldTo_row], by rw [← upTo_row]; exact hown, hb⟩
          case measure => simp [intOf]; omega
    · have hal : n = a := by omega
      subst hal
      have hge : ¬ ((n : Int) < n) := by omega
      rw [upTo_all] at hown
      obtain ⟨A', c', rfl, _⟩ := own_shape hown
      have hbw : Below w.heap.size w wr := Below.trans (b := _) (by go_grown) (hb.mono (by omega))
      have Hown := Lib.hid hown
      clear hown
      go_wp2
      go_ret
      exact ⟨A', c', rfl, own_lower Hown.out (Nat.le_succ _), hbw⟩
end Go.Proofs.Ythddlpghjkiioaa
