/-
  PARTIES OF PARTS: sizes as plain lists; the part of a person; the pairs of people of different parts; even sizes. Nothing here speaks of the program.
-/
import Derived.Test.YtgccapdjhnejcaaJoin2
import Derived.Test.YtgccapdjhnejcaaNums
namespace Go.Proofs.Ytgccapdjhnejcaa
open Go.RowKit

/-- the parts of the people: k as often as the first size, k + 1 as often as the second, .. -/
def partL (k : Int) : List Int → List Int
  | [] => []
  | s :: r => List.replicate s.toNat k ++ partL (k + 1) r
theorem partL_snoc (k : Int) (l : List Int) (s : Int) : partL k (l ++ [s]) = partL k l ++ List.replicate s.toNat (k + l.length) := by
  induction l generalizing k with
  | nil => simp [partL]
  | cons x l ih =>
    have e : k + 1 + (l.length : Int) = k + ((l.length + 1 : Nat) : Int) := by omega
    simp only [List.cons_append, partL, ih, List.append_assoc, List.length_cons, e]
theorem partL_mem {k : Int} {l : List Int} {x : Int} (h : x ∈ partL k l) : k ≤ x ∧ x < k + l.length := by
  induction l generalizing k with
  | nil => simp [partL] at h
  | cons s l ih =>
    simp only [partL, List.mem_append, List.mem_replicate] at h
    rcases h with ⟨_, rfl⟩ | h
    · simp only [List.length_cons]; omega
    · have := ih h; simp only [List.length_cons]; omega
theorem sumI_cons (x : Int) (l : List Int) : sumI (x :: l) = x + sumI l := by
  have h : ∀ (l : List Int) (a b : Int), l.foldl (· + ·) (a + b) = a + l.foldl (· + ·) b := by
    intro l
    induction l with
    | nil => intro a b; rfl
    | cons y l ih => intro a b; rw [List.foldl_cons, List.foldl_cons, Int.add_assoc, ih]
  unfold sumI
  rw [List.foldl_cons, Int.zero_add]
  have := h l x 0
  rwa [Int.add_zero] at this
theorem partL_length {l : List Int} (h : ∀ x ∈ l, 0 ≤ x) (k : Int) : ((partL k l).length : Int) = sumI l := by
  induction l generalizing k with
  | nil => rfl
  | cons s l ih =>
    rw [sumI_cons, ← ih (fun x hx => h x (List.mem_cons_of_mem _ hx)) (k + 1)]
    have := h s List.mem_cons_self
    simp only [partL, List.length_append, List.length_replicate]
    omega
/-- whether two people are of different parts -/
def partF (L : List Int) (i j : Nat) : Bool := decide (L.getD i 0 ≠ L.getD j 0)
def partsP (q : List Int) : PL := tabP (partL 0 q).length (partF (partL 0 q))
theorem adj_tabP {n : Nat} (hn : n ≤ 12) {f : Nat → Nat → Bool} {i j : Nat} (hij : i < j) (hj : j < n) : adj (tabP n f) i j = f i j := by
  unfold tabP
  rw [adj_pair (filter_isP hn _) hij, Bool.eq_iff_iff, List.contains_iff_mem]
  rw [List.mem_filter, mem_allP]
  simp only [Int.toNat_natCast]
  constructor
  · intro h; exact h.2
  · intro h; exact ⟨⟨by omega, by omega, by omega⟩, h⟩
theorem partsP_isP {q : List Int} (h : (partL 0 q).length ≤ 12) : isP (partL 0 q).length (partsP q) = true := filter_isP h _
/-- one part more -/
theorem partsP_next {q : List Int} {s : Int} (hle : (partL 0 q).length + s.toNat ≤ 12) :
    tabP ((partL 0 q).length + s.toNat) (joinT (partL 0 q).length (adj (partsP q)) (adj []) true) = partsP (q ++ [s]) := by
  unfold partsP
  rw [partL_snoc, List.length_append, List.length_replicate]
  generalize hL : partL 0 q = L at *
  have hm : ∀ x ∈ L, x < (q.length : Int) := fun x hx => by rw [← hL] at hx; have := partL_mem hx; omega
  refine tabP_congr fun i j hij hj => ?_
  unfold joinT partF
  rw [Int.zero_add]
  have left : ∀ k, k < L.length → (L ++ List.replicate s.toNat (q.length : Int)).getD k 0 = L.getD k 0 := fun k hk => by
    rw [List.getD_eq_getElem?_getD, List.getD_eq_getElem?_getD, List.getElem?_append_left hk]
  have right : ∀ k, L.length ≤ k → k < L.length + s.toNat → (L ++ List.replicate s.toNat (q.length : Int)).getD k 0 = q.length := fun k h1 h2 => by
    rw [List.getD_eq_getElem?_getD, List.getElem?_append_right h1, List.getElem?_replicate, if_pos (by omega)]; rfl
  have low : ∀ k, k < L.length → L.getD k 0 < q.length := fun k hk => by
    rw [List.getD_eq_getElem?_getD, List.getElem?_eq_getElem hk]
    exact hm _ (List.getElem_mem hk)
  by_cases hi : i < L.length
  · by_cases hj' : j < L.length
    · rw [if_pos hi, if_pos hj', left i hi, left j hj', adj_tabP (by omega) hij hj']
    · rw [if_pos hi, if_neg hj', left i hi, right j (by omega) hj]
      have := low i hi
      symm
      rw [decide_eq_true_iff]
      omega
  · rw [if_neg hi, if_neg (by omega), right i (by omega) (by omega), right j (by omega) hj]
    simp [adj]
/-! ## What PartsParty answers -/
def goodS (q : List Int) : Bool := decide (q ≠ []) && (q.all fun x => decide (1 ≤ x)) && decide (sumI q ≤ 12)
def resPartsParty (q : List Int) : Int × PL × Bool := if goodS q then (sumI q, partsP q, true) else (0, [], false)
theorem goodS_parts {q : List Int} (h : goodS q = true) : q ≠ [] ∧ (∀ x ∈ q, 1 ≤ x) ∧ sumI q ≤ 12 := by
  simp only [goodS, Bool.and_eq_true, decide_eq_true_eq, List.all_eq_true] at h
  exact ⟨h.1.1, h.1.2, h.2⟩
theorem goodS_of {q : List Int} (h : q ≠ []) (h1 : ∀ x ∈ q, 1 ≤ x) (h2 : sumI q ≤ 12) : goodS q = true := by
  simp only [goodS, Bool.and_eq_true, decide_eq_true_eq, List.all_eq_true]
  exact ⟨⟨h, h1⟩, h2⟩
theorem sum_len {q : List Int} (h1 : ∀ x ∈ q, 1 ≤ x) : (q.length : Int) ≤ sumI q := by
  induction q with
  | nil => simp [sumI_nil]
  | cons x q ih =>
    rw [sumI_cons]
    have := h1 x List.mem_cons_self
    have := ih fun y hy => h1 y (List.mem_cons_of_mem _ hy)
    simp only [List.length_cons]
    omega
theorem sum_nonneg {q : List Int} (h1 : ∀ x ∈ q, 0 ≤ x) : 0 ≤ sumI q := by
  rw [← partL_length h1 0]; omega
theorem sumI_append (a b : List Int) : sumI (a ++ b) = sumI a + sumI b := by
  induction a with
  | nil => simp [sumI_nil]
  | cons x a ih => rw [List.cons_append, sumI_cons, sumI_cons, ih]; omega
/-- a bad size, all before it good and of a sum: it fails -/
theorem goodS_no {q : List Int} {k : Nat} {s : Int} (hs : q[k]? = some s) (h : s < 1 ∨ 12 - sumI (q.take k) < s) : goodS q = false := by
  cases hg : goodS q with
  | false => rfl
  | true =>
    obtain ⟨_, h1, h2⟩ := goodS_parts hg
    have hk : k < q.length := (List.getElem?_eq_some_iff.1 hs).1
    have e : q = q.take (k + 1) ++ q.drop (k + 1) := (List.take_append_drop _ _).symm
    have hd : 0 ≤ sumI (q.drop (k + 1)) := sum_nonneg fun x hx => by have := h1 x (List.mem_of_mem_drop hx); omega
    have e2 : sumI (q.take (k + 1)) = sumI (q.take k) + s := by rw [List.take_add_one, hs, Option.toList_some, sumI_snoc]
    have hs1 := h1 s (List.mem_of_getElem? hs)
    rw [e, sumI_append] at h2
    omega
theorem resPartsParty_len (q : List Int) : (resPartsParty q).2.1.length ≤ 1048576 := by
  unfold resPartsParty
  split
  · rename_i h
    obtain ⟨_, h1, h2⟩ := goodS_parts h
    have := partL_length (l := q) (fun x hx => by have := h1 x hx; omega) 0
    have := filter_length_le (n := (partL 0 q).length) (by omega) (fun r => partF (partL 0 q) r.1.toNat r.2.toNat)
    show (partsP q).length ≤ 1048576
    unfold partsP tabP
    omega
  · simp
/-! ## Even sizes -/
def evenI (n parts : Nat) : List Int := (List.range parts).map fun k : Nat => if k < n % parts then ((n / parts : Nat) : Int) + 1 else ((n / parts : Nat) : Int)
def evenB (n parts : Nat) : Bool := goodS (evenI n parts) && decide (sumI (evenI n parts) = n)
theorem even_all : ∀ n : Fin 13, ∀ k : Fin 13, 1 ≤ k.val → k.val ≤ n.val → evenB n.val k.val = true := by decide +kernel
theorem evenI_length (n p : Nat) : (evenI n p).length = p := by simp [evenI]
theorem evenI_at {n p k : Nat} (hk : k < p) : (evenI n p)[k]? = some (if k < n % p then ((n / p : Nat) : Int) + 1 else ((n / p : Nat) : Int)) := by simp [evenI, hk]
theorem evenI_none (p : Nat) : evenI 0 p = List.replicate p 0 := by
  unfold evenI
  refine List.eq_replicate_iff.2 ⟨by simp, fun x hx => ?_⟩
  obtain ⟨k, _, rfl⟩ := List.mem_map.1 hx
  simp
theorem evenI_next_all : ∀ a : Fin 12, ∀ p : Fin 13, 1 ≤ p.val → (evenI a.val p.val).set (a.val % p.val) (((a.val / p.val : Nat) : Int) + 1) = evenI (a.val + 1) p.val := by decide +kernel
theorem evenI_next {a p : Nat} (ha : a < 12) (hp : 1 ≤ p) (hp12 : p ≤ 12) : (evenI a p).set (a % p) (((a / p : Nat) : Int) + 1) = evenI (a + 1) p := evenI_next_all ⟨a, ha⟩ ⟨p, by omega⟩ hp
theorem evenI_good {n p : Nat} (hn : n ≤ 12) (hp : 1 ≤ p) (hpn : p ≤ n) : goodS (evenI n p) = true ∧ sumI (evenI n p) = n := by
  have := even_all ⟨n, by omega⟩ ⟨p, by omega⟩ hp hpn
  simpa [evenB] using this
/-! ## What TuranParty and MostWithout answer -/
def resTuranParty (n p : Int) : Int × PL × Bool := if decide (1 ≤ n ∧ n ≤ 12) && decide (1 ≤ p ∧ p ≤ n) then (n, partsP (evenI n.toNat p.toNat), true) else (0, [], false)
def resMostWithout (n s : Int) : Int × Bool := if decide (1 ≤ n ∧ n ≤ 12) && decide (2 ≤ s ∧ s ≤ n + 1) then (((partsP (evenI n.toNat (s - 1).toNat)).length : Int), true) else (0, false)
theorem resTuran_parts {n p : Nat} (hn : n ≤ 12) (hp : 1 ≤ p) (hpn : p ≤ n) : resPartsParty (evenI n p) = ((n : Int), partsP (evenI n p), true) := by
  obtain ⟨h1, h2⟩ := evenI_good hn hp hpn
  unfold resPartsParty
  rw [h1, if_pos rfl, h2]
theorem partsP_len12 {n p : Nat} (hn : n ≤ 12) (hp : 1 ≤ p) (hpn : p ≤ n) : (partsP (evenI n p)).length ≤ 66 := by
  obtain ⟨h1, h2⟩ := evenI_good hn hp hpn
  obtain ⟨_, g1, g2⟩ := goodS_parts h1
  have := partL_length (l := evenI n p) (fun x hx => by have := g1 x hx; omega) 0
  exact filter_length_le (n := (partL 0 (evenI n p)).length) (by omega) _
theorem resTuranParty_len (n p : Int) : (resTuranParty n p).2.1.length ≤ 1048576 := by
  unfold resTuranParty
  split
  · rename_i h
    simp only [Bool.and_eq_true, decide_eq_true_eq] at h
    have := partsP_len12 (n := n.toNat) (p := p.toNat) (by omega) (by omega) (by omega)
    show (partsP _).length ≤ 1048576
    omega
  · simp
end Go.Proofs.Ytgccapdjhnejcaa
