/-
  Texts put together for the claims of 'CountAvoiding' (pack 4): AvP, Has, Own, LRows, OwnRow, PaintS, Boxed, AvS, AvL, AvM, AvN.
-/
import Derived.Test.YthddlpghjkiioaaCountAvoidingP2
import Derived.Test.YthddlpghjkiioaaCountAvoidingP3
import Derived.ArgAppend
import Derived.Laws.AppendOwnNone
import Derived.Deep.RegionHeld3
import Derived.Laws.OwnMore
/-
  PAINTINGS WITHOUT A TRIPLE OF ONE COLOUR, in their order. Nothing here speaks of the program.
-/
namespace Go.Proofs.Ythddlpghjkiioaa
open Go.RowKit

/-- a pair completes a triple of one colour -/
def closesX (n : Nat) (l : List Int) (a b : Nat) : Bool := (List.range a).any fun c => decide (colX n l c a = colX n l a b) && decide (colX n l c b = colX n l a b)
/-- all paintings that go on with so many pairs -/
def avoidX (n k : Nat) : Nat → List Int → List (List Int)
  | 0, t => [t]
  | m + 1, t => (List.range k).flatMap fun x : Nat => if closesX n (t ++ [(x : Int)]) (pairAt n t.length).1 (pairAt n t.length).2 then [] else avoidX n k m (t ++ [(x : Int)])
theorem atP_before_all : ∀ n : Fin 9, ∀ a : Fin 8, ∀ b : Fin 8, ∀ c : Fin 8, c.val < a.val → a.val < b.val → b.val < n.val → atP n.val c.val a.val < atP n.val a.val b.val ∧ atP n.val c.val b.val < atP n.val a.val b.val := by decide +kernel
theorem atP_before {n a b c : Nat} (hn : n ≤ 8) (hc : c < a) (hab : a < b) (hb : b < n) : atP n c a < atP n a b ∧ atP n c b < atP n a b := atP_before_all ⟨n, by omega⟩ ⟨a, by omega⟩ ⟨b, by omega⟩ ⟨c, by omega⟩ hc hab hb
theorem getD_take {l l' : List Int} {q i : Nat} (h : l.take q = l'.take q) (hi : i < q) : l.getD i 0 = l'.getD i 0 := by
  have h1 : (l.take q)[i]? = (l'.take q)[i]? := by rw [h]
  rw [List.getElem?_take, List.getElem?_take, if_pos hi, if_pos hi] at h1
  rw [List.getD_eq_getElem?_getD, List.getD_eq_getElem?_getD, h1]
theorem closesX_congr {n a b : Nat} {l l' : List Int} (hn : n ≤ 8) (hab : a < b) (hb : b < n) (h : l.take (atP n a b + 1) = l'.take (atP n a b + 1)) : closesX n l a b = closesX n l' a b := by
  unfold closesX colX
  have key : ∀ c ∈ List.range a, (decide (l.getD (atP n (min c a) (max c a)) 0 = l.getD (atP n (min a b) (max a b)) 0) && decide (l.getD (atP n (min c b) (max c b)) 0 = l.getD (atP n (min a b) (max a b)) 0)) = (decide (l'.getD (atP n (min c a) (max c a)) 0 = l'.getD (atP n (min a b) (max a b)) 0) && decide (l'.getD (atP n (min c b) (max c b)) 0 = l'.getD (atP n (min a b) (max a b)) 0)) := fun c hc => by
    have hc := List.mem_range.1 hc
    have hp := atP_before hn hc hab hb
    rw [Nat.min_eq_left (show c ≤ a by omega), Nat.max_eq_right (show c ≤ a by omega), Nat.min_eq_left (show a ≤ b by omega), Nat.max_eq_right (show a ≤ b by omega), Nat.min_eq_left (show c ≤ b by omega), Nat.max_eq_right (show c ≤ b by omega),
      getD_take h (show atP n c a < atP n a b + 1 by omega), getD_take h (show atP n c b < atP n a b + 1 by omega), getD_take h (show atP n a b < atP n a b + 1 by omega)]
  rw [Bool.eq_iff_iff, List.any_eq_true, List.any_eq_true]
  constructor
  · rintro ⟨c, hc, hx⟩
    exact ⟨c, hc, by rw [← key c hc]; exact hx⟩
  · rintro ⟨c, hc, hx⟩
    exact ⟨c, hc, by rw [key c hc]; exact hx⟩
/-- so many pairs come before (a, b) -/
def PosX (n a b q : Nat) : Prop := (a + 1 < n ∧ a < b ∧ b < n ∧ q = atP n a b) ∨ (a + 1 < n ∧ b = n ∧ q = atP n a (n - 1) + 1) ∨ (n ≤ a + 1 ∧ q = (allP n).length)
theorem atP_down_all : ∀ n : Fin 9, ∀ a : Fin 8, (a.val + 2 < n.val → atP n.val (a.val + 1) (a.val + 2) = atP n.val a.val (n.val - 1) + 1) ∧ (a.val + 2 = n.val → (allP n.val).length = atP n.val a.val (n.val - 1) + 1) := by decide +kernel
theorem PosX.first {n : Nat} (hn : n ≤ 8) : PosX n 0 1 0 := by
  have h : ∀ m : Fin 9, (1 < m.val → atP m.val 0 1 = 0) ∧ (m.val ≤ 1 → (allP m.val).length = 0) := by decide +kernel
  have h1 := h ⟨n, by omega⟩
  by_cases h2 : 1 < n
  · exact .inl ⟨by omega, by omega, h2, (h1.1 h2).symm⟩
  · exact .inr (.inr ⟨by omega, (h1.2 (by show n ≤ 1; omega)).symm⟩)
theorem PosX.more {n a b q : Nat} (h1 : a + 1 < n) (h2 : a < b) (h3 : b < n) (hq : q = atP n a b) : PosX n a (b + 1) (q + 1) := by
  have e : atP n a (b + 1) = atP n a b + 1 := by unfold atP; omega
  by_cases hb : b + 1 < n
  · exact .inl ⟨h1, by omega, hb, by rw [hq, e]⟩
  · have hb : b + 1 = n := by omega
    refine .inr (.inl ⟨h1, hb, ?_⟩)
    rw [hq, show n - 1 = b by omega]
theorem PosX.next {n a q : Nat} (hn : n ≤ 8) (h1 : a + 1 < n) (hq : q = atP n a (n - 1) + 1) : PosX n (a + 1) (a + 2) q := by
  have h := atP_down_all ⟨n, by omega⟩ ⟨a, by omega⟩
  by_cases h2 : a + 2 < n
  · exact .inl ⟨by omega, by omega, h2, by rw [hq]; exact (h.1 h2).symm⟩
  · exact .inr (.inr ⟨by omega, by rw [hq]; exact (h.2 (by show a + 2 = n; omega)).symm⟩)
theorem PosX.at {n a b q : Nat} (hn : n ≤ 8) (h2 : a < b) (h3 : b < n) (hq : q = atP n a b) : q < (allP n).length ∧ pairAt n q = (a, b) := by
  have h := atP_get hn h2 h3
  rw [← hq] at h
  refine ⟨(List.getElem?_eq_some_iff.1 h).1, ?_⟩
  unfold pairAt
  rw [List.getD_eq_getElem?_getD, h]
  simp
/-- the first one, if there was none -/
def fstX (fst : List Int) (cnt : Nat) (L : List (List Int)) : List Int := if cnt = 0 then L.headD fst else fst
theorem fstX_append (fst : List Int) (cnt : Nat) (L M : List (List Int)) : fstX fst cnt (L ++ M) = fstX (fstX fst cnt L) (cnt + L.length) M := by
  unfold fstX
  cases L with
  | nil => simp
  | cons t L =>
    by_cases h : cnt = 0
    · simp [h]
    · rw [if_neg h, if_neg h, if_neg (by omega)]
theorem fstX_nil (fst : List Int) (cnt : Nat) : fstX fst cnt [] = fst := by unfold fstX; simp
/-- counted up to a greatest number -/
def cntX (most cnt : Nat) (L : List (List Int)) : Nat := min most (cnt + L.length)
theorem cntX_le (most cnt : Nat) (L : List (List Int)) : cntX most cnt L ≤ most := Nat.min_le_left _ _
theorem cntX_nil {most cnt : Nat} (h : cnt ≤ most) : cntX most cnt [] = cnt := by unfold cntX; simp; omega
theorem cntX_append {most cnt : Nat} (L M : List (List Int)) : cntX most cnt (L ++ M) = cntX most (cntX most cnt L) M := by
  unfold cntX
  rw [List.length_append]
  omega
/-- the first one of those counted up to a greatest number -/
theorem fstX_cnt {most : Nat} (hm : 0 < most) (fst : List Int) (cnt : Nat) (L M : List (List Int)) : fstX fst cnt (L ++ M) = fstX (fstX fst cnt L) (cntX most cnt L) M := by
  rw [fstX_append]
  unfold fstX cntX
  simp only [show (min most (cnt + L.length) = 0) = (cnt + L.length = 0) from propext ⟨fun h => by omega, fun h => by omega⟩]
theorem avoidX_count (n k : Nat) : ∀ (m : Nat) (t : List Int), (avoidX n k m t).length ≤ k ^ m := by
  intro m
  induction m with
  | zero => intro t; simp [avoidX]
  | succ m ih =>
    intro t
    have key : ∀ j, ((List.range j).flatMap fun x : Nat => if closesX n (t ++ [(x : Int)]) (pairAt n t.length).1 (pairAt n t.length).2 then [] else avoidX n k m (t ++ [(x : Int)])).length ≤ j * k ^ m := by
      intro j
      induction j with
      | zero => simp
      | succ j ihj =>
        rw [List.range_succ, List.flatMap_append, List.length_append, List.flatMap_cons, List.flatMap_nil, List.append_nil, Nat.succ_mul]
        refine Nat.add_le_add ihj ?_
        split
        · simp
        · exact ih _
    unfold avoidX
    refine Nat.le_trans (key _) ?_
    rw [Nat.pow_succ, Nat.mul_comm]
    exact Nat.le_refl _
theorem avoidX_mem (n k : Nat) : ∀ (m : Nat) (t r : List Int), r ∈ avoidX n k m t → r.length = t.length + m ∧ (∀ x ∈ r, x ∈ t ∨ (0 ≤ x ∧ x < k)) := by
  intro m
  induction m with
  | zero =>
    intro t r h
    have : r = t := by simpa [avoidX] using h
    subst this
    exact ⟨rfl, fun x hx => .inl hx⟩
  | succ m ih =>
    intro t r h
    unfold avoidX at h
    rw [List.mem_flatMap] at h
    obtain ⟨x, hx, hr⟩ := h
    have hx := List.mem_range.1 hx
    split at hr
    · cases hr
    · obtain ⟨h1, h2⟩ := ih _ _ hr
      refine ⟨by rw [h1, List.length_append, List.length_singleton]; omega, fun y hy => ?_⟩
      rcases h2 y hy with h | h
      · rcases List.mem_append.1 h with h | h
        · exact .inl h
        · have := List.mem_singleton.1 h
          exact .inr (by omega)
      · exact .inr h
theorem take_set {l : List Int} {q : Nat} (h : q < l.length) (x : Int) : (l.set q x).take (q + 1) = l.take q ++ [x] := by
  rw [List.take_add_one, List.getElem?_set_self h, List.take_set_of_le (Nat.le_refl _)]
  rfl
theorem isX_set {n k : Nat} {l : List Int} (h : isX n k l = true) (q x : Nat) (hx : x < k) : isX n k (l.set q (x : Int)) = true := by
  obtain ⟨h1, h2, h3, h4⟩ := isX_parts h
  unfold isX
  rw [decide_eq_true h1, decide_eq_true h2, decide_eq_true (by rw [List.length_set]; exact h3)]
  simp only [Bool.true_and]
  refine l1AllB_yes fun j y hj hy => ?_
  by_cases e : q = j
  · subst e
    rw [List.length_set] at hj
    rw [List.getElem?_set_self hj] at hy
    have := Option.some.inj hy
    omega
  · rw [List.getElem?_set_ne e] at hy
    have := isX_at h hy
    omega
theorem isX_zero {n k : Nat} (hn : n ≤ 8) (hk : 1 ≤ k ∧ k ≤ 3) : isX n k (List.replicate (allP n).length 0) = true := by
  have hc := (count_of (p := (n : Int)) (by omega)).1
  rw [Int.toNat_natCast] at hc
  unfold isX
  rw [decide_eq_true (by omega), decide_eq_true (by omega), decide_eq_true (by rw [List.length_replicate]; exact hc)]
  simp only [Bool.true_and]
  refine l1AllB_yes fun j y hj hy => ?_
  rw [List.length_replicate] at hj
  rw [List.getElem?_replicate, if_pos hj] at hy
  have := Option.some.inj hy
  omega
end Go.Proofs.Ythddlpghjkiioaa
/-
  WHETHER A NUMBER IS IN A LIST: the model's look; a list's front.
-/
namespace Go.Proofs.Ythddlpghjkiioaa
open Go.RowKit

theorem icells_getD {l : List Int} {j : Nat} (h : j < l.length) : (icells l)[j]? = some (.int .i64 (l.getD j 0)) := by
  simp [icells, List.getD_eq_getElem?_getD, List.getElem?_eq_getElem h]
theorem CRead.ints {w : World} {B : Nat} {A : Option Addr} {q : List Int} (h : CRead w B A (icells q)) (hq : 0 < q.length) : ∃ b off, A = some ⟨b, off, none⟩ ∧ b < B ∧ ∀ j, j < q.length → w.cell? ⟨b, off + j, none⟩ = some (.int .i64 (q.getD j 0)) := by
  obtain ⟨b, off, rfl, hb, _⟩ := h 0 _ (icells_getD hq)
  refine ⟨b, off, rfl, hb, fun j hj => ?_⟩
  obtain ⟨b', off', e, _, hc⟩ := h j _ (icells_getD hj)
  simp only [Option.some.injEq, Addr.mk.injEq, and_true] at e
  obtain ⟨rfl, rfl⟩ := e
  exact hc

theorem CRead.front {w : World} {B : Nat} {A : Option Addr} {q : List Int} (h : CRead w B A (icells q)) (k : Nat) : CRead w B A (icells (q.take k)) := fun j u hu => by
  refine h j u ?_
  unfold icells at hu ⊢
  rw [List.map_take, List.getElem?_take] at hu
  split at hu
  · exact hu
  · cases hu


/-- whether a number is in a list -/
def hasI (q : List Int) (x : Int) : Bool := q.contains x
theorem hasI_mem {q : List Int} {x : Int} : hasI q x = true ↔ x ∈ q := List.contains_iff_mem
set_option maxHeartbeats 1000000 in
theorem l1Has_any (q : List Int) (x : Int) (A : Option Addr) (c : Nat) (w : World) (hl : q.length ≤ 1048576) (hA : CRead w w.heap.size A (icells q)) :
    Calls Try.prog 64 #[.slice A q.length c, .int .i64 x] w fun e w' => e = .returned (.bool (hasI q x)) ∧ w = w' := by
  go_enter Try.func64, Try.ntmps64
  go_wp2
  go_loop [9] (fun i => ∃ k : Nat, k ≤ q.length ∧ i = .int .i64 k ∧ ∀ (j : Nat) (y : Int), j < k → q[j]? = some y → y ≠ x) (fun i => q.length - (intOf i).toNat)
  case atStart => exact ⟨0, Nat.zero_le _, rfl, fun j x hj => by omega⟩
  case round =>
    obtain ⟨k, hk, rfl, hg⟩ := hrel
    have Hg := Lib.hid hg
    clear hg
    by_cases hlt : k < q.length
    · obtain ⟨y, hy⟩ := getSome q k hlt
      obtain ⟨b, off, rfl, hbb, c0⟩ := hA.int hy
      have hki : (k : Int) < (q.length : Int) := by omega
      have Hy := Lib.hid hy
      clear hy
      by_cases hyx : y = x
      · subst hyx
        have He := Lib.hid (show hasI q y = true from hasI_mem.2 (List.mem_of_getElem? Hy.out))
        go_wp2
        go_ret
        exact ⟨by rw [He.out]; rfl, rfl⟩
      · go_wp2
        go_round
        case rel =>
          refine ⟨k + 1, by omega, by go_num, fun j z hj hz => ?_⟩
          by_cases hjk : j = k
          · subst hjk
            rw [Hy.out] at hz
            simp only [Option.some.injEq] at hz
            subst hz
            exact hyx
          · exact Hg.out j z (by omega) hz
        case measure => simp [intOf]; omega
    · have hkl : k = q.length := by omega
      have e : hasI q x = false := by
        rw [Bool.eq_false_iff]
        intro hc
        rw [hasI_mem] at hc
        obtain ⟨i, hi, e⟩ := List.getElem_of_mem hc
        exact Hg.out i _ (by omega) (List.getElem?_eq_getElem hi) e
      have He := Lib.hid e
      clear e
      have hge : ¬ ((k : Int) < (q.length : Int)) := by omega
      go_wp2
      go_ret
      exact ⟨by rw [He.out]; rfl, rfl⟩
end Go.Proofs.Ythddlpghjkiioaa
/-
  'spec.l1Own': a copy of a list of numbers, by its contract.
-/
namespace Go.Proofs.Ythddlpghjkiioaa
open Go.RowKit

set_option maxHeartbeats 1000000 in
set_option maxRecDepth 100000 in
theorem l1Own_any (q : List Int) (A : Option Addr) (c : Nat) (w : World) (hq : q.length ≤ 1048576) (h0 : 0 < q.length) (hA : CRead w w.heap.size A (icells q)) :
    Calls Try.prog 70 #[.slice A q.length c] w fun e w' => ∃ A' c', e = .returned (.slice A' q.length c') ∧ w'.ownsRow w.heap.size 3 1 (.slice A' q.length c') q.length (icells q) ∧ Below w.heap.size w w' := by
  obtain ⟨i0, hi, hz0, hz1, hz2⟩ := info_parts Try.infoInt
  obtain ⟨b, off, rfl, hb, hr⟩ := hA.ints h0
  go_enter Try.func70, Try.ntmps70
  have hc : ∀ j u, (icells q)[j]? = some u → (w.alloc (Obj.cells #[] 3)).cell? ((⟨b, off, none⟩ : Addr).add j) = some u := fun j u hu => by
    rw [Addr.add_lit]
    obtain ⟨b', off', e, _, hcell⟩ := hA j u hu
    simp only [Option.some.injEq, Addr.mk.injEq, and_true] at e
    obtain ⟨rfl, rfl⟩ := e
    exact (World.cell?_alloc_lt _ _ _ hb).trans hcell
  clear hr
  go_wp2_with (at_builtin; refine wpList_append_grows _ rfl _ _ 22 rfl 3 i0 _ 1 8 Try.underlying22 hi hz0 hz1 hz2 rfl (by decide) (some ⟨w.heap.size, 0, none⟩) 0 0 [] rfl (fun h => by cases h) rfl (fun b' hb' m u hu => by simp at hu) ⟨b, off, none⟩ q.length c (icells q) rfl (by simp [icells]) hc (icells_one q) (by omega) (by unfold maxLen; omega) (by omega) ?_; intro v1 w4 own4 gr4; simp only [Nat.zero_add, List.nil_append] at own4; obtain ⟨A4, d4, rfl, _⟩ := own_shape own4)
  go_ret
  exact ⟨A4, d4, rfl, own_lower own4 (by simp), below_of_gb (gb_trans (World.grownBy_alloc w _ none) gr4) (Nat.le_refl _)⟩
end Go.Proofs.Ythddlpghjkiioaa
/-
  LISTS OF NUMBERS UNDER ONE SLICE, each row in a block of the call's own; 'spec.l1Own' of any list; 'spec.trGroups' as a plain list.
-/
namespace Go.Proofs.Ythddlpghjkiioaa
open Go.RowKit

structure LRows (w : World) (B : Nat) (v : Value) (LL : List (List Int)) (hs : List Value) : Prop where
  own : w.ownsRow B 22 1 v LL.length hs
  row : ∀ (i : Nat) (l : List Int), LL[i]? = some l → ∃ A c, hs[i]? = some (Value.slice A l.length c) ∧ w.ownsRow B 3 1 (Value.slice A l.length c) l.length (icells l)
  nil : LL = [] → v = Value.slice none 0 0
section
variable {w w' : World} {B B' : Nat} {v v' v2 : Value} {LL L2 : List (List Int)} {hs hs2 : List Value}
theorem LRows.none (w : World) (B : Nat) : LRows w B (Value.slice Option.none 0 0) [] [] := ⟨World.ownsRow_nil _ _ _ _, fun i l h => by simp at h, fun _ => rfl⟩
theorem LRows.below (h : LRows w B v LL hs) (hb : Below w.heap.size w w') : LRows w' B v LL hs :=
  ⟨own_below h.own hb (Nat.le_refl _), fun i l hi => by obtain ⟨A, c, e, o⟩ := h.row i l hi; exact ⟨A, c, e, own_below o hb (Nat.le_refl _)⟩, h.nil⟩
theorem LRows.lower (h : LRows w B v LL hs) (hB : B' ≤ B) : LRows w B' v LL hs :=
  ⟨own_lower h.own hB, fun i l hi => by obtain ⟨A, c, e, o⟩ := h.row i l hi; exact ⟨A, c, e, own_lower o hB⟩, h.nil⟩
theorem LRows.length (h : LRows w B v LL hs) : hs.length = LL.length := by have := h.own.1; omega
theorem LRows.one (h : LRows w B v LL hs) : ∀ u ∈ hs, u.oneCell' = true := by
  intro u hu
  obtain ⟨i, hi, rfl⟩ := List.getElem_of_mem hu
  have hl := h.length
  obtain ⟨A, c, e, _⟩ := h.row i LL[i] (List.getElem?_eq_getElem (by omega))
  rw [List.getElem?_eq_getElem hi] at e
  simp only [Option.some.injEq] at e
  rw [e]
  rfl
theorem blocks_apart {e e' : TypeId} {size size' n m : Nat} {xs ys : List Value} (h : w.ownsRow B e size v n xs) (h' : w.ownsRow B' e' size' v' m ys) (hne : e ≠ e') : v'.ownBlock = .none ∨ v'.ownBlock ≠ v.ownBlock := by
  rcases h'.2 with ⟨rfl, _⟩ | ⟨g, cap, cur, rfl, _, hg, _⟩
  · exact .inl rfl
  · refine .inr fun e => ?_
    rcases h.2 with ⟨rfl, _⟩ | ⟨g2, cap2, cur2, rfl, _, hg2, _⟩
    · simp [Value.ownBlock] at e
    · have : g = g2 := by simpa [Value.ownBlock] using e
      subst this
      rw [hg] at hg2
      simp only [Option.some.injEq, Obj.cells.injEq] at hg2
      exact hne hg2.2.1.symm
/-- rows appended to rows -/
theorem LRows.append (h : LRows w B v LL hs) (h2 : LRows w B v2 L2 hs2) (hown : w'.ownsRow B 22 1 v' (LL.length + L2.length) (hs ++ hs2)) (hg : w.grownBy w' v.ownBlock) (hn : L2 ≠ []) : LRows w' B v' (LL ++ L2) (hs ++ hs2) := by
  have keep : ∀ A c l, w.ownsRow B 3 1 (.slice A l.length c) l.length (icells l) → w'.ownsRow B 3 1 (.slice A l.length c) l.length (icells l) := fun A c l o => o.kept hg (blocks_apart h.own o (show (22 : TypeId) ≠ 3 by decide))
  refine ⟨by rw [List.length_append]; exact hown, fun i l hi => ?_, fun e => ?_⟩
  · have hl := h.length
    by_cases hlt : i < LL.length
    · rw [List.getElem?_append_left hlt] at hi
      obtain ⟨A, c, e, o⟩ := h.row i l hi
      exact ⟨A, c, by rw [List.getElem?_append_left (by omega)]; exact e, keep A c l o⟩
    · rw [List.getElem?_append_right (by omega)] at hi
      obtain ⟨A, c, e, o⟩ := h2.row _ l hi
      exact ⟨A, c, by rw [List.getElem?_append_right (by omega), hl]; exact e, keep A c l o⟩
  · simp at e
    exact absurd e.2 hn
end
/-- A call came back with lists of numbers. -/
def GotLL (w : World) (LL : List (List Int)) (e : Ending) (w' : World) : Prop := ∃ A c hs, e = .returned (.slice A LL.length c) ∧ LRows w' w.heap.size (.slice A LL.length c) LL hs ∧ Below w.heap.size w w'

set_option maxHeartbeats 1000000 in
set_option maxRecDepth 100000 in
theorem l1Own_all (q : List Int) (A : Option Addr) (c : Nat) (w : World) (hq : q.length ≤ 1048576) (hA : CRead w w.heap.size A (icells q)) (h0 : q = [] → A = none ∧ c = 0) :
    Calls Try.prog 70 #[.slice A q.length c] w fun e w' => ∃ A' c', e = .returned (.slice A' q.length c') ∧ w'.ownsRow w.heap.size 3 1 (.slice A' q.length c') q.length (icells q) ∧ Below w.heap.size w w' := by
  by_cases hz : q = []
  · obtain ⟨rfl, rfl⟩ := h0 hz
    subst hz
    obtain ⟨i0, hi, hz0, hz1, hz2⟩ := info_parts Try.infoInt
    have h1 : (w.alloc (.cells #[] 3)).ownsRow w.heap.size 3 1 (.slice (some ⟨w.heap.size, 0, none⟩) 0 0) 0 [] := World.ownsRow_made w #[] 0 (Nat.le_refl _) (Nat.zero_le _) rfl
    go_enter Try.func70, Try.ntmps70
    go_wp2_with (at_builtin; refine wpList_append_own_none rfl _ _ 22 rfl w.heap.size 3 i0 1 Try.underlying22 hi (.slice (some ⟨w.heap.size, 0, none⟩) 0 0) 0 [] rfl h1 rfl ?_)
    go_ret
    exact ⟨_, _, rfl, h1, by go_grown⟩
  · have hpos : 0 < q.length := by cases q with | nil => exact absurd rfl hz | cons x q => simp
    exact l1Own_any q A c w hq hpos hA

/-! ## The model's candidates -/
def fromQ (q : List Int) : Nat := match q.getLast? with | none => 0 | some x => x.toNat + 1
def candR (t : Nat → Nat → Bool) (n : Nat) (q : List Int) (a : Nat) : List Nat := (List.range' a (n - a)).filter fun b => q.all fun y => t b y.toNat
theorem candR_end (t : Nat → Nat → Bool) (n : Nat) (q : List Int) {a : Nat} (h : n ≤ a) : candR t n q a = [] := by unfold candR; rw [Nat.sub_eq_zero_of_le h]; rfl
theorem candR_no {t : Nat → Nat → Bool} {n : Nat} {q : List Int} {a : Nat} (h : a < n) (hk : (q.all fun y => t a y.toNat) = false) : candR t n q a = candR t n q (a + 1) := by
  unfold candR
  rw [show n - a = (n - (a + 1)) + 1 from by omega, List.range'_succ, List.filter_cons_of_neg (by simp [hk])]
theorem candR_yes {t : Nat → Nat → Bool} {n : Nat} {q : List Int} {a : Nat} (h : a < n) (hk : (q.all fun y => t a y.toNat) = true) : candR t n q a = a :: candR t n q (a + 1) := by
  unfold candR
  rw [show n - a = (n - (a + 1)) + 1 from by omega, List.range'_succ, List.filter_cons_of_pos (by simpa using hk)]
theorem candR_tied {t : Nat → Nat → Bool} (hs : ∀ i j, t i j = t j i) (n : Nat) (q : List Int) (a : Nat) : (candR t n q (a + 1)).filter (t a) = candR t n (q ++ [(a : Int)]) (fromQ (q ++ [(a : Int)])) := by
  unfold candR fromQ
  simp only [List.getLast?_append, List.getLast?_singleton, Option.some_or, Int.toNat_natCast]
  rw [List.filter_filter]
  refine List.filter_congr fun b _ => ?_
  rw [List.all_append]
  simp [hs a b, Bool.and_comm]
end Go.Proofs.Ythddlpghjkiioaa
/-
  A COPY OF A LIST of any length, and what an own row's slice looks like.
-/
namespace Go.Proofs.Ythddlpghjkiioaa
open Go.RowKit

theorem own_none {w : World} {B : Nat} {e : TypeId} {m c : Nat} {A : Option Addr} {xs : List Value} (h : w.ownsRow B e 1 (.slice A m c) m xs) : (A = none ∧ m = 0 ∧ c = 0) ∨ ∃ g, A = some ⟨g, 0, none⟩ := by
  rcases h.2 with ⟨h1, h2⟩ | ⟨g, cap, cur, hv, _⟩
  · simp only [Value.slice.injEq] at h1
    exact .inl ⟨h1.1, h2, h1.2.2⟩
  · simp only [Value.slice.injEq] at hv
    exact .inr ⟨g, hv.1⟩

theorem own_zero {w : World} {B : Nat} {e : TypeId} {m c : Nat} {A : Option Addr} {xs : List Value} (h : w.ownsRow B e 1 (.slice A m c) m xs) : A = none → c = 0 := by
  intro hA
  rcases own_none h with ⟨_, _, h3⟩ | ⟨g, h1⟩
  · exact h3
  · rw [hA] at h1; cases h1
set_option maxHeartbeats 4000000 in
set_option maxRecDepth 100000 in
theorem l1Own_row (q : List Int) (A : Option Addr) (c : Nat) (w : World) (hq : q.length ≤ 1048576) (hA : CRead w w.heap.size A (icells q)) (h0 : A = none → c = 0) :
    Calls Try.prog 70 #[.slice A q.length c] w fun e w' => ∃ A' c', e = .returned (.slice A' q.length c') ∧ w'.ownsRow w.heap.size 3 1 (.slice A' q.length c') q.length (icells q) ∧ Below w.heap.size w w' := by
  by_cases hz : q = []
  · cases A with
    | none => exact l1Own_all q none c w hq hA fun _ => ⟨rfl, h0 rfl⟩
    | some ad =>
      subst hz
      obtain ⟨i0, hi, hz0, hz1, hz2⟩ := info_parts Try.infoInt
      have h1 : (w.alloc (.cells #[] 3)).ownsRow w.heap.size 3 1 (.slice (some ⟨w.heap.size, 0, none⟩) 0 0) 0 [] := World.ownsRow_made w #[] 0 (Nat.le_refl _) (Nat.zero_le _) rfl
      go_enter Try.func70, Try.ntmps70
      go_wp2_with (at_builtin; refine wpList_append_own _ rfl _ _ 22 rfl w.heap.size 3 i0 _ 1 8 Try.underlying22 hi hz0 hz1 hz2 rfl (by decide) (.slice (some ⟨w.heap.size, 0, none⟩) 0 0) 0 [] rfl h1 ad 0 c [] rfl rfl (fun j u hj => by simp at hj) (by simp) (by unfold maxLen; omega) (by omega) (by simp) ?_; intro v1 w1 own1 gr1 _; have k1 : Below w.heap.size w w1 := ((Below.refl _ w).alloc (Nat.le_refl _) _).grown gr1 (by simp) (by intro m hm; simp [Value.ownBlock] at hm; omega); obtain ⟨A1, c1, rfl, _⟩ := own_shape own1)
      go_ret
      exact ⟨A1, c1, rfl, own1, k1⟩
  · exact l1Own_all q A c w hq hA fun e => absurd e hz
end Go.Proofs.Ythddlpghjkiioaa
/-
  PAINTINGS, THE MODEL's own small functions: two people, the place of a pair, its colour, a copy; by their contracts.
-/
namespace Go.Proofs.Ythddlpghjkiioaa
open Go.RowKit

/-- a painting and two different people of it -/
def twoX (p k : Int) (l : List Int) (a b : Int) : Bool := isX p k l && (decide (0 ≤ a ∧ a ≤ p - 1) && (decide (0 ≤ b ∧ b ≤ p - 1) && decide (a ≠ b)))
theorem twoX_parts {p k a b : Int} {l : List Int} (h : twoX p k l a b = true) : isX p k l = true ∧ (0 ≤ a ∧ a ≤ p - 1) ∧ (0 ≤ b ∧ b ≤ p - 1) ∧ a ≠ b := by
  simp only [twoX, Bool.and_eq_true, decide_eq_true_eq] at h
  exact ⟨h.1, h.2.1, h.2.2.1, h.2.2.2⟩
/-- the place, in the model's own words -/
theorem ptAt_num : ∀ n : Fin 9, ∀ a : Fin 8, ∀ b : Fin 8, a.val < b.val → b.val < n.val →
    ((a.val : Int) * (2 * (n.val : Int) - a.val - 1)).tdiv 2 + b.val - a.val - 1 = (atP n.val a.val b.val : Int) ∧ (0 ≤ (a.val : Int) * (2 * (n.val : Int) - a.val - 1) ∧ (a.val : Int) * (2 * (n.val : Int) - a.val - 1) ≤ 1000) ∧ (0 ≤ ((a.val : Int) * (2 * (n.val : Int) - a.val - 1)).tdiv 2 ∧ ((a.val : Int) * (2 * (n.val : Int) - a.val - 1)).tdiv 2 ≤ 1000) := by decide +kernel
set_option maxHeartbeats 2000000 in
set_option maxRecDepth 100000 in
theorem ptAt_any (n a b : Nat) (hn : n ≤ 8) (ha : a < n) (hb : b < n) (hab : a ≠ b) (w : World) :
    Calls Try.prog 99 #[.int .i64 n, .int .i64 a, .int .i64 b] w fun e w' => e = .returned (.int .i64 (atP n (min a b) (max a b))) ∧ w = w' := by
  rcases Nat.lt_or_gt_of_ne hab with h | h
  · rw [Nat.min_eq_left (by omega), Nat.max_eq_right (by omega)]
    obtain ⟨e, ⟨q0, q1⟩, r0, r1⟩ := ptAt_num ⟨n, by omega⟩ ⟨a, by omega⟩ ⟨b, by omega⟩ h hb
    simp only at e q0 q1 r0 r1
    have w1 : IntKind.i64.wrap ((a : Int) * (2 * (n : Int) - a - 1)) = (a : Int) * (2 * (n : Int) - a - 1) := wrap_small (by omega)
    have w2 : IntKind.i64.wrap (((a : Int) * (2 * (n : Int) - a - 1)).tdiv 2) = ((a : Int) * (2 * (n : Int) - a - 1)).tdiv 2 := wrap_small (by omega)
    have hgt : ¬ ((b : Int) < (a : Int)) := by omega
    rw [← e]
    clear e
    go_enter Try.func99, Try.ntmps99
    go_wp2
    go_ret
    exact ⟨rfl, rfl⟩
  · rw [Nat.min_eq_right (by omega), Nat.max_eq_left (by omega)]
    obtain ⟨e, ⟨q0, q1⟩, r0, r1⟩ := ptAt_num ⟨n, by omega⟩ ⟨b, by omega⟩ ⟨a, by omega⟩ h ha
    simp only at e q0 q1 r0 r1
    have w1 : IntKind.i64.wrap ((b : Int) * (2 * (n : Int) - b - 1)) = (b : Int) * (2 * (n : Int) - b - 1) := wrap_small (by omega)
    have w2 : IntKind.i64.wrap (((b : Int) * (2 * (n : Int) - b - 1)).tdiv 2) = ((b : Int) * (2 * (n : Int) - b - 1)).tdiv 2 := wrap_small (by omega)
    have hgt : (b : Int) < (a : Int) := by omega
    rw [← e]
    clear e
    go_enter Try.func99, Try.ntmps99
    go_wp2
    go_ret
    exact ⟨rfl, rfl⟩
set_option maxHeartbeats 2000000 in
set_option maxRecDepth 100000 in
theorem ptOf_any (n : Nat) (k : Int) (l : List Int) (A : Option Addr) (c : Nat) (a b : Nat) (w : World) (hx : isX n k l = true) (ha : a < n) (hb : b < n) (hab : a ≠ b) (hA : CRead w w.heap.size A (icells l)) :
    Calls Try.prog 105 #[.agg #[.int .i64 n, .int .i64 k, .slice A l.length c], .int .i64 a, .int .i64 b] w fun e w' => e = .returned (.int .i64 (colX n l a b)) ∧ Below w.heap.size w w' := by
  have hn := (isX_parts hx).1
  have hi : atP n (min a b) (max a b) < l.length := by
    rw [isX_len hx, Int.toNat_natCast]
    exact atP_lt (by omega) (by omega) (by omega)
  obtain ⟨i, hi2⟩ : ∃ i, atP n (min a b) (max a b) = i := ⟨_, rfl⟩
  rw [hi2] at hi
  obtain ⟨x, hx2⟩ := getSome l i hi
  have e : colX n l a b = x := by unfold colX; rw [hi2, List.getD_eq_getElem?_getD, hx2]; rfl
  rw [e]
  have call := fun X : World => ptAt_any n a b (by omega) ha hb hab X
  simp only [hi2] at call
  obtain ⟨bb, off, rfl, hbb, c0⟩ := (hA.below (B' := w.heap.size) (w' := w.alloc (Obj.cells #[.int .i64 n, .int .i64 k, .slice A l.length c] 52)) (by go_grown) (Nat.le_refl _)).int hx2
  have hii : (i : Int) < (l.length : Int) := by omega
  have Call := Lib.hid call
  clear call e hx2 hi2 hx hn
  obtain ⟨X, hX⟩ : ∃ X, w.alloc (Obj.cells #[.int .i64 n, .int .i64 k, .slice (some ⟨bb, off, none⟩) l.length c] 52) = X := ⟨_, rfl⟩
  have x0 : X.cell? ⟨w.heap.size, 0, none⟩ = some (.int .i64 n) := by rw [← hX]; simp
  have x2 : X.cell? ⟨w.heap.size, 2, none⟩ = some (.slice (some ⟨bb, off, none⟩) l.length c) := by rw [← hX]; simp
  have kX : Below w.heap.size w X := by rw [← hX]; go_grown
  rw [hX] at c0
  have HX := Lib.hid hX
  have KX := Lib.hid kX
  clear hX kX
  go_enter Try.func105, Try.ntmps105
  go_wp2_with fail
  rw [HX.out]
  go_quiet (first | (go_at_call 99; refine Calls.quiet_of_same ((Call.out _).mono fun _ _ ⟨he, hw⟩ => ⟨he, hw.symm⟩)))
  go_wp2
  go_ret
  exact ⟨rfl, ⟨KX.out.os, KX.out.tape, KX.out.output, KX.out.size, KX.out.block⟩⟩
set_option maxHeartbeats 2000000 in
set_option maxRecDepth 100000 in
theorem ptOwn_any (p k : Int) (l : List Int) (A : Option Addr) (c : Nat) (w : World) (hl : l.length ≤ 1048576) (hA : CRead w w.heap.size A (icells l)) (h0 : A = none → c = 0) :
    Calls Try.prog 98 #[.agg #[.int .i64 p, .int .i64 k, .slice A l.length c]] w (GotPaint w p k l) := by
  go_enter Try.func98, Try.ntmps98
  go_wp2
  obtain ⟨W, hW⟩ : ∃ W, (w.alloc (Obj.cells #[.int .i64 p, .int .i64 k, .slice A l.length c] 52)).alloc (Obj.cells #[.int .i64 0, .int .i64 0, .slice none 0 0] 52) = W := ⟨_, rfl⟩
  have a0 : W.cell? ⟨w.heap.size, 0, none⟩ = some (.int .i64 p) := by rw [← hW]; simp
  have a1 : W.cell? ⟨w.heap.size, 1, none⟩ = some (.int .i64 k) := by rw [← hW]; simp
  have a2 : W.cell? ⟨w.heap.size, 2, none⟩ = some (.slice A l.length c) := by rw [← hW]; simp
  have x0 : W.cell? ⟨w.heap.size + 1, 0, none⟩ = some (.int .i64 0) := by rw [← hW]; simp
  have x1 : W.cell? ⟨w.heap.size + 1, 1, none⟩ = some (.int .i64 0) := by rw [← hW]; simp
  have x2 : W.cell? ⟨w.heap.size + 1, 2, none⟩ = some (.slice none 0 0) := by rw [← hW]; simp
  have z0 : W.frozen? ⟨w.heap.size + 1, 0, none⟩ = false := by rw [← hW]; simp
  have z1 : W.frozen? ⟨w.heap.size + 1, 1, none⟩ = false := by rw [← hW]; simp
  have z2 : W.frozen? ⟨w.heap.size + 1, 2, none⟩ = false := by rw [← hW]; simp
  have kW : Below w.heap.size w W := by rw [← hW]; go_grown
  have sW : w.heap.size + 1 < W.heap.size := by rw [← hW]; simp
  rw [hW]
  clear hW
  go_region_held3 (fun w' => w'.cell? ⟨w.heap.size, 0, none⟩ = some (.int .i64 p) ∧ w'.cell? ⟨w.heap.size, 1, none⟩ = some (.int .i64 k) ∧ w'.cell? ⟨w.heap.size, 2, none⟩ = some (.slice A l.length c)) (first | exact ⟨a0, a1, a2⟩ | exact ⟨b0, b1, b2⟩ | exact ⟨(World.cell?_setCell_other _ _ _ _ (by simp)).trans ((World.cell?_setCell_other _ _ _ _ (by simp)).trans ((World.cell?_setCell_other _ _ _ _ (by simp)).trans b0)), (World.cell?_setCell_other _ _ _ _ (by simp)).trans ((World.cell?_setCell_other _ _ _ _ (by simp)).trans ((World.cell?_setCell_other _ _ _ _ (by simp)).trans b1)), (World.cell?_setCell_other _ _ _ _ (by simp)).trans ((World.cell?_setCell_other _ _ _ _ (by simp)).trans ((World.cell?_setCell_other _ _ _ _ (by simp)).trans b2))⟩) ((first
    | (go_at_call 70; refine (l1Own_row l A c _ hl ((hA.below kW.drew (Nat.le_refl _)).more kW.size) h0).mono ?_; rintro e w1 ⟨A1, c1, rfl, own1, hb1⟩; have g1 : Below W.heap.size W w1 := (Below.refl _ _).drew.trans hb1; have b0 := carry g1 a0 (by omega); have b1 := carry g1 a1 (by omega); have b2 := carry g1 a2 (by omega); have y0 := carry g1 x0 (by omega); have y1 := carry g1 x1 (by omega); have y2 := carry g1 x2 (by omega); have v0 := (g1.frozen (p := ⟨w.heap.size + 1, 0, none⟩) sW).trans z0; have v1 := (g1.frozen (p := ⟨w.heap.size + 1, 1, none⟩) sW).trans z1; have v2 := (g1.frozen (p := ⟨w.heap.size + 1, 2, none⟩) sW).trans z2; have s1 := g1.size)
    | skip))
  go_wp2
  refine bodyPost_ret (v := .agg #[.int .i64 p, .int .i64 k, .slice A1 l.length c1]) (by simp [results, Try.results98, go_sem, y0, y1, y2]) rfl ?_
  exact ⟨A1, c1, rfl, own_lower (ownsRow_setCell_below (ownsRow_setCell_below (ownsRow_setCell_below own1 (a := ⟨w.heap.size + 1, 0, none⟩) sW _) (a := ⟨w.heap.size + 1, 1, none⟩) sW _) (a := ⟨w.heap.size + 1, 2, none⟩) sW _) (show w.heap.size ≤ W.heap.size by omega),
    (((kW.trans (g1.mono kW.size)).setCell (p := ⟨w.heap.size + 1, 0, none⟩) (by simp) _).setCell (p := ⟨w.heap.size + 1, 1, none⟩) (by simp) _).setCell (p := ⟨w.heap.size + 1, 2, none⟩) (by simp) _⟩
theorem colIn_any (k x : Int) (w : World) : Calls Try.prog 57 #[.int .i64 x, .int .i64 0, .int .i64 (k - 1)] w fun e w' => e = .returned (.bool (isColB k x)) ∧ Below w.heap.size w w' :=
  (l1In_any x 0 (k - 1) w).mono fun _ _ h => by
    have e : l1InB x 0 (k - 1) = isColB k x := by
      unfold l1InB isColB
      by_cases h0 : 0 ≤ x <;> by_cases h1 : x < k <;> simp [h0, h1] <;> omega
    rw [e] at h
    exact ⟨h.1, h.2 ▸ Below.refl _ _⟩
end Go.Proofs.Ythddlpghjkiioaa
/-
  BOXES that a recursion is handed: their cells, and rows apart from them.
-/
namespace Go.Proofs.Ythddlpghjkiioaa
open Go.RowKit

theorem own_none2 {w : World} {B : Nat} {e : TypeId} {size m c : Nat} {A : Option Addr} {xs : List Value} (h : w.ownsRow B e size (.slice A m c) m xs) : (A = none ∧ m = 0 ∧ c = 0) ∨ ∃ g, A = some ⟨g, 0, none⟩ := by
  rcases h.2 with ⟨h1, h2⟩ | ⟨g, cap, cur, hv, _⟩
  · simp only [Value.slice.injEq] at h1
    exact .inl ⟨h1.1, h2, h1.2.2⟩
  · simp only [Value.slice.injEq] at hv
    exact .inr ⟨g, hv.1⟩
theorem own_ap {S : Nat → Prop} {w w' : World} {B : Nat} {e : TypeId} {size n : Nat} {v : Value} {xs : List Value} (h : w.ownsRow B e size v n xs) (ha : Apart S w w') (hS : ∀ j, S j → j < B) : w'.ownsRow B e size v n xs := by
  refine ⟨h.1, ?_⟩
  rcases h.2 with h1 | ⟨g, cap, cur, hv, hb, hg, rest⟩
  · exact .inl h1
  · exact .inr ⟨g, cap, cur, hv, hb, (ha.same g (Array.getElem?_eq_some_iff.1 hg).1 (fun hs => by have := hS g hs; omega)).trans hg, rest⟩
theorem Apart.setCell {S : Nat → Prop} {A : World} {p : Addr} (hp : S p.block) (v : Value) : Apart S A (A.setCell p v) :=
  ⟨(Below.refl 0 A).setCell (Nat.zero_le _) v, fun j _ hn => Below.heap_setCell A p v j fun e => hn (e ▸ hp)⟩
theorem box_set {w : World} {b : Nat} {v u : Value} {t : TypeId} (h : w.heap[b]? = some (Obj.cells #[v] t)) : (w.setCell ⟨b, 0, none⟩ u).heap[b]? = some (Obj.cells #[u] t) := by
  simp [World.setCell, Array.getElem?_modify, h]
theorem cell_in {w : World} {b : Nat} {v : Value} {t : TypeId} (h : w.heap[b]? = some (Obj.cells #[v] t)) : w.cell? ⟨b, 0, none⟩ = some v := by rw [cell_of_row _ _ _ _ _ _ h]; rfl
theorem two_cellsB {w : World} {g : Nat} {u v : Value} (h : w.cell? ⟨g, 0, none⟩ = some u) (h' : w.cell? ⟨g, 1, none⟩ = some v) : ∀ j x, [u, v][j]? = some x → w.cell? ((⟨g, 0, none⟩ : Addr).add j) = some x := by
  intro j x hx
  match j, hx with
  | 0, hx => simp at hx; subst hx; simpa [Addr.add] using h
  | 1, hx => simp at hx; subst hx; simpa [Addr.add] using h'
theorem two_oneB {u v : Value} (h : u.oneCell' = true) (h' : v.oneCell' = true) : ∀ x ∈ [u, v], x.oneCell' = true := by
  intro x hx
  simp at hx
  rcases hx with rfl | rfl
  · exact h
  · exact h'
theorem own_cell {w : World} {B g n c : Nat} {l : List Int} {j : Nat} {x : Int} (h : w.ownsRow B 3 1 (.slice (some ⟨g, 0, none⟩) n c) n (icells l)) (hj : l[j]? = some x) : w.cell? ⟨g, j, none⟩ = some (.int .i64 x) := by
  obtain ⟨b, off, e, _, hc⟩ := (CRead.of_own h).int hj
  simp only [Option.some.injEq, Addr.mk.injEq, and_true] at e
  obtain ⟨rfl, rfl⟩ := e
  rwa [Nat.zero_add] at hc
theorem own_set {w : World} {B g n c : Nat} {l : List Int} (h : w.ownsRow B 3 1 (.slice (some ⟨g, 0, none⟩) n c) n (icells l)) (j : Nat) (x : Int) : (w.setCell ⟨g, j, none⟩ (.int .i64 x)).ownsRow B 3 1 (.slice (some ⟨g, 0, none⟩) n c) n (icells (l.set j x)) := by
  have h1 := (h.stored j (.int .i64 x)).1
  rwa [show (icells l).set j (.int .i64 x) = icells (l.set j x) by simp [icells, List.map_set]] at h1
end Go.Proofs.Ythddlpghjkiioaa
/-
  PAINTINGS WITHOUT A TRIPLE OF ONE COLOUR: the model's recursion, by its contracts.
-/
namespace Go.Proofs.Ythddlpghjkiioaa
open Go.RowKit

set_option maxHeartbeats 4000000 in
set_option maxRecDepth 100000 in
theorem ptFree_any (n : Nat) (k : Int) (l : List Int) (A : Option Addr) (c : Nat) (a b : Nat) (w : World) (hx : isX n k l = true) (hab : a < b) (hb : b < n) (hA : CRead w w.heap.size A (icells l)) :
    Calls Try.prog 100 #[.agg #[.int .i64 n, .int .i64 k, .slice A l.length c], .int .i64 a, .int .i64 b] w fun e w' => e = .returned (.bool (!closesX n l a b)) ∧ Below w.heap.size w w' := by
  have hn8 : n ≤ 8 := by have := (isX_parts hx).1; omega
  obtain ⟨cl, hcl⟩ : ∃ cl : Nat → Bool, (fun j => (List.range j).any fun c => decide (colX n l c a = colX n l a b) && decide (colX n l c b = colX n l a b)) = cl := ⟨_, rfl⟩
  have hend : closesX n l a b = cl a := by rw [← hcl]; rfl
  have h0 : cl 0 = false := by rw [← hcl]; rfl
  have hs : ∀ j, cl (j + 1) = (cl j || (decide (colX n l j a = colX n l a b) && decide (colX n l j b = colX n l a b))) := fun j => by rw [← hcl]; simp [List.range_succ, List.any_append]
  have hmono : ∀ j, j ≤ a → cl j = true → cl a = true := fun j hj h => by
    rw [← hcl] at h ⊢
    rw [List.any_eq_true] at h ⊢
    obtain ⟨x, hx, hy⟩ := h
    exact ⟨x, List.mem_range.2 (by have := List.mem_range.1 hx; omega), hy⟩
  obtain ⟨W, hW⟩ : ∃ W, w.alloc (Obj.cells #[.int .i64 n, .int .i64 k, .slice A l.length c] 52) = W := ⟨_, rfl⟩
  have kW : Below w.heap.size w W := by rw [← hW]; go_grown
  have bk : W.heap[w.heap.size]? = some (Obj.cells #[.int .i64 n, .int .i64 k, .slice A l.length c] 52) := by rw [← hW]; exact World.alloc_heap_new w _
  have sW : W.heap.size = w.heap.size + 1 := by rw [← hW]; simp
  have call := fun (i j : Nat) (X : World) (hX : Below w.heap.size w X) (hi : i < n) (hj : j < n) (hij : i ≠ j) => ptOf_any n k l A c i j X hx hi hj hij ((hA.below hX (Nat.le_refl _)).more hX.size)
  obtain ⟨C, hC⟩ : ∃ C : Nat → Nat → Int, colX n l = C := ⟨_, rfl⟩
  simp only [hC] at hs call
  have Call := Lib.hid call
  have Hs := Lib.hid hs
  have Hmono := Lib.hid hmono
  have HW := Lib.hid hW
  have Bk := Lib.hid bk
  have KW := Lib.hid kW
  rw [hend]
  clear call hs hmono hcl hend hC hW bk kW hx hA
  go_enter Try.func100, Try.ntmps100
  go_wp2_with fail
  rw [HW.out]
  go_loopw [7] (fun i wr => ∃ j : Nat, j ≤ a ∧ i = .int .i64 j ∧ cl j = false ∧ Below W.heap.size W wr) (fun i _ => a - (intOf i).toNat)
  case atStart => exact ⟨0, Nat.zero_le _, rfl, h0, Below.refl _ _⟩
  case round =>
    obtain ⟨j, hj, rfl, hcj, hb1⟩ := hrel
    have hsz := hb1.size
    by_cases hlt : j < a
    · have hji : (j : Int) < (a : Int) := by omega
      have kr := KW.out.trans (hb1.mono (by omega))
      have hbk := (hb1.block _ (show w.heap.size < W.heap.size by omega)).trans Bk.out
      have x0 : wr.cell? ⟨w.heap.size, 0, none⟩ = some (.int .i64 n) := by rw [cell_of_row _ _ _ _ _ _ hbk]; rfl
      have x1 : wr.cell? ⟨w.heap.size, 1, none⟩ = some (.int .i64 k) := by rw [cell_of_row _ _ _ _ _ _ hbk]; rfl
      have x2 : wr.cell? ⟨w.heap.size, 2, none⟩ = some (.slice A l.length c) := by rw [cell_of_row _ _ _ _ _ _ hbk]; rfl
      have hxl : w.heap.size < wr.heap.size := by omega
      have e0 : ∀ z : Ext wr.heap.size wr, z.val.cell? ⟨w.heap.size, 0, none⟩ = some (.int .i64 n) := fun z => z.cell x0 hxl
      have e1 : ∀ z : Ext wr.heap.size wr, z.val.cell? ⟨w.heap.size, 1, none⟩ = some (.int .i64 k) := fun z => z.cell x1 hxl
      have e2 : ∀ z : Ext wr.heap.size wr, z.val.cell? ⟨w.heap.size, 2, none⟩ = some (.slice A l.length c) := fun z => z.cell x2 hxl
      have callE := fun (i j' : Nat) (hi : i < n) (hj : j' < n) (hij : i ≠ j') (z : Ext wr.heap.size wr) => Call.out i j' z.val (kr.trans (z.below.mono (by omega))) hi hj hij
      have hst := Hs.out j
      rw [hcj, Bool.false_or] at hst
      have CE := Lib.hid callE
      have Hst := Lib.hid hst
      have Hb1 := Lib.hid hb1
      clear callE hst hb1 hbk kr
      by_cases hq1 : C j a = C a b
      · have hbq1 : (C j a == C a b) = true := beq_iff_eq.2 hq1
        by_cases hq2 : C j b = C a b
        · have hbq2 : (C j b == C a b) = true := beq_iff_eq.2 hq2
          have hcT : cl (j + 1) = true := by rw [Hst.out, decide_eq_true hq1, decide_eq_true hq2]; rfl
          have HcT := Lib.hid (Hmono.out (j + 1) (by omega) hcT)
          clear hcT hq1 hq2
          go_wp2_with fail
          refine wp_region_ext wr.heap.size (by kernel_rfl) (by kernel_rfl) ?_
          repeat (go_big_quiet_step ((go_at_call 105; exact Calls.ext_of ((CE.out _ _ (by omega) (by omega) (by omega) _).mono fun _ _ h => ⟨h.1, h.2.mono (Ext.size _)⟩))))
          refine wpQuiet_nil ?_
          rintro w1 ⟨⟨_, hbz⟩, rfl⟩
          clear e0 e1 e2
          have KZ := Lib.hid (KW.out.trans ((Hb1.out.trans (hbz.mono hsz)).mono (by omega)))
          clear hbz
          go_wp2
          go_ret
          exact ⟨by rw [HcT.out]; rfl, KZ.out⟩
        · have hbq2 : (C j b == C a b) = false := by simpa using hq2
          have hcF : cl (j + 1) = false := by rw [Hst.out, decide_eq_false hq2, Bool.and_false]
          clear hq1 hq2
          have HcF := Lib.hid hcF
          clear hcF
          go_wp2_with fail
          refine wp_region_ext wr.heap.size (by kernel_rfl) (by kernel_rfl) ?_
          repeat (go_big_quiet_step ((go_at_call 105; exact Calls.ext_of ((CE.out _ _ (by omega) (by omega) (by omega) _).mono fun _ _ h => ⟨h.1, h.2.mono (Ext.size _)⟩))))
          refine wpQuiet_nil ?_
          rintro w1 ⟨⟨_, hbz⟩, rfl⟩
          clear e0 e1 e2
          have KZ := Lib.hid (Hb1.out.trans (hbz.mono hsz))
          clear hbz
          go_wp2
          go_roundw
          case rel => exact ⟨j + 1, by omega, by go_num, HcF.out, KZ.out⟩
          case measure => simp [intOf]; omega
      · have hbq1 : (C j a == C a b) = false := by simpa using hq1
        have hcF : cl (j + 1) = false := by rw [Hst.out, decide_eq_false hq1, Bool.false_and]
        clear hq1
        have HcF := Lib.hid hcF
        clear hcF
        go_wp2_with fail
        refine wp_region_ext wr.heap.size (by kernel_rfl) (by kernel_rfl) ?_
        repeat (go_big_quiet_step ((go_at_call 105; exact Calls.ext_of ((CE.out _ _ (by omega) (by omega) (by omega) _).mono fun _ _ h => ⟨h.1, h.2.mono (Ext.size _)⟩))))
        refine wpQuiet_nil ?_
        rintro w1 ⟨⟨_, hbz⟩, rfl⟩
        clear e0 e1 e2
        have KZ := Lib.hid (Hb1.out.trans (hbz.mono hsz))
        clear hbz
        go_wp2
        go_roundw
        case rel => exact ⟨j + 1, by omega, by go_num, HcF.out, KZ.out⟩
        case measure => simp [intOf]; omega
    · have hje : j = a := by omega
      subst hje
      have hge : ¬ ((j : Int) < (j : Int)) := by omega
      have Hb1 := Lib.hid (KW.out.trans (hb1.mono (by omega)))
      clear hb1
      go_wp2
      go_ret
      exact ⟨rfl, Hb1.out⟩
end Go.Proofs.Ythddlpghjkiioaa
/-
  PAINTINGS WITHOUT A TRIPLE OF ONE COLOUR: the model's recursion ('ptLook'), by its contract.
-/
namespace Go.Proofs.Ythddlpghjkiioaa
open Go.RowKit

theorem box3_set {w : World} {b : Nat} {v0 v1 v2 u0 u1 u2 : Value} {t : TypeId} (h : w.heap[b]? = some (Obj.cells #[v0, v1, v2] t)) :
    (((w.setCell ⟨b, 0, none⟩ u0).setCell ⟨b, 1, none⟩ u1).setCell ⟨b, 2, none⟩ u2).heap[b]? = some (Obj.cells #[u0, u1, u2] t) := by
  simp [World.setCell, Array.getElem?_modify, h]
/-- what the recursion keeps in its blocks: the painting, how many have been counted, the first one -/
structure AvAt (w : World) (px gx pc pf B n k : Nat) (M : List Int) (cap cnt : Nat) (fst : List Int) : Prop where
  bx : w.heap[px]? = some (Obj.cells #[.int .i64 n, .int .i64 k, .slice (some ⟨gx, 0, none⟩) M.length cap] 52)
  row : w.ownsRow 0 3 1 (.slice (some ⟨gx, 0, none⟩) M.length cap) M.length (icells M)
  cn : w.heap[pc]? = some (Obj.cells #[.int .i64 cnt] 3)
  fi : if cnt = 0 then w.heap[pf]? = some (Obj.cells #[.int .i64 0, .int .i64 0, .slice none 0 0] 52) else ∃ FA fc, w.heap[pf]? = some (Obj.cells #[.int .i64 n, .int .i64 k, .slice FA fst.length fc] 52) ∧ w.ownsRow B 3 1 (.slice FA fst.length fc) fst.length (icells fst)
/-- the blocks are four -/
structure Four (px gx pc pf B : Nat) : Prop where
  lt : px < B ∧ gx < B ∧ pc < B ∧ pf < B
  ne : px ≠ gx ∧ px ≠ pc ∧ px ≠ pf ∧ gx ≠ pc ∧ gx ≠ pf ∧ pc ≠ pf
section
variable {w w' : World} {px gx pc pf B n k cap cnt : Nat} {M fst : List Int}
theorem AvAt.below (h : AvAt w px gx pc pf B n k M cap cnt fst) (hb : Below w.heap.size w w') : AvAt w' px gx pc pf B n k M cap cnt fst := by
  have hl : ∀ {j o}, w.heap[j]? = some o → w'.heap[j]? = some o := fun {j o} hj => (hb.block j (Array.getElem?_eq_some_iff.1 hj).1).trans hj
  refine ⟨hl h.bx, own_below h.row hb (Nat.le_refl _), hl h.cn, ?_⟩
  have := h.fi
  by_cases hc : cnt = 0
  · rw [if_pos hc] at this ⊢
    exact hl this
  · rw [if_neg hc] at this ⊢
    obtain ⟨FA, fc, h1, h2⟩ := this
    exact ⟨FA, fc, hl h1, own_below h2 hb (Nat.le_refl _)⟩
theorem AvAt.paint (h : AvAt w px gx pc pf B n k M cap cnt fst) (hf : Four px gx pc pf B) (q : Nat) (x : Int) : AvAt (w.setCell ⟨gx, q, none⟩ (.int .i64 x)) px gx pc pf B n k (M.set q x) cap cnt fst := by
  have hl : ∀ {j o}, j ≠ gx → w.heap[j]? = some o → (w.setCell ⟨gx, q, none⟩ (.int .i64 x)).heap[j]? = some o := fun {j o} hj h => (Below.heap_setCell _ _ _ _ hj).trans h
  have hn := hf.ne
  refine ⟨by rw [List.length_set]; exact hl hn.1 h.bx, by rw [List.length_set]; exact own_set h.row q x, hl (Ne.symm hn.2.2.2.1) h.cn, ?_⟩
  have := h.fi
  by_cases hc : cnt = 0
  · rw [if_pos hc] at this ⊢
    exact hl (Ne.symm hn.2.2.2.2.1) this
  · rw [if_neg hc] at this ⊢
    obtain ⟨FA, fc, h1, h2⟩ := this
    exact ⟨FA, fc, hl (Ne.symm hn.2.2.2.2.1) h1, own_ap (S := fun j => j = gx) h2 (Apart.setCell (S := fun j => j = gx) (p := ⟨gx, q, none⟩) rfl _) (fun j hj => by have := hf.lt; omega)⟩
theorem AvAt.more (h : AvAt w px gx pc pf B n k M cap cnt fst) (hf : Four px gx pc pf B) (hc : cnt ≠ 0) : AvAt (w.setCell ⟨pc, 0, none⟩ (.int .i64 ((cnt + 1 : Nat) : Int))) px gx pc pf B n k M cap (cnt + 1) fst := by
  have hl : ∀ {j o}, j ≠ pc → w.heap[j]? = some o → (w.setCell ⟨pc, 0, none⟩ (.int .i64 ((cnt + 1 : Nat) : Int))).heap[j]? = some o := fun {j o} hj h => (Below.heap_setCell _ _ _ _ hj).trans h
  have hn := hf.ne
  have := h.fi
  rw [if_neg hc] at this
  obtain ⟨FA, fc, h1, h2⟩ := this
  refine ⟨hl hn.2.1 h.bx, ?_, box_set h.cn, ?_⟩
  · have hr := h.row
    obtain ⟨r1, r2⟩ := hr
    rcases r2 with ⟨hv, h0⟩ | ⟨g, cap', cur, hv, hb, hg, hrest⟩
    · cases hv
    · have hgg : gx = g := Option.some.inj (show some gx = some g from congrArg Value.ownBlock hv)
      exact ⟨r1, .inr ⟨g, cap', cur, hv, hb, hl (by rw [← hgg]; exact hn.2.2.2.1) hg, hrest⟩⟩
  · rw [if_neg (by omega)]
    exact ⟨FA, fc, hl (Ne.symm hn.2.2.2.2.2) h1, own_ap (S := fun j => j = pc) h2 (Apart.setCell (S := fun j => j = pc) (p := ⟨pc, 0, none⟩) rfl _) (fun j hj => by have := hf.lt; omega)⟩
/-- the first one comes -/
theorem AvAt.come {v : Int} (hv1 : v = 1) (h : AvAt w px gx pc pf B n k M cap 0 fst) (hf : Four px gx pc pf B) (hB : B ≤ w.heap.size) (hb : Below w.heap.size w w') {FA : Option Addr} {fc : Nat} (ho : w'.ownsRow w.heap.size 3 1 (.slice FA M.length fc) M.length (icells M)) :
    AvAt ((((w'.setCell ⟨pf, 0, none⟩ (.int .i64 n)).setCell ⟨pf, 1, none⟩ (.int .i64 k)).setCell ⟨pf, 2, none⟩ (.slice FA M.length fc)).setCell ⟨pc, 0, none⟩ (.int .i64 v)) px gx pc pf B n k M cap 1 M := by
  rw [hv1]
  have h' := h.below hb
  have hn := hf.ne
  have hfl := hf.lt
  obtain ⟨V, hV⟩ : ∃ V, (((w'.setCell ⟨pf, 0, none⟩ (.int .i64 n)).setCell ⟨pf, 1, none⟩ (.int .i64 k)).setCell ⟨pf, 2, none⟩ (.slice FA M.length fc)) = V := ⟨_, rfl⟩
  have hap : Apart (fun j => j = pf) w' V := by
    rw [← hV]
    exact ((Apart.setCell (S := fun j => j = pf) (p := ⟨pf, 0, none⟩) rfl _).trans (Apart.setCell (S := fun j => j = pf) (p := ⟨pf, 1, none⟩) rfl _) (fun j hj => .inl hj)).trans (Apart.setCell (S := fun j => j = pf) (p := ⟨pf, 2, none⟩) rfl _) (fun j hj => .inl hj)
  have hap2 : Apart (fun j => j = pf ∨ j = pc) w' (V.setCell ⟨pc, 0, none⟩ (.int .i64 1)) := (hap.mono fun j hj => .inl hj).trans (Apart.setCell (S := fun j => j = pf ∨ j = pc) (p := ⟨pc, 0, none⟩) (.inr rfl) _) (fun j hj => .inl hj)
  have hl : ∀ {j o}, j ≠ pf → j ≠ pc → w'.heap[j]? = some o → (V.setCell ⟨pc, 0, none⟩ (.int .i64 1)).heap[j]? = some o := fun {j o} h1 h2 h => (hap2.same j (Array.getElem?_eq_some_iff.1 h).1 (fun hh => hh.elim h1 h2)).trans h
  have hfi := h'.fi
  rw [if_pos rfl] at hfi
  have hVf : V.heap[pf]? = some (Obj.cells #[.int .i64 n, .int .i64 k, .slice FA M.length fc] 52) := by rw [← hV]; exact box3_set hfi
  rw [hV]
  refine ⟨hl hn.2.2.1 hn.2.1 h'.bx, ?_, box_set ((hap.same pc (Array.getElem?_eq_some_iff.1 h'.cn).1 (by omega)).trans h'.cn), ?_⟩
  · have hr := h'.row
    obtain ⟨r1, r2⟩ := hr
    rcases r2 with ⟨hv, h0⟩ | ⟨g, cap', cur, hv, hb, hg, hrest⟩
    · cases hv
    · have hgg : gx = g := Option.some.inj (show some gx = some g from congrArg Value.ownBlock hv)
      exact ⟨r1, .inr ⟨g, cap', cur, hv, hb, hl (by omega) (by omega) hg, hrest⟩⟩
  · rw [if_neg (by omega)]
    refine ⟨FA, fc, (Below.heap_setCell _ _ _ _ (Ne.symm hn.2.2.2.2.2)).trans hVf, own_ap (S := fun j => j = pf ∨ j = pc) (own_lower ho hB) hap2 (fun j hj => by omega)⟩
end
/-- how a call of the recursion ends -/
structure LookX (px gx pc pf B n k most q : Nat) (M : List Int) (cap cnt : Nat) (fst : List Int) (L : List (List Int)) (w w' : World) : Prop where
  ex : ∃ M', AvAt w' px gx pc pf B n k M' cap (cntX most cnt L) (fstX fst cnt L) ∧ isX n k M' = true ∧ M'.take q = M.take q
  ap : Apart (fun j => j = gx ∨ j = pc ∨ j = pf) w w'
set_option maxHeartbeats 8000000 in
set_option maxRecDepth 100000 in
theorem ptLook_any {px gx pc pf B n k most cap : Nat} (hf : Four px gx pc pf B) (hn : n ≤ 8) (hk : 1 ≤ k ∧ k ≤ 3) (hm0 : 0 < most) (hm : most ≤ 1073741824) : ∀ (fuel a b q : Nat) (M : List Int) (cnt : Nat) (fst : List Int) (w : World), PosX n a b q → (n - a) * 9 + (n - b) < fuel → a ≤ 20 → b ≤ 20 → isX n k M = true → cnt ≤ most → B ≤ w.heap.size → AvAt w px gx pc pf B n k M cap cnt fst →
    Calls Try.prog 87 #[.pointer (some ⟨px, 0, none⟩), .int .i64 a, .int .i64 b, .int .i64 most, .pointer (some ⟨pc, 0, none⟩), .pointer (some ⟨pf, 0, none⟩)] w fun e w' => e = .returned (.tuple #[]) ∧ LookX px gx pc pf B n k most q M cap cnt fst (avoidX n k ((allP n).length - q) (M.take q)) w w' := by
  intro fuel
  induction fuel with
  | zero => intro a b q M cnt fst w _ h; omega
  | succ fuel ih =>
    intro a b q M cnt fst w hpos hfuel ha20 hb20 hx hcnt hB hat
    have hlen := isX_len hx
    rw [Int.toNat_natCast] at hlen
    have cN := cell_in hat.cn
    have xN : w.cell? ⟨px, 0, none⟩ = some (.int .i64 n) := by rw [cell_of_row _ _ _ _ _ _ hat.bx]; rfl
    have xK : w.cell? ⟨px, 1, none⟩ = some (.int .i64 k) := by rw [cell_of_row _ _ _ _ _ _ hat.bx]; rfl
    have xC : w.cell? ⟨px, 2, none⟩ = some (.slice (some ⟨gx, 0, none⟩) M.length cap) := by rw [cell_of_row _ _ _ _ _ _ hat.bx]; rfl
    by_cases hcm : cnt = most
    · have hcmI : ((cnt : Int) == (most : Int)) = true := by simp [hcm]
      have fin : LookX px gx pc pf B n k most q M cap cnt fst (avoidX n k ((allP n).length - q) (M.take q)) w w := by
        refine ⟨⟨M, ?_, hx, rfl⟩, Apart.refl _ _⟩
        rw [show cntX most cnt (avoidX n k ((allP n).length - q) (M.take q)) = cnt by unfold cntX; omega, show fstX fst cnt (avoidX n k ((allP n).length - q) (M.take q)) = fst by unfold fstX; rw [if_neg (by omega)]]
        exact hat
      have Fin := Lib.hid fin
      clear fin ih hat hx
      go_enter Try.func87, Try.ntmps87
      go_wp2
      refine show _ = [] ∧ _ from ⟨rfl, .tuple #[], by simp [results, Try.results87, go_sem], ?_⟩
      exact ⟨rfl, Fin.out⟩
    · have hcmI : ((cnt : Int) == (most : Int)) = false := by simp; omega
      have Hat := Lib.hid hat
      have Hx := Lib.hid hx
      have hlt := hf.lt
      have hfn := hf.ne
      rcases hpos with ⟨h1, h2, h3, h4⟩ | ⟨h1, h2, h3⟩ | ⟨h1, h2⟩
      · have hge : ¬ (n : Int) - 1 ≤ (a : Int) := by omega
        have hbe : ((b : Int) == (n : Int)) = false := by simp; omega
        obtain ⟨hql, hpair⟩ := PosX.at hn h2 h3 h4
        obtain ⟨r, hr⟩ : ∃ r, (allP n).length - q = r + 1 := ⟨(allP n).length - q - 1, by omega⟩
        have htl : (M.take q).length = q := by rw [List.length_take]; omega
        obtain ⟨G, hG⟩ : ∃ G : Nat → List (List Int), (fun x : Nat => if closesX n (M.take q ++ [(x : Int)]) a b then [] else avoidX n k r (M.take q ++ [(x : Int)])) = G := ⟨_, rfl⟩
        have hL : avoidX n k ((allP n).length - q) (M.take q) = (List.range k).flatMap G := by
          rw [hr, ← hG]
          show (List.range k).flatMap (fun x : Nat => if closesX n (M.take q ++ [(x : Int)]) (pairAt n (M.take q).length).1 (pairAt n (M.take q).length).2 then [] else avoidX n k r (M.take q ++ [(x : Int)])) = _
          rw [htl, hpair]
        rw [hL]
        have hGx : ∀ x : Nat, G x = if closesX n (M.take q ++ [(x : Int)]) a b then [] else avoidX n k r (M.take q ++ [(x : Int)]) := fun x => by rw [← hG]
        have HG := Lib.hid hGx
        have Hpos := Lib.hid (PosX.more h1 h2 h3 h4)
        have H4 := Lib.hid h4
        have Hlen := Lib.hid hlen
        clear hL hG hGx hat hx htl hpair cN xN xK xC h4 hlen
        have start : LookX px gx pc pf B n k most q M cap cnt fst [] w w := ⟨⟨M, by rw [cntX_nil hcnt, fstX_nil]; exact Hat.out, Hx.out, rfl⟩, Apart.refl _ _⟩
        have Start := Lib.hid start
        clear start
        have cN0 := cell_in Hat.out.cn
        have xN0 : w.cell? ⟨px, 0, none⟩ = some (.int .i64 n) := by rw [cell_of_row _ _ _ _ _ _ Hat.out.bx]; rfl
        go_enter Try.func87, Try.ntmps87
        go_wp2
        clear cN0 xN0
        go_loopw [12] (fun i wr => ∃ x : Nat, x ≤ k ∧ i = .int .i64 x ∧ LookX px gx pc pf B n k most q M cap cnt fst ((List.range x).flatMap G) w wr) (fun i _ => k - (intOf i).toNat)
        case atStart => exact ⟨0, Nat.zero_le _, rfl, Start.out⟩
        case round =>
          obtain ⟨x, hxk, rfl, hlook⟩ := hrel
          obtain ⟨M1, at1, hx1, ht1⟩ := hlook.ex
          have hap1 := hlook.ap
          have hs1 := hap1.below.size
          obtain ⟨c1, hc1⟩ : ∃ c1, cntX most cnt ((List.range x).flatMap G) = c1 := ⟨_, rfl⟩
          obtain ⟨f1, hf1⟩ : ∃ f1, fstX fst cnt ((List.range x).flatMap G) = f1 := ⟨_, rfl⟩
          have hc1m : c1 ≤ most := by rw [← hc1]; exact cntX_le _ _ _
          rw [hc1, hf1] at at1
          have xK1 : wr.cell? ⟨px, 1, none⟩ = some (.int .i64 k) := by rw [cell_of_row _ _ _ _ _ _ at1.bx]; rfl
          by_cases hlk : x < k
          · have hxi : (x : Int) < (k : Int) := by omega
            have hlen1 := isX_len hx1
            rw [Int.toNat_natCast] at hlen1
            have hq1 : q < M1.length := by have := Hlen.out; omega
            have hqI : (q : Int) < (M1.length : Int) := by omega
            have xN1 : wr.cell? ⟨px, 0, none⟩ = some (.int .i64 n) := by rw [cell_of_row _ _ _ _ _ _ at1.bx]; rfl
            have xC1 : wr.cell? ⟨px, 2, none⟩ = some (.slice (some ⟨gx, 0, none⟩) M1.length cap) := by rw [cell_of_row _ _ _ _ _ _ at1.bx]; rfl
            have cq : ∃ v, wr.cell? ⟨gx, q, none⟩ = some v := by
              obtain ⟨y, hy⟩ := getSome M1 q hq1
              exact ⟨_, own_cell at1.row hy⟩
            obtain ⟨vq, cq⟩ := cq
            have fq : wr.frozen? ⟨gx, q, none⟩ = false := at1.row.frozenAt q
            have callAt := fun (X : World) => ptAt_any n a b hn (by omega) h3 (by omega) X
            rw [Nat.min_eq_left (show a ≤ b by omega), Nat.max_eq_right (show a ≤ b by omega), ← H4.out] at callAt
            have CallAt := Lib.hid callAt
            have At1 := Lib.hid at1
            have Hx1 := Lib.hid hx1
            have Ht1 := Lib.hid ht1
            have Hap1 := Lib.hid hap1
            have Hc1 := Lib.hid hc1
            have Hf1 := Lib.hid hf1
            clear callAt at1 hx1 ht1 hap1 hc1 hf1 hlook hlen1
            go_wp2_with fail
            go_region_law (first
              | (go_simp; go_at_call 99; refine (CallAt.out _).mono ?_; rintro e w' ⟨rfl, rfl⟩)
              | fail)
            all_goals
              obtain ⟨V, hV⟩ : ∃ V, (wr.setCell ⟨gx, q, none⟩ (.int .i64 x)).drew = V := ⟨_, rfl⟩
              rw [hV]
              have hsV : V.heap.size = wr.heap.size := by rw [← hV]; show (wr.setCell _ _).heap.size = _; simp
              have at2 : AvAt V px gx pc pf B n k (M1.set q (x : Int)) cap c1 f1 := by rw [← hV]; exact (At1.out.paint hf q x).below (Below.refl _ _).drew
              have ap2 : Apart (fun j => j = gx ∨ j = pc ∨ j = pf) w V := by
                rw [← hV]
                exact (Hap1.out.trans (Apart.setCell (S := fun j => j = gx ∨ j = pc ∨ j = pf) (p := ⟨gx, q, none⟩) (.inl rfl) (.int .i64 x)) (fun j hj => .inl hj)).trans (Apart.of_below (S := fun _ => False) ((Below.refl _ _).drew)) (fun j hj => hj.elim)
              have hx2 : isX n k (M1.set q (x : Int)) = true := isX_set Hx1.out q x hlk
              have v0 : V.cell? ⟨px, 0, none⟩ = some (.int .i64 n) := by rw [cell_of_row _ _ _ _ _ _ at2.bx]; rfl
              have v1 : V.cell? ⟨px, 1, none⟩ = some (.int .i64 k) := by rw [cell_of_row _ _ _ _ _ _ at2.bx]; rfl
              have v2 : V.cell? ⟨px, 2, none⟩ = some (.slice (some ⟨gx, 0, none⟩) (M1.set q (x : Int)).length cap) := by rw [cell_of_row _ _ _ _ _ _ at2.bx]; rfl
              have htk : (M1.set q (x : Int)).take (q + 1) = M.take q ++ [(x : Int)] := by rw [take_set hq1, Ht1.out]
              have free := ptFree_any n k (M1.set q (x : Int)) (some ⟨gx, 0, none⟩) cap a b V hx2 h2 h3 (CRead.of_own at2.row)
              have hcl : closesX n (M1.set q (x : Int)) a b = closesX n (M.take q ++ [(x : Int)]) a b := closesX_congr hn h2 h3 (by rw [← H4.out, htk]; exact (List.take_of_length_le (by rw [List.length_append, List.length_take, List.length_singleton]; omega)).symm)
              rw [hcl] at free
              have hGx := HG.out x
              have hflat : (List.range (x + 1)).flatMap G = (List.range x).flatMap G ++ G x := by rw [List.range_succ, List.flatMap_append, List.flatMap_cons, List.flatMap_nil, List.append_nil]
              obtain ⟨M2, hM2⟩ : ∃ M2, M1.set q (x : Int) = M2 := ⟨_, rfl⟩
              have htq : M2.take q = M.take q := by rw [← hM2, List.take_set_of_le (Nat.le_refl _)]; exact Ht1.out
              rw [hM2] at at2 hx2 v2 htk free
              have Free := Lib.hid free
              have At2 := Lib.hid at2
              have Ap2 := Lib.hid ap2
              have Hx2 := Lib.hid hx2
              have Htk := Lib.hid htk
              have Htq := Lib.hid htq
              have HGx := Lib.hid hGx
              have Hflat := Lib.hid hflat
              clear free at2 ap2 hx2 htk htq hGx hflat hM2 hV hcl xN1 xC1 xK1 cq fq
              go_wp2_with fail
              refine Free.out.mono ?_
              rintro e w5 ⟨rfl, hb5⟩
              have hs5 := hb5.size
              have at5 := At2.out.below hb5
              have ap5 := Ap2.out.trans (Apart.of_below (S := fun _ => False) hb5) (fun j hj => hj.elim)
              have At5 := Lib.hid at5
              have Ap5 := Lib.hid ap5
              clear at5 ap5 hb5 v0 v1 v2 Free
              cases hcz : closesX n (M.take q ++ [(x : Int)]) a b with
              | true =>
                have hGn : G x = [] := by rw [HGx.out, hcz, if_pos rfl]
                have Fin := Lib.hid (show LookX px gx pc pf B n k most q M cap cnt fst ((List.range (x + 1)).flatMap G) w w5 from ⟨⟨M2, by rw [Hflat.out, hGn, List.append_nil, Hc1.out, Hf1.out]; exact At5.out, Hx2.out, Htq.out⟩, Ap5.out⟩)
                simp only [Bool.not_true]
                clear hGn hcz
                go_wp2
                go_roundw
                case rel => exact ⟨x + 1, by omega, by go_num, Fin.out⟩
                case measure => simp [intOf]; omega
              | false =>
                have hGn : G x = avoidX n k r (M.take q ++ [(x : Int)]) := by rw [HGx.out, hcz, if_neg (by simp)]
                have ihc := ih a (b + 1) (q + 1) M2 c1 f1 w5 Hpos.out (by omega) ha20 (by omega) Hx2.out hc1m (by omega) At5.out
                rw [Htk.out, show (allP n).length - (q + 1) = r by omega, ← hGn, show ((b + 1 : Nat) : Int) = (b : Int) + 1 by omega] at ihc
                have Ihc := Lib.hid ihc
                simp only [Bool.not_false]
                clear hGn hcz ihc
                go_wp2_with fail
                refine Ihc.out.mono ?_
                rintro e w6 ⟨rfl, h9⟩
                have Fin := Lib.hid (show LookX px gx pc pf B n k most q M cap cnt fst ((List.range (x + 1)).flatMap G) w w6 from by
                  obtain ⟨M3, g1, g2, g3⟩ := h9.ex
                  refine ⟨⟨M3, by rw [Hflat.out, cntX_append, fstX_cnt hm0, Hc1.out, Hf1.out]; exact g1, g2, ?_⟩, Ap5.out.trans h9.ap (fun j hj => .inl hj)⟩
                  have g4 := congrArg (List.take q) g3
                  rw [List.take_take, List.take_take, Nat.min_eq_left (by omega)] at g4
                  exact g4.trans Htq.out)
                clear h9 Ihc
                go_wp2
                go_roundw
                case rel => exact ⟨x + 1, by omega, by go_num, Fin.out⟩
                case measure => simp [intOf]; omega
          · have hxe : x = k := by omega
            subst hxe
            have hgeL : ¬ ((x : Int) < (x : Int)) := by omega
            have Fin := Lib.hid hlook
            clear hlook at1 hx1 ht1 hap1
            go_wp2
            refine show _ = [] ∧ _ from ⟨rfl, .tuple #[], by simp [results, Try.results87, go_sem], ?_⟩
            exact ⟨rfl, Fin.out⟩
      · have hge : ¬ (n : Int) - 1 ≤ (a : Int) := by omega
        have hbe : ((b : Int) == (n : Int)) = true := by simp [h2]
        have ihc := ih (a + 1) (a + 2) q M cnt fst w (PosX.next hn h1 h3) (by omega) (by omega) (by omega) hx hcnt hB hat
        rw [show ((a + 1 : Nat) : Int) = (a : Int) + 1 by omega, show ((a + 2 : Nat) : Int) = (a : Int) + 2 by omega] at ihc
        have Ihc := Lib.hid ihc
        clear ihc ih hat hx hlen
        go_enter Try.func87, Try.ntmps87
        go_wp2_with fail
        refine Ihc.out.mono ?_
        rintro e w2 ⟨rfl, h9⟩
        clear Ihc
        go_wp2
        refine show _ = [] ∧ _ from ⟨rfl, .tuple #[], by simp [results, Try.results87, go_sem], ?_⟩
        exact ⟨rfl, h9⟩
      · have hge : (n : Int) - 1 ≤ (a : Int) := by omega
        have hL : avoidX n k ((allP n).length - q) (M.take q) = [M] := by
          rw [h2, Nat.sub_self, List.take_of_length_le (by omega)]; rfl
        rw [hL]
        have hcx : cntX most cnt [M] = cnt + 1 := by unfold cntX; simp; omega
        have hwr : IntKind.i64.wrap ((cnt : Int) + 1) = ((cnt + 1 : Nat) : Int) := by rw [IntKind.wrap_i64]; omega
        have fC := frozen_of_row _ _ 0 _ _ hat.cn
        clear ih hL
        by_cases hc0 : cnt = 0
        · have hc0I : ((cnt : Int) == 0) = true := by simp [hc0]
          have hc0J : (cnt : Int) = 0 := by omega
          have e1 : (cnt : Int) + 1 = 1 := by omega
          have hcc : cntX most cnt [M] = 1 := by omega
          have hff : fstX fst cnt [M] = M := by unfold fstX; rw [if_pos hc0]; rfl
          have H0 := Lib.hid hc0
          have h28 := isX_small hx
          have hown := ptOwn_any n k M (some ⟨gx, 0, none⟩) cap w (by omega) (CRead.of_own hat.row) (fun h => by cases h)
          have fpf := Hat.out.fi
          rw [if_pos hc0] at fpf
          have Hown := Lib.hid hown
          have Fpf := Lib.hid fpf
          have hat0 : AvAt w px gx pc pf B n k M cap 0 fst := by rw [← hc0]; exact Hat.out
          have Hat0 := Lib.hid hat0
          have E1 := Lib.hid e1
          have Hcc := Lib.hid hcc
          have Hff := Lib.hid hff
          clear hown fpf hat hx hat0 hc0 hc0J e1 hcc hff hcx hcm hlen
          go_enter Try.func87, Try.ntmps87
          go_wp2_with fail
          refine Hown.out.mono ?_
          rintro e w2 ⟨FA, fc, rfl, own2, hb2⟩
          have b2 := (hb2.block pf (by omega)).trans Fpf.out
          have y0 : w2.cell? ⟨pf, 0, none⟩ = some (.int .i64 0) := by rw [cell_of_row _ _ _ _ _ _ b2]; rfl
          have y1 : w2.cell? ⟨pf, 1, none⟩ = some (.int .i64 0) := by rw [cell_of_row _ _ _ _ _ _ b2]; rfl
          have y2 : w2.cell? ⟨pf, 2, none⟩ = some (.slice none 0 0) := by rw [cell_of_row _ _ _ _ _ _ b2]; rfl
          have z0 := frozen_of_row _ _ 0 _ _ b2
          have z1 := frozen_of_row _ _ 1 _ _ b2
          have z2 := frozen_of_row _ _ 2 _ _ b2
          have c2 := (hb2.block pc (by omega)).trans Hat.out.cn
          have cN2 := cell_in c2
          have fN2 := frozen_of_row _ _ 0 _ _ c2
          have fin := Hat0.out.come E1.out hf hB hb2 own2
          have hap : Apart (fun j => j = gx ∨ j = pc ∨ j = pf) w ((((w2.setCell ⟨pf, 0, none⟩ (.int .i64 n)).setCell ⟨pf, 1, none⟩ (.int .i64 k)).setCell ⟨pf, 2, none⟩ (.slice FA M.length fc)).setCell ⟨pc, 0, none⟩ (.int .i64 ((cnt : Int) + 1))) :=
            ((((Apart.of_below hb2).trans (Apart.setCell (S := fun j => j = gx ∨ j = pc ∨ j = pf) (p := ⟨pf, 0, none⟩) (.inr (.inr rfl)) _) (fun j hj => .inl hj)).trans (Apart.setCell (S := fun j => j = gx ∨ j = pc ∨ j = pf) (p := ⟨pf, 1, none⟩) (.inr (.inr rfl)) _) (fun j hj => .inl hj)).trans (Apart.setCell (S := fun j => j = gx ∨ j = pc ∨ j = pf) (p := ⟨pf, 2, none⟩) (.inr (.inr rfl)) _) (fun j hj => .inl hj)).trans (Apart.setCell (S := fun j => j = gx ∨ j = pc ∨ j = pf) (p := ⟨pc, 0, none⟩) (.inr (.inl rfl)) _) (fun j hj => .inl hj)
          have Fin := Lib.hid (show LookX px gx pc pf B n k most q M cap cnt fst [M] w _ from ⟨⟨M, by rw [Hcc.out, Hff.out]; exact fin, Hx.out, rfl⟩, hap⟩)
          clear fin hap own2 hb2 b2 c2 cN xN xK xC fC hwr
          go_wp2
          refine show _ = [] ∧ _ from ⟨rfl, .tuple #[], by simp [results, Try.results87, go_sem], ?_⟩
          exact ⟨rfl, Fin.out⟩
        · have hc0I : ((cnt : Int) == 0) = false := by simp; omega
          have hc0J : ¬ (cnt : Int) = 0 := by omega
          have fin := Hat.out.more hf hc0
          have Fin := Lib.hid (show LookX px gx pc pf B n k most q M cap cnt fst [M] w _ from ⟨⟨M, by rw [hcx, show fstX fst cnt [M] = fst from if_neg hc0]; exact fin, Hx.out, rfl⟩, Apart.setCell (S := fun j => j = gx ∨ j = pc ∨ j = pf) (p := ⟨pc, 0, none⟩) (.inr (.inl rfl)) _⟩)
          clear fin hat hx hlen
          go_enter Try.func87, Try.ntmps87
          go_wp2
          first | rw [hwr] | skip
          refine show _ = [] ∧ _ from ⟨rfl, .tuple #[], by simp [results, Try.results87, go_sem], ?_⟩
          exact ⟨rfl, by have h := Fin.out; first | exact h | (push_cast at h; exact h)⟩
end Go.Proofs.Ythddlpghjkiioaa
/-
  PAINTINGS WITHOUT A TRIPLE OF ONE COLOUR: the model's 'ptAvoiding', 'FirstAvoiding', 'CountAvoiding', by their contracts.
-/
namespace Go.Proofs.Ythddlpghjkiioaa
open Go.RowKit

set_option maxHeartbeats 8000000 in
set_option maxRecDepth 100000 in
theorem ptAvoiding_any (n k most : Nat) (hn : n ≤ 8) (hk : 1 ≤ k ∧ k ≤ 3) (hm0 : 0 < most) (hm : most ≤ 1073741824) (w : World) :
    Calls Try.prog 65 #[.int .i64 n, .int .i64 k, .int .i64 most] w fun e w' => ∃ v, e = .returned (.tuple #[.int .i64 ((cntX most 0 (avoidX n k (allP n).length []) : Nat) : Int), .agg v]) ∧
      (if cntX most 0 (avoidX n k (allP n).length []) = 0 then v = #[.int .i64 0, .int .i64 0, .slice none 0 0] else ∃ FA fc, v = #[.int .i64 n, .int .i64 k, .slice FA (fstX [] 0 (avoidX n k (allP n).length [])).length fc] ∧ w'.ownsRow w.heap.size 3 1 (.slice FA (fstX [] 0 (avoidX n k (allP n).length [])).length fc) (fstX [] 0 (avoidX n k (allP n).length [])).length (icells (fstX [] 0 (avoidX n k (allP n).length [])))) ∧ Below w.heap.size w w' := by
  obtain ⟨i0, hi, hz0, hz1, hz2⟩ := info_parts Try.infoInt
  have hc := count_of (p := (n : Int)) (by omega)
  rw [Int.toNat_natCast] at hc
  have hx0 := isX_zero hn hk
  obtain ⟨m, hmL⟩ : ∃ m, (allP n).length = m := ⟨_, rfl⟩
  rw [hmL] at hc hx0
  have hm28 : m ≤ 28 := hc.2.1
  have hq := hc.1.symm
  have hlook := fun (px gx pc pf B cap : Nat) (hf : Four px gx pc pf B) (X : World) (hB : B ≤ X.heap.size) (hat : AvAt X px gx pc pf B n k (List.replicate m 0) cap 0 []) => ptLook_any (cap := cap) hf hn hk hm0 hm 200 0 1 0 (List.replicate m 0) 0 [] X (PosX.first hn) (by omega) (by omega) (by omega) hx0 (Nat.zero_le _) hB hat
  simp only [hmL, Nat.sub_zero, List.take_zero] at hlook
  rw [hmL]
  obtain ⟨L, hL⟩ : ∃ L, avoidX n k m [] = L := ⟨_, rfl⟩
  simp only [hL] at hlook ⊢
  obtain ⟨cnt, hcnt⟩ : ∃ cnt, cntX most 0 L = cnt := ⟨_, rfl⟩
  obtain ⟨F, hF⟩ : ∃ F, fstX [] 0 L = F := ⟨_, rfl⟩
  rw [hcnt, hF]
  have Hcnt := Lib.hid hcnt
  have HF := Lib.hid hF
  have hmul : 0 ≤ (n : Int) * ((n : Int) - 1) ∨ n = 0 := by
    rcases Nat.eq_zero_or_pos n with h | h
    · exact .inr h
    · exact .inl (Int.mul_nonneg (by omega) (by omega))
  have hmulb : (n : Int) * ((n : Int) - 1) ≤ 56 ∧ 0 ≤ (n : Int) * ((n : Int) - 1) := by
    have h : ∀ j : Fin 9, (j.val : Int) * ((j.val : Int) - 1) ≤ 56 ∧ 0 ≤ (j.val : Int) * ((j.val : Int) - 1) := by decide
    exact h ⟨n, by omega⟩
  have Look := Lib.hid hlook
  have Hx0 := Lib.hid hx0
  clear hlook hL hc hmL hmul hx0 hcnt hF
  go_enter Try.func65, Try.ntmps65
  go_wp2_with (at_make; refine wpList_make_full _ rfl _ _ 22 rfl (w.heap.size + 1) 3 i0 _ 1 Try.underlying22 hi hz0 hz1 _ _ _ _ m rfl rfl (by omega) (by omega) (by rw [hz2]; omega) (by unfold maxLen; omega) (by simp) ?_; intro w5 hown5 hgr5)
  rw [show Value.cells (.int .i64 0) = #[.int .i64 0] from rfl, made_ints, World.size_alloc] at hown5
  have rz : (w.alloc (Obj.cells #[.int .i64 0, .int .i64 0, .slice none 0 0] 52)).heap[w.heap.size]? = some (Obj.cells #[.int .i64 0, .int .i64 0, .slice none 0 0] 52) := World.alloc_heap_new w _
  have k5 : Below w.heap.size w w5 := Below.grown (by go_grown) hgr5 (by simp) (by simp)
  have s5 : w.heap.size + 1 ≤ w5.heap.size := by have := hgr5.size; simpa using this
  have r5 : w5.heap[w.heap.size]? = some (Obj.cells #[.int .i64 0, .int .i64 0, .slice none 0 0] 52) := (hgr5.block _ (by simp) (by simp)).trans rz
  have g5 := (own_lt hown5).2
  obtain ⟨N, hN⟩ : ∃ N, w5.heap.size = N := ⟨_, rfl⟩
  obtain ⟨W, hW⟩ : ∃ W, (((w5.alloc (Obj.cells #[.int .i64 n, .int .i64 k, .slice (some ⟨w.heap.size + 1, 0, none⟩) m m] 52)).alloc (Obj.cells #[.int .i64 0] 3)).alloc (Obj.cells #[.int .i64 0, .int .i64 0, .slice none 0 0] 52)) = W := ⟨_, rfl⟩
  have kW : Below w5.heap.size w5 W := by rw [← hW]; go_grown
  have sW : W.heap.size = N + 3 := by rw [← hW, ← hN]; simp
  have bx : W.heap[N]? = some (Obj.cells #[.int .i64 n, .int .i64 k, .slice (some ⟨w.heap.size + 1, 0, none⟩) m m] 52) := by
    rw [← hW, ← hN, Below.heap_alloc _ _ _ (by simp; omega), Below.heap_alloc _ _ _ (by simp)]; exact World.alloc_heap_new w5 _
  have bc : W.heap[N + 1]? = some (Obj.cells #[.int .i64 0] 3) := by
    rw [← hW, ← hN, Below.heap_alloc _ _ _ (by simp)]; have h := World.alloc_heap_new (w5.alloc (Obj.cells #[.int .i64 n, .int .i64 k, .slice (some ⟨w.heap.size + 1, 0, none⟩) m m] 52)) (Obj.cells #[.int .i64 0] 3); rwa [World.size_alloc] at h
  have bf : W.heap[N + 1 + 1]? = some (Obj.cells #[.int .i64 0, .int .i64 0, .slice none 0 0] 52) := by
    rw [← hW, ← hN]; have h := World.alloc_heap_new ((w5.alloc (Obj.cells #[.int .i64 n, .int .i64 k, .slice (some ⟨w.heap.size + 1, 0, none⟩) m m] 52)).alloc (Obj.cells #[.int .i64 0] 3)) (Obj.cells #[.int .i64 0, .int .i64 0, .slice none 0 0] 52); rwa [World.size_alloc, World.size_alloc] at h
  have hgN : w.heap.size + 1 < N := by rw [← hN]; exact g5
  have four : Four N (w.heap.size + 1) (N + 1) (N + 1 + 1) (N + 3) := ⟨by omega, by omega⟩
  have at0 : AvAt W N (w.heap.size + 1) (N + 1) (N + 1 + 1) (N + 3) n k (List.replicate m 0) m 0 [] := ⟨by rw [List.length_replicate]; exact bx, by rw [List.length_replicate]; exact own_lower (own_below hown5 kW (Nat.le_refl _)) (Nat.zero_le _), bc, by rw [if_pos rfl]; exact bf⟩
  have call := Look.out N (w.heap.size + 1) (N + 1) (N + 1 + 1) (N + 3) m four W (by omega) at0
  have rW := (kW.block _ (show w.heap.size < w5.heap.size by omega)).trans r5
  have KW := Lib.hid (k5.trans (kW.mono k5.size))
  have RW := Lib.hid rW
  have Call := Lib.hid call
  rw [hW]
  simp only [hN]
  clear call at0 four bx bc bf kW hW rW r5 rz k5 hown5 hgr5 g5 Look hN
  refine Call.out.mono ?_
  rintro e w6 ⟨rfl, h6⟩
  obtain ⟨M', at6, _, _⟩ := h6.ex
  have ap6 := h6.ap
  have s6 := ap6.below.size
  have r6 := (ap6.same w.heap.size (by omega) (by omega)).trans RW.out
  have kf : Below w.heap.size w w6 := KW.out.trans (ap6.below_of (by omega) (fun j hj => by omega))
  rw [Hcnt.out, HF.out] at at6
  have cN := cell_in at6.cn
  have rc0 : w6.cell? ⟨w.heap.size, 0, none⟩ = some (.int .i64 0) := by rw [cell_of_row _ _ _ _ _ _ r6]; rfl
  have rc1 : w6.cell? ⟨w.heap.size, 1, none⟩ = some (.int .i64 0) := by rw [cell_of_row _ _ _ _ _ _ r6]; rfl
  have rc2 : w6.cell? ⟨w.heap.size, 2, none⟩ = some (.slice none 0 0) := by rw [cell_of_row _ _ _ _ _ _ r6]; rfl
  have rf0 := frozen_of_row _ _ 0 _ _ r6
  have rf1 := frozen_of_row _ _ 1 _ _ r6
  have rf2 := frozen_of_row _ _ 2 _ _ r6
  have hfi := at6.fi
  have R6 := Lib.hid r6
  have KF := Lib.hid kf
  have hNlt : w.heap.size + 1 < N := hgN
  have hNne : ¬ (N + 1 + 1 = w.heap.size) := by omega
  clear at6 ap6 h6 r6 kf Call KW RW
  by_cases hc0 : cnt = 0
  · rw [if_pos hc0] at hfi
    have f0 : w6.cell? ⟨N + 1 + 1, 0, none⟩ = some (.int .i64 0) := by rw [cell_of_row _ _ _ _ _ _ hfi]; rfl
    have f1 : w6.cell? ⟨N + 1 + 1, 1, none⟩ = some (.int .i64 0) := by rw [cell_of_row _ _ _ _ _ _ hfi]; rfl
    have f2 : w6.cell? ⟨N + 1 + 1, 2, none⟩ = some (.slice none 0 0) := by rw [cell_of_row _ _ _ _ _ _ hfi]; rfl
    have H0 := Lib.hid hc0
    clear hfi hc0
    go_wp2
    go_region
    all_goals
      go_wp2
      refine bodyPost_ret (v := .tuple #[.int .i64 0, .agg #[.int .i64 0, .int .i64 0, .slice none 0 0]]) (by simp [results, Try.results65, go_sem, rc0, rc1, rc2]) rfl ?_
      exact ⟨_, rfl, rfl, (((KF.out.setCell (p := ⟨w.heap.size, 0, none⟩) (Nat.le_refl _) (.int .i64 0)).setCell (p := ⟨w.heap.size, 1, none⟩) (Nat.le_refl _) (.int .i64 0)).setCell (p := ⟨w.heap.size, 2, none⟩) (Nat.le_refl _) (.slice none 0 0)).drew⟩
  · rw [if_neg hc0] at hfi
    obtain ⟨FA, fc, hb, hown⟩ := hfi
    have f0 : w6.cell? ⟨N + 1 + 1, 0, none⟩ = some (.int .i64 n) := by rw [cell_of_row _ _ _ _ _ _ hb]; rfl
    have f1 : w6.cell? ⟨N + 1 + 1, 1, none⟩ = some (.int .i64 k) := by rw [cell_of_row _ _ _ _ _ _ hb]; rfl
    have f2 : w6.cell? ⟨N + 1 + 1, 2, none⟩ = some (.slice FA F.length fc) := by rw [cell_of_row _ _ _ _ _ _ hb]; rfl
    have H0 := Lib.hid hc0
    have Hown := Lib.hid hown
    clear hb hc0 hown
    go_wp2
    go_region
    all_goals
      go_wp2
      refine bodyPost_ret (v := .tuple #[.int .i64 cnt, .agg #[.int .i64 n, .int .i64 k, .slice FA F.length fc]]) (by simp [results, Try.results65, go_sem, rc0, rc1, rc2]) rfl ?_
      refine ⟨_, rfl, by exact ⟨FA, fc, rfl, own_lower (own_ap (S := fun j => j = w.heap.size) (own_ap (S := fun j => j = w.heap.size) (own_ap (S := fun j => j = w.heap.size) (own_ap (S := fun j => j = w.heap.size) Hown.out (Apart.setCell (S := fun j => j = w.heap.size) (p := ⟨w.heap.size, 0, none⟩) rfl (.int .i64 n)) (fun j hj => by omega)) (Apart.setCell (S := fun j => j = w.heap.size) (p := ⟨w.heap.size, 1, none⟩) rfl (.int .i64 k)) (fun j hj => by omega)) (Apart.setCell (S := fun j => j = w.heap.size) (p := ⟨w.heap.size, 2, none⟩) rfl (.slice FA F.length fc)) (fun j hj => by omega)) (Apart.of_below (Below.refl _ _).drew) (fun j hj => by omega)) (by omega)⟩, (((KF.out.setCell (p := ⟨w.heap.size, 0, none⟩) (Nat.le_refl _) (.int .i64 n)).setCell (p := ⟨w.heap.size, 1, none⟩) (Nat.le_refl _) (.int .i64 k)).setCell (p := ⟨w.heap.size, 2, none⟩) (Nat.le_refl _) (.slice FA F.length fc)).drew⟩
end Go.Proofs.Ythddlpghjkiioaa
/-
  PAINTINGS WITHOUT A TRIPLE OF ONE COLOUR: the model's 'FirstAvoiding', 'CountAvoiding', by their contracts.
-/
namespace Go.Proofs.Ythddlpghjkiioaa
open Go.RowKit

def avB (n k top : Int) : Bool := (decide (0 ≤ n) && decide (n ≤ top)) && (decide (1 ≤ k) && decide (k ≤ 3))
def avL (n k : Int) : List (List Int) := avoidX n.toNat k.toNat (allP n.toNat).length []
def firstX (n k : Int) : List (List Int) → Int × Int × List Int × Bool
  | [] => (0, 0, [], false)
  | t :: _ => (n, k, t, true)
def resFirstAvoiding (n k : Int) : Int × Int × List Int × Bool := if avB n k 8 then firstX n k (avL n k) else (0, 0, [], false)
def resCountAvoiding (n k : Int) : Int × Bool := if avB n k 5 then (((avL n k).length : Int), true) else (0, false)
theorem avB_parts {n k top : Int} (h : avB n k top = true) : (0 ≤ n ∧ n ≤ top) ∧ (1 ≤ k ∧ k ≤ 3) := by
  unfold avB at h
  simpa [and_assoc] using h
theorem avB_no {n k top : Int} (h : avB n k top = false) : (n < 0 ∨ top < n) ∨ ((0 ≤ n ∧ n ≤ top) ∧ (k < 1 ∨ 3 < k)) := by
  refine Classical.byContradiction fun hn => ?_
  unfold avB at h
  rw [decide_eq_true (show 0 ≤ n by omega), decide_eq_true (show n ≤ top by omega), decide_eq_true (show 1 ≤ k by omega), decide_eq_true (show k ≤ 3 by omega)] at h
  cases h
theorem resFirstAvoiding_len (n k : Int) : (resFirstAvoiding n k).2.2.1.length ≤ 1048576 := by
  unfold resFirstAvoiding
  cases hb : avB n k 8 with
  | false => simp
  | true =>
    have hp := avB_parts hb
    simp only [if_true]
    have h28 := (count_of (p := n) (by omega)).2.1
    cases hL : avL n k with
    | nil => simp [firstX]
    | cons t L =>
      have h := (avoidX_mem n.toNat k.toNat _ [] t (by show t ∈ avL n k; rw [hL]; exact List.mem_cons_self)).1
      simp only [List.length_nil, Nat.zero_add] at h
      show t.length ≤ _
      omega
set_option maxHeartbeats 2000000 in
set_option maxRecDepth 100000 in
theorem specCountAvoiding_any (n k : Int) (w : World) :
    Calls Try.prog 40 #[.int .i64 n, .int .i64 k] w fun e w' => e = .returned (.tuple #[.int .i64 (resCountAvoiding n k).1, .bool (resCountAvoiding n k).2]) ∧ Below w.heap.size w w' := by
  cases hb : avB n k 5 with
  | false =>
    have e : resCountAvoiding n k = (0, false) := by simp [resCountAvoiding, hb]
    rw [e]
    rcases avB_no hb with h | ⟨h1, h2⟩
    · clear hb e
      go_enter Try.func40, Try.ntmps40
      go_wp2_with fail
      refine (l1In_no _ _ _ (by omega) _).mono ?_
      rintro e w' ⟨rfl, rfl⟩
      go_wp2
      go_ret2
      exact ⟨rfl, Below.refl _ _⟩
    · clear hb e
      go_enter Try.func40, Try.ntmps40
      go_wp2_with fail
      refine (l1In_yes _ _ _ h1.1 h1.2 _).mono ?_
      rintro e w' ⟨rfl, rfl⟩
      go_wp2_with fail
      refine (l1In_no _ _ _ (by omega) _).mono ?_
      rintro e w' ⟨rfl, rfl⟩
      go_wp2
      go_ret2
      exact ⟨rfl, Below.refl _ _⟩
  | true =>
    obtain ⟨h1, h2⟩ := avB_parts hb
    have e : resCountAvoiding n k = (((avL n k).length : Int), true) := by simp [resCountAvoiding, hb]
    rw [e]
    obtain ⟨n, rfl⟩ : ∃ m : Nat, n = m := ⟨n.toNat, by omega⟩
    obtain ⟨k, rfl⟩ : ∃ m : Nat, k = m := ⟨k.toNat, by omega⟩
    have hav := ptAvoiding_any n k 1073741824 (by omega) (by omega) (by omega) (Nat.le_refl _) w
    have hlen := avoidX_count n k (allP n).length []
    have h10 : (allP n).length ≤ 10 := by
      have h : ∀ j : Fin 6, (allP j.val).length ≤ 10 := by decide
      exact h ⟨n, by omega⟩
    have h310 : k ^ (allP n).length ≤ 59049 := Nat.le_trans (Nat.pow_le_pow_left (show k ≤ 3 by omega) _) (Nat.le_trans (Nat.pow_le_pow_right (by omega) h10) (by decide))
    rw [show avL n k = avoidX n k (allP n).length [] from rfl]
    obtain ⟨L, hL⟩ : ∃ L, avoidX n k (allP n).length [] = L := ⟨_, rfl⟩
    rw [hL] at hav hlen ⊢
    have hcx : cntX 1073741824 0 L = L.length := by unfold cntX; omega
    rw [hcx] at hav
    have Hav := Lib.hid hav
    clear hav hlen h310 hL hcx hb e
    go_enter Try.func40, Try.ntmps40
    go_wp2_with fail
    refine (l1In_yes _ _ _ h1.1 h1.2 _).mono ?_
    rintro e w' ⟨rfl, rfl⟩
    go_wp2_with fail
    refine (l1In_yes _ _ _ h2.1 h2.2 _).mono ?_
    rintro e w' ⟨rfl, rfl⟩
    go_wp2_with fail
    refine Hav.out.mono ?_
    rintro e w2 ⟨v, rfl, hv, hb2⟩
    by_cases hz : L.length = 0
    · rw [if_pos hz] at hv
      subst hv
      clear hz
      have Hb2 := Lib.hid (hb2.alloc hb2.size (Obj.cells #[.int .i64 0, .int .i64 0, .slice none 0 0] 52))
      clear hb2 Hav
      go_wp2
      go_ret2
      exact ⟨rfl, Hb2.out⟩
    · rw [if_neg hz] at hv
      obtain ⟨FA, fc, rfl, _⟩ := hv
      clear hz
      have Hb2 := Lib.hid (hb2.alloc hb2.size (Obj.cells #[.int .i64 n, .int .i64 k, .slice FA (fstX [] 0 L).length fc] 52))
      clear hb2 Hav
      go_wp2
      go_ret2
      exact ⟨rfl, Hb2.out⟩
set_option maxHeartbeats 2000000 in
set_option maxRecDepth 100000 in
theorem specFirstAvoiding_any (n k : Int) (w : World) :
    Calls Try.prog 35 #[.int .i64 n, .int .i64 k] w (GotPaintOk w (resFirstAvoiding n k).1 (resFirstAvoiding n k).2.1 (resFirstAvoiding n k).2.2.1 (resFirstAvoiding n k).2.2.2) := by
  obtain ⟨W, hW⟩ : ∃ W, w.alloc (Obj.cells #[.int .i64 0, .int .i64 0, .slice none 0 0] 52) = W := ⟨_, rfl⟩
  have kW : Below w.heap.size w W := by rw [← hW]; go_grown
  have sW : W.heap.size = w.heap.size + 1 := by rw [← hW]; simp
  have bW : W.heap[w.heap.size]? = some (Obj.cells #[.int .i64 0, .int .i64 0, .slice none 0 0] 52) := by rw [← hW]; exact World.alloc_heap_new w _
  have cells3 : ∀ V : World, Below W.heap.size W V → V.cell? ⟨w.heap.size, 0, none⟩ = some (.int .i64 0) ∧ V.cell? ⟨w.heap.size, 1, none⟩ = some (.int .i64 0) ∧ V.cell? ⟨w.heap.size, 2, none⟩ = some (.slice none 0 0) ∧ V.frozen? ⟨w.heap.size, 0, none⟩ = false ∧ V.frozen? ⟨w.heap.size, 1, none⟩ = false ∧ V.frozen? ⟨w.heap.size, 2, none⟩ = false := fun V hV => by
    have h := (hV.block _ (show w.heap.size < W.heap.size by omega)).trans bW
    exact ⟨by rw [cell_of_row _ _ _ _ _ _ h]; rfl, by rw [cell_of_row _ _ _ _ _ _ h]; rfl, by rw [cell_of_row _ _ _ _ _ _ h]; rfl, frozen_of_row _ _ 0 _ _ h, frozen_of_row _ _ 1 _ _ h, frozen_of_row _ _ 2 _ _ h⟩
  have HW := Lib.hid hW
  have KW := Lib.hid kW
  have C3 := Lib.hid cells3
  clear hW kW bW cells3
  cases hb : avB n k 8 with
  | false =>
    have e : resFirstAvoiding n k = (0, 0, [], false) := by simp [resFirstAvoiding, hb]
    rw [e]
    obtain ⟨x0, x1, x2, z0, z1, z2⟩ := C3.out W (Below.refl _ _)
    rcases avB_no hb with h | ⟨h1, h2⟩
    · clear hb e
      go_enter Try.func35, Try.ntmps35
      go_wp2_with fail
      rw [HW.out]
      refine (l1In_no _ _ _ (by omega) _).mono ?_
      rintro e w' ⟨rfl, rfl⟩
      go_wp2
      refine bodyPost_ret (v := .tuple #[.agg #[.int .i64 0, .int .i64 0, .slice none 0 0], .bool false]) (by simp [results, Try.results35, go_sem, x0, x1, x2]) rfl ?_
      exact ⟨none, 0, rfl, World.ownsRow_nil _ _ _ _, ((KW.out.setCell (p := ⟨w.heap.size, 0, none⟩) (Nat.le_refl _) _).setCell (p := ⟨w.heap.size, 1, none⟩) (Nat.le_refl _) _).setCell (p := ⟨w.heap.size, 2, none⟩) (Nat.le_refl _) _⟩
    · clear hb e
      go_enter Try.func35, Try.ntmps35
      go_wp2_with fail
      rw [HW.out]
      refine (l1In_yes _ _ _ h1.1 h1.2 _).mono ?_
      rintro e w' ⟨rfl, rfl⟩
      go_wp2_with fail
      refine (l1In_no _ _ _ (by omega) _).mono ?_
      rintro e w' ⟨rfl, rfl⟩
      go_wp2
      refine bodyPost_ret (v := .tuple #[.agg #[.int .i64 0, .int .i64 0, .slice none 0 0], .bool false]) (by simp [results, Try.results35, go_sem, x0, x1, x2]) rfl ?_
      exact ⟨none, 0, rfl, World.ownsRow_nil _ _ _ _, ((KW.out.setCell (p := ⟨w.heap.size, 0, none⟩) (Nat.le_refl _) _).setCell (p := ⟨w.heap.size, 1, none⟩) (Nat.le_refl _) _).setCell (p := ⟨w.heap.size, 2, none⟩) (Nat.le_refl _) _⟩
  | true =>
    obtain ⟨h1, h2⟩ := avB_parts hb
    have e : resFirstAvoiding n k = firstX n k (avL n k) := by simp [resFirstAvoiding, hb]
    rw [e]
    obtain ⟨n, rfl⟩ : ∃ m : Nat, n = m := ⟨n.toNat, by omega⟩
    obtain ⟨k, rfl⟩ : ∃ m : Nat, k = m := ⟨k.toNat, by omega⟩
    have hav := ptAvoiding_any n k 1 (by omega) (by omega) (by omega) (by omega) W
    rw [show avL n k = avoidX n k (allP n).length [] from rfl]
    obtain ⟨L, hL⟩ : ∃ L, avoidX n k (allP n).length [] = L := ⟨_, rfl⟩
    rw [hL] at hav ⊢
    clear hL hb e
    cases L with
    | nil =>
      rw [show cntX 1 0 ([] : List (List Int)) = 0 from rfl] at hav
      simp only [if_true] at hav
      have Hav := Lib.hid hav
      clear hav
      go_enter Try.func35, Try.ntmps35
      go_wp2_with fail
      rw [HW.out]
      refine (l1In_yes _ _ _ h1.1 h1.2 _).mono ?_
      rintro e w' ⟨rfl, rfl⟩
      go_wp2_with fail
      refine (l1In_yes _ _ _ h2.1 h2.2 _).mono ?_
      rintro e w' ⟨rfl, rfl⟩
      go_wp2_with fail
      refine Hav.out.mono ?_
      rintro e w2 ⟨v, rfl, rfl, hb2⟩
      have hs2 := hb2.size
      have K2 := Lib.hid (KW.out.trans (hb2.mono KW.out.size))
      have hlt : w.heap.size < w2.heap.size := by omega
      go_upto_region 4 with (fail)
      obtain ⟨V, hV⟩ : ∃ V, w2.alloc (Obj.cells #[.int .i64 0, .int .i64 0, .slice none 0 0] 52) = V := ⟨_, rfl⟩
      have kV : Below w2.heap.size w2 V := by rw [← hV]; go_grown
      have bV : V.heap[w2.heap.size]? = some (Obj.cells #[.int .i64 0, .int .i64 0, .slice none 0 0] 52) := by rw [← hV]; exact World.alloc_heap_new w2 _
      obtain ⟨x0, x1, x2, z0, z1, z2⟩ := C3.out V (hb2.trans (kV.mono (by omega)))
      have y0 : V.cell? ⟨w2.heap.size, 0, none⟩ = some (.int .i64 0) := by rw [cell_of_row _ _ _ _ _ _ bV]; rfl
      have y1 : V.cell? ⟨w2.heap.size, 1, none⟩ = some (.int .i64 0) := by rw [cell_of_row _ _ _ _ _ _ bV]; rfl
      have y2 : V.cell? ⟨w2.heap.size, 2, none⟩ = some (.slice none 0 0) := by rw [cell_of_row _ _ _ _ _ _ bV]; rfl
      have KV := Lib.hid (K2.out.trans (kV.mono (by omega)))
      have HV := Lib.hid hV
      rw [hV]
      clear hb2 kV bV hV
      clear Hav
      go_wp2
      refine bodyPost_ret (v := .tuple #[.agg #[.int .i64 0, .int .i64 0, .slice none 0 0], .bool false]) (by simp [results, Try.results35, go_sem, x0, x1, x2]) rfl ?_
      exact ⟨none, 0, rfl, World.ownsRow_nil _ _ _ _, ((KV.out.setCell (p := ⟨w.heap.size, 0, none⟩) (Nat.le_refl _) _).setCell (p := ⟨w.heap.size, 1, none⟩) (Nat.le_refl _) _).setCell (p := ⟨w.heap.size, 2, none⟩) (Nat.le_refl _) _⟩
    | cons t L =>
      rw [show cntX 1 0 (t :: L) = 1 by unfold cntX; simp] at hav
      simp only [show ¬ (1 : Nat) = 0 by omega, if_false] at hav
      rw [show fstX [] 0 (t :: L) = t from rfl] at hav
      have Hav := Lib.hid hav
      clear hav
      go_enter Try.func35, Try.ntmps35
      go_wp2_with fail
      rw [HW.out]
      refine (l1In_yes _ _ _ h1.1 h1.2 _).mono ?_
      rintro e w' ⟨rfl, rfl⟩
      go_wp2_with fail
      refine (l1In_yes _ _ _ h2.1 h2.2 _).mono ?_
      rintro e w' ⟨rfl, rfl⟩
      go_wp2_with fail
      refine Hav.out.mono ?_
      rintro e w2 ⟨v, rfl, ⟨FA, fc, rfl, hown⟩, hb2⟩
      have hs2 := hb2.size
      have K2 := Lib.hid (KW.out.trans (hb2.mono KW.out.size))
      have Hown := Lib.hid hown
      have hlt : w.heap.size < w2.heap.size := by omega
      go_upto_region 4 with (fail)
      obtain ⟨V, hV⟩ : ∃ V, w2.alloc (Obj.cells #[.int .i64 n, .int .i64 k, .slice FA t.length fc] 52) = V := ⟨_, rfl⟩
      have kV : Below w2.heap.size w2 V := by rw [← hV]; go_grown
      have bV : V.heap[w2.heap.size]? = some (Obj.cells #[.int .i64 n, .int .i64 k, .slice FA t.length fc] 52) := by rw [← hV]; exact World.alloc_heap_new w2 _
      obtain ⟨x0, x1, x2, z0, z1, z2⟩ := C3.out V (hb2.trans (kV.mono (by omega)))
      have y0 : V.cell? ⟨w2.heap.size, 0, none⟩ = some (.int .i64 n) := by rw [cell_of_row _ _ _ _ _ _ bV]; rfl
      have y1 : V.cell? ⟨w2.heap.size, 1, none⟩ = some (.int .i64 k) := by rw [cell_of_row _ _ _ _ _ _ bV]; rfl
      have y2 : V.cell? ⟨w2.heap.size, 2, none⟩ = some (.slice FA t.length fc) := by rw [cell_of_row _ _ _ _ _ _ bV]; rfl
      have KV := Lib.hid (K2.out.trans (kV.mono (by omega)))
      have HV := Lib.hid hV
      rw [hV]
      clear hb2 kV bV hV
      clear Hav hown
      go_wp2
      refine bodyPost_ret (v := .tuple #[.agg #[.int .i64 n, .int .i64 k, .slice FA t.length fc], .bool true]) (by simp [results, Try.results35, go_sem, x0, x1, x2]) rfl ?_
      exact ⟨FA, fc, rfl, own_lower (own_ap (S := fun j => j = w.heap.size) (own_ap (S := fun j => j = w.heap.size) (own_ap (S := fun j => j = w.heap.size) (by rw [← HV.out]; exact Hown.out.alloc _) (Apart.setCell (S := fun j => j = w.heap.size) (p := ⟨w.heap.size, 0, none⟩) rfl (.int .i64 n)) (fun j hj => by omega)) (Apart.setCell (S := fun j => j = w.heap.size) (p := ⟨w.heap.size, 1, none⟩) rfl (.int .i64 k)) (fun j hj => by omega)) (Apart.setCell (S := fun j => j = w.heap.size) (p := ⟨w.heap.size, 2, none⟩) rfl (.slice FA t.length fc)) (fun j hj => by omega)) (by omega), ((KV.out.setCell (p := ⟨w.heap.size, 0, none⟩) (Nat.le_refl _) _).setCell (p := ⟨w.heap.size, 1, none⟩) (Nat.le_refl _) _).setCell (p := ⟨w.heap.size, 2, none⟩) (Nat.le_refl _) _⟩
end Go.Proofs.Ythddlpghjkiioaa
