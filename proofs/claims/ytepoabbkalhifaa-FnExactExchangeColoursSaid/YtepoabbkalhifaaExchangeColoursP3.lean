/-
  Texts put together for the claim of 'ExchangeColours' (pack 3): Has, Own, TiedP, LRows, OwnRow, PaintS, ExchC.
-/
import Derived.Test.YtepoabbkalhifaaExchangeColoursP2
import Derived.ArgAppend
import Derived.Laws.BitsAllLaws
import Derived.Lib.TrailingZeros
import Derived.Laws.AppendOwnNone
import Derived.Deep.RegionHeld3
/-
  WHETHER A NUMBER IS IN A LIST: the model's look; a list's front.
-/
namespace Go.Proofs.Ytepoabbkalhifaa
open Go.RowKit

theorem icells_getD {l : List Int} {j : Nat} (h : j < l.length) : (icells l)[j]? = some (.int .i64 (l.getD j 0)) := by
  simp [icells, List.getD_eq_getElem?_getD, List.getElem?_eq_getElem h]
theorem CRead.ints {w : World} {B : Nat} {A : Option Addr} {q : List Int} (h : CRead w B A (icells q)) (hq : 0 < q.length) : ∃ b off, A = some ⟨b, off, none⟩ ∧ b < B ∧ ∀ j, j < q.length → w.cell? ⟨b, off + j, none⟩ = some (.int .i64 (q.getD j 0)) := by
  obtain ⟨b, off, rfl, hb, _⟩ := h 0 _ (icells_getD hq)
  refine ⟨b, off, rfl, hb, fun j hj => ?_⟩
  obtain ⟨b', off', e, _, hc⟩ := h j _ (icells_getD hj)
  simp only [Option.some.injEq, Addr.mk.injEq, and_true] at e
  obtain ⟨rfl, rfl⟩ := e
  exact hc

theorem CRead.front {w : World} {B : Nat} {A : Option Addr} {q : List Int} (h : CRead w B A (icells q)) (k : Nat) : CRead w B A (icells (q.take k)) := fun j u hu => by
  refine h j u ?_
  unfold icells at hu ⊢
  rw [List.map_take, List.getElem?_take] at hu
  split at hu
  · exact hu
  · cases hu


/-- whether a number is in a list -/
def hasI (q : List Int) (x : Int) : Bool := q.contains x
theorem hasI_mem {q : List Int} {x : Int} : hasI q x = true ↔ x ∈ q := List.contains_iff_mem
set_option maxHeartbeats 1000000 in
theorem l1Has_any (q : List Int) (x : Int) (A : Option Addr) (c : Nat) (w : World) (hl : q.length ≤ 1048576) (hA : CRead w w.heap.size A (icells q)) :
    Calls Try.prog 114 #[.slice A q.length c, .int .i64 x] w fun e w' => e = .returned (.bool (hasI q x)) ∧ w = w' := by
  go_enter Try.func114, Try.ntmps114
  go_wp2
  go_loop [9] (fun i => ∃ k : Nat, k ≤ q.length ∧ i = .int .i64 k ∧ ∀ (j : Nat) (y : Int), j < k → q[j]? = some y → y ≠ x) (fun i => q.length - (intOf i).toNat)
  case atStart => exact ⟨0, Nat.zero_le _, rfl, fun j x hj => by omega⟩
  case round =>
    obtain ⟨k, hk, rfl, hg⟩ := hrel
    have Hg := Lib.hid hg
    clear hg
    by_cases hlt : k < q.length
    · obtain ⟨y, hy⟩ := getSome q k hlt
      obtain ⟨b, off, rfl, hbb, c0⟩ := hA.int hy
      have hki : (k : Int) < (q.length : Int) := by omega
      have Hy := Lib.hid hy
      clear hy
      by_cases hyx : y = x
      · subst hyx
        have He := Lib.hid (show hasI q y = true from hasI_mem.2 (List.mem_of_getElem? Hy.out))
        go_wp2
        go_ret
        exact ⟨by rw [He.out]; rfl, rfl⟩
      · go_wp2
        go_round
        case rel =>
          refine ⟨k + 1, by omega, by go_num, fun j z hj hz => ?_⟩
          by_cases hjk : j = k
          · subst hjk
            rw [Hy.out] at hz
            simp only [Option.some.injEq] at hz
            subst hz
            exact hyx
          · exact Hg.out j z (by omega) hz
        case measure => simp [intOf]; omega
    · have hkl : k = q.length := by omega
      have e : hasI q x = false := by
        rw [Bool.eq_false_iff]
        intro hc
        rw [hasI_mem] at hc
        obtain ⟨i, hi, e⟩ := List.getElem_of_mem hc
        exact Hg.out i _ (by omega) (List.getElem?_eq_getElem hi) e
      have He := Lib.hid e
      clear e
      have hge : ¬ ((k : Int) < (q.length : Int)) := by omega
      go_wp2
      go_ret
      exact ⟨by rw [He.out]; rfl, rfl⟩
end Go.Proofs.Ytepoabbkalhifaa
/-
  'spec.l1Own': a copy of a list of numbers, by its contract.
-/
namespace Go.Proofs.Ytepoabbkalhifaa
open Go.RowKit

set_option maxHeartbeats 1000000 in
set_option maxRecDepth 100000 in
theorem l1Own_any (q : List Int) (A : Option Addr) (c : Nat) (w : World) (hq : q.length ≤ 1048576) (h0 : 0 < q.length) (hA : CRead w w.heap.size A (icells q)) :
    Calls Try.prog 101 #[.slice A q.length c] w fun e w' => ∃ A' c', e = .returned (.slice A' q.length c') ∧ w'.ownsRow w.heap.size 3 1 (.slice A' q.length c') q.length (icells q) ∧ Below w.heap.size w w' := by
  obtain ⟨i0, hi, hz0, hz1, hz2⟩ := info_parts Try.infoInt
  obtain ⟨b, off, rfl, hb, hr⟩ := hA.ints h0
  go_enter Try.func101, Try.ntmps101
  have hc : ∀ j u, (icells q)[j]? = some u → (w.alloc (Obj.cells #[] 3)).cell? ((⟨b, off, none⟩ : Addr).add j) = some u := fun j u hu => by
    rw [Addr.add_lit]
    obtain ⟨b', off', e, _, hcell⟩ := hA j u hu
    simp only [Option.some.injEq, Addr.mk.injEq, and_true] at e
    obtain ⟨rfl, rfl⟩ := e
    exact (World.cell?_alloc_lt _ _ _ hb).trans hcell
  clear hr
  go_wp2_with (at_builtin; refine wpList_append_grows _ rfl _ _ 22 rfl 3 i0 _ 1 8 Try.underlying22 hi hz0 hz1 hz2 rfl (by decide) (some ⟨w.heap.size, 0, none⟩) 0 0 [] rfl (fun h => by cases h) rfl (fun b' hb' m u hu => by simp at hu) ⟨b, off, none⟩ q.length c (icells q) rfl (by simp [icells]) hc (icells_one q) (by omega) (by unfold maxLen; omega) (by omega) ?_; intro v1 w4 own4 gr4; simp only [Nat.zero_add, List.nil_append] at own4; obtain ⟨A4, d4, rfl, _⟩ := own_shape own4)
  go_ret
  exact ⟨A4, d4, rfl, own_lower own4 (by simp), below_of_gb (gb_trans (World.grownBy_alloc w _ none) gr4) (Nat.le_refl _)⟩
end Go.Proofs.Ytepoabbkalhifaa
/-
  LISTS OF PEOPLE WHO ARE TIED, TWO AND TWO, as plain lists; sets of people as numbers of sixteen bits. Nothing here speaks of the program.
-/
namespace Go.Proofs.Ytepoabbkalhifaa
open Go.RowKit

/-- the lists of so many more of the candidates behind those told, in order; every candidate is tied to all told -/
def listsC (t : Nat → Nat → Bool) : Nat → List Int → List Nat → List (List Int)
  | 0, told, _ => [told]
  | _ + 1, _, [] => []
  | k + 1, told, a :: cs => listsC t k (told ++ [(a : Int)]) (cs.filter (t a)) ++ listsC t (k + 1) told cs
termination_by k _ cs => (k, cs.length)
theorem listsC_zero (t : Nat → Nat → Bool) (told : List Int) (cs : List Nat) : listsC t 0 told cs = [told] := by cases cs <;> simp [listsC]
theorem listsC_nil (t : Nat → Nat → Bool) (k : Nat) (told : List Int) : listsC t (k + 1) told [] = [] := by simp [listsC]
theorem listsC_cons (t : Nat → Nat → Bool) (k : Nat) (told : List Int) (a : Nat) (cs : List Nat) :
    listsC t (k + 1) told (a :: cs) = listsC t k (told ++ [(a : Int)]) (cs.filter (t a)) ++ listsC t (k + 1) told cs := by rw [listsC]

/-- a number's bits are those of a rising list -/
structure IsSet (J : Nat) (cs : List Nat) : Prop where
  up : cs.Pairwise (· < ·)
  lt : ∀ b ∈ cs, b < 16
  mem : ∀ b, J.testBit b = true ↔ b ∈ cs
theorem IsSet.small {J : Nat} {cs : List Nat} (h : IsSet J cs) : J < 65536 := by
  refine Nat.lt_pow_two_of_testBit (n := 16) J fun i hi => ?_
  cases e : J.testBit i with
  | false => rfl
  | true => have := h.lt i ((h.mem i).1 e); omega
theorem IsSet.zero {J : Nat} (h : IsSet J []) : J = 0 := by
  refine Nat.eq_of_testBit_eq fun i => ?_
  rw [Nat.zero_testBit]
  cases e : J.testBit i with
  | false => rfl
  | true => have := (h.mem i).1 e; simp at this
theorem IsSet.pos {J a : Nat} {cs : List Nat} (h : IsSet J (a :: cs)) : J ≠ 0 := by
  intro e
  have := (h.mem a).2 List.mem_cons_self
  rw [e, Nat.zero_testBit] at this
  cases this
theorem IsSet.least {J a : Nat} {cs : List Nat} (h : IsSet J (a :: cs)) : Lib.ctz 16 J = a := by
  have hp := h.pos
  have hs := h.small
  obtain ⟨m, hm, hk⟩ := Lib.ctzFrom_spec 16 J (by omega) hs
  have e : Lib.ctz 16 J = Lib.ctzFrom 16 J := by simp [Lib.ctz, hp]
  rw [e]
  generalize Lib.ctzFrom 16 J = c at *
  have hb : ∀ b, J.testBit b = (decide (c ≤ b) && (2 * m + 1).testBit (b - c)) := fun b => by rw [hm, Nat.testBit_two_pow_mul]
  have h1 : J.testBit c = true := by rw [hb]; simp
  have h2 := (h.mem c).1 h1
  have h3 := (h.mem a).2 List.mem_cons_self
  rw [hb] at h3
  have h4 : c ≤ a := by simp only [Bool.and_eq_true, decide_eq_true_eq] at h3; exact h3.1
  rcases List.mem_cons.1 h2 with h5 | h5
  · exact h5
  · have := (List.pairwise_cons.1 h.up).1 c h5
    omega
theorem bit_off : ∀ a : Fin 16, ∀ b : Fin 16, (65535 - 2 ^ a.val).testBit b.val = decide (b.val ≠ a.val) := by decide
theorem IsSet.tail {J a : Nat} {cs : List Nat} (h : IsSet J (a :: cs)) : IsSet (J &&& (65535 - 2 ^ a)) cs := by
  have ha := h.lt a List.mem_cons_self
  have hp := List.pairwise_cons.1 h.up
  refine ⟨hp.2, fun b hb => h.lt b (List.mem_cons_of_mem _ hb), fun b => ?_⟩
  rw [Nat.testBit_and, Bool.and_eq_true, h.mem, List.mem_cons]
  constructor
  · rintro ⟨h1, h2⟩
    rcases h1 with rfl | h1
    · have := bit_off ⟨b, ha⟩ ⟨b, ha⟩
      simp only [ne_eq, not_true_eq_false, decide_false] at this
      rw [this] at h2
      cases h2
    · exact h1
  · intro hb
    have hb16 := h.lt b (List.mem_cons_of_mem _ hb)
    have := hp.1 b hb
    refine ⟨.inr hb, ?_⟩
    rw [bit_off ⟨a, ha⟩ ⟨b, hb16⟩]
    simp only [ne_eq, decide_eq_true_eq]
    omega
theorem IsSet.inter {J T : Nat} {cs : List Nat} {f : Nat → Bool} (h : IsSet J cs) (hT : ∀ b, b < 16 → T.testBit b = f b) : IsSet (J &&& T) (cs.filter f) := by
  refine ⟨h.up.filter _, fun b hb => h.lt b (List.mem_filter.1 hb).1, fun b => ?_⟩
  rw [Nat.testBit_and, Bool.and_eq_true, h.mem, List.mem_filter]
  constructor
  · rintro ⟨h1, h2⟩
    rw [hT b (h.lt b h1)] at h2
    exact ⟨h1, h2⟩
  · rintro ⟨h1, h2⟩
    exact ⟨h1, by rw [hT b (h.lt b h1)]; exact h2⟩
theorem IsSet.people {n : Nat} (hn : n ≤ 16) : IsSet (2 ^ n - 1) (List.range n) := by
  refine ⟨List.pairwise_lt_range, fun b hb => by have := List.mem_range.1 hb; omega, fun b => ?_⟩
  rw [Nat.testBit_two_pow_sub_one, decide_eq_true_eq, List.mem_range]
end Go.Proofs.Ytepoabbkalhifaa
/-
  LISTS OF NUMBERS UNDER ONE SLICE, each row in a block of the call's own; 'spec.l1Own' of any list; 'spec.trGroups' as a plain list.
-/
namespace Go.Proofs.Ytepoabbkalhifaa
open Go.RowKit

structure LRows (w : World) (B : Nat) (v : Value) (LL : List (List Int)) (hs : List Value) : Prop where
  own : w.ownsRow B 22 1 v LL.length hs
  row : ∀ (i : Nat) (l : List Int), LL[i]? = some l → ∃ A c, hs[i]? = some (Value.slice A l.length c) ∧ w.ownsRow B 3 1 (Value.slice A l.length c) l.length (icells l)
  nil : LL = [] → v = Value.slice none 0 0
section
variable {w w' : World} {B B' : Nat} {v v' v2 : Value} {LL L2 : List (List Int)} {hs hs2 : List Value}
theorem LRows.none (w : World) (B : Nat) : LRows w B (Value.slice Option.none 0 0) [] [] := ⟨World.ownsRow_nil _ _ _ _, fun i l h => by simp at h, fun _ => rfl⟩
theorem LRows.below (h : LRows w B v LL hs) (hb : Below w.heap.size w w') : LRows w' B v LL hs :=
  ⟨own_below h.own hb (Nat.le_refl _), fun i l hi => by obtain ⟨A, c, e, o⟩ := h.row i l hi; exact ⟨A, c, e, own_below o hb (Nat.le_refl _)⟩, h.nil⟩
theorem LRows.lower (h : LRows w B v LL hs) (hB : B' ≤ B) : LRows w B' v LL hs :=
  ⟨own_lower h.own hB, fun i l hi => by obtain ⟨A, c, e, o⟩ := h.row i l hi; exact ⟨A, c, e, own_lower o hB⟩, h.nil⟩
theorem LRows.length (h : LRows w B v LL hs) : hs.length = LL.length := by have := h.own.1; omega
theorem LRows.one (h : LRows w B v LL hs) : ∀ u ∈ hs, u.oneCell' = true := by
  intro u hu
  obtain ⟨i, hi, rfl⟩ := List.getElem_of_mem hu
  have hl := h.length
  obtain ⟨A, c, e, _⟩ := h.row i LL[i] (List.getElem?_eq_getElem (by omega))
  rw [List.getElem?_eq_getElem hi] at e
  simp only [Option.some.injEq] at e
  rw [e]
  rfl
theorem blocks_apart {e e' : TypeId} {size size' n m : Nat} {xs ys : List Value} (h : w.ownsRow B e size v n xs) (h' : w.ownsRow B' e' size' v' m ys) (hne : e ≠ e') : v'.ownBlock = .none ∨ v'.ownBlock ≠ v.ownBlock := by
  rcases h'.2 with ⟨rfl, _⟩ | ⟨g, cap, cur, rfl, _, hg, _⟩
  · exact .inl rfl
  · refine .inr fun e => ?_
    rcases h.2 with ⟨rfl, _⟩ | ⟨g2, cap2, cur2, rfl, _, hg2, _⟩
    · simp [Value.ownBlock] at e
    · have : g = g2 := by simpa [Value.ownBlock] using e
      subst this
      rw [hg] at hg2
      simp only [Option.some.injEq, Obj.cells.injEq] at hg2
      exact hne hg2.2.1.symm
/-- rows appended to rows -/
theorem LRows.append (h : LRows w B v LL hs) (h2 : LRows w B v2 L2 hs2) (hown : w'.ownsRow B 22 1 v' (LL.length + L2.length) (hs ++ hs2)) (hg : w.grownBy w' v.ownBlock) (hn : L2 ≠ []) : LRows w' B v' (LL ++ L2) (hs ++ hs2) := by
  have keep : ∀ A c l, w.ownsRow B 3 1 (.slice A l.length c) l.length (icells l) → w'.ownsRow B 3 1 (.slice A l.length c) l.length (icells l) := fun A c l o => o.kept hg (blocks_apart h.own o (show (22 : TypeId) ≠ 3 by decide))
  refine ⟨by rw [List.length_append]; exact hown, fun i l hi => ?_, fun e => ?_⟩
  · have hl := h.length
    by_cases hlt : i < LL.length
    · rw [List.getElem?_append_left hlt] at hi
      obtain ⟨A, c, e, o⟩ := h.row i l hi
      exact ⟨A, c, by rw [List.getElem?_append_left (by omega)]; exact e, keep A c l o⟩
    · rw [List.getElem?_append_right (by omega)] at hi
      obtain ⟨A, c, e, o⟩ := h2.row _ l hi
      exact ⟨A, c, by rw [List.getElem?_append_right (by omega), hl]; exact e, keep A c l o⟩
  · simp at e
    exact absurd e.2 hn
end
/-- A call came back with lists of numbers. -/
def GotLL (w : World) (LL : List (List Int)) (e : Ending) (w' : World) : Prop := ∃ A c hs, e = .returned (.slice A LL.length c) ∧ LRows w' w.heap.size (.slice A LL.length c) LL hs ∧ Below w.heap.size w w'

set_option maxHeartbeats 1000000 in
set_option maxRecDepth 100000 in
theorem l1Own_all (q : List Int) (A : Option Addr) (c : Nat) (w : World) (hq : q.length ≤ 1048576) (hA : CRead w w.heap.size A (icells q)) (h0 : q = [] → A = none ∧ c = 0) :
    Calls Try.prog 101 #[.slice A q.length c] w fun e w' => ∃ A' c', e = .returned (.slice A' q.length c') ∧ w'.ownsRow w.heap.size 3 1 (.slice A' q.length c') q.length (icells q) ∧ Below w.heap.size w w' := by
  by_cases hz : q = []
  · obtain ⟨rfl, rfl⟩ := h0 hz
    subst hz
    obtain ⟨i0, hi, hz0, hz1, hz2⟩ := info_parts Try.infoInt
    have h1 : (w.alloc (.cells #[] 3)).ownsRow w.heap.size 3 1 (.slice (some ⟨w.heap.size, 0, none⟩) 0 0) 0 [] := World.ownsRow_made w #[] 0 (Nat.le_refl _) (Nat.zero_le _) rfl
    go_enter Try.func101, Try.ntmps101
    go_wp2_with (at_builtin; refine wpList_append_own_none rfl _ _ 22 rfl w.heap.size 3 i0 1 Try.underlying22 hi (.slice (some ⟨w.heap.size, 0, none⟩) 0 0) 0 [] rfl h1 rfl ?_)
    go_ret
    exact ⟨_, _, rfl, h1, by go_grown⟩
  · have hpos : 0 < q.length := by cases q with | nil => exact absurd rfl hz | cons x q => simp
    exact l1Own_any q A c w hq hpos hA

/-! ## The model's candidates -/
def fromQ (q : List Int) : Nat := match q.getLast? with | none => 0 | some x => x.toNat + 1
def candR (t : Nat → Nat → Bool) (n : Nat) (q : List Int) (a : Nat) : List Nat := (List.range' a (n - a)).filter fun b => q.all fun y => t b y.toNat
theorem candR_end (t : Nat → Nat → Bool) (n : Nat) (q : List Int) {a : Nat} (h : n ≤ a) : candR t n q a = [] := by unfold candR; rw [Nat.sub_eq_zero_of_le h]; rfl
theorem candR_no {t : Nat → Nat → Bool} {n : Nat} {q : List Int} {a : Nat} (h : a < n) (hk : (q.all fun y => t a y.toNat) = false) : candR t n q a = candR t n q (a + 1) := by
  unfold candR
  rw [show n - a = (n - (a + 1)) + 1 from by omega, List.range'_succ, List.filter_cons_of_neg (by simp [hk])]
theorem candR_yes {t : Nat → Nat → Bool} {n : Nat} {q : List Int} {a : Nat} (h : a < n) (hk : (q.all fun y => t a y.toNat) = true) : candR t n q a = a :: candR t n q (a + 1) := by
  unfold candR
  rw [show n - a = (n - (a + 1)) + 1 from by omega, List.range'_succ, List.filter_cons_of_pos (by simpa using hk)]
theorem candR_tied {t : Nat → Nat → Bool} (hs : ∀ i j, t i j = t j i) (n : Nat) (q : List Int) (a : Nat) : (candR t n q (a + 1)).filter (t a) = candR t n (q ++ [(a : Int)]) (fromQ (q ++ [(a : Int)])) := by
  unfold candR fromQ
  simp only [List.getLast?_append, List.getLast?_singleton, Option.some_or, Int.toNat_natCast]
  rw [List.filter_filter]
  refine List.filter_congr fun b _ => ?_
  rw [List.all_append]
  simp [hs a b, Bool.and_comm]
end Go.Proofs.Ytepoabbkalhifaa
/-
  A COPY OF A LIST of any length, and what an own row's slice looks like.
-/
namespace Go.Proofs.Ytepoabbkalhifaa
open Go.RowKit

theorem own_none {w : World} {B : Nat} {e : TypeId} {m c : Nat} {A : Option Addr} {xs : List Value} (h : w.ownsRow B e 1 (.slice A m c) m xs) : (A = none ∧ m = 0 ∧ c = 0) ∨ ∃ g, A = some ⟨g, 0, none⟩ := by
  rcases h.2 with ⟨h1, h2⟩ | ⟨g, cap, cur, hv, _⟩
  · simp only [Value.slice.injEq] at h1
    exact .inl ⟨h1.1, h2, h1.2.2⟩
  · simp only [Value.slice.injEq] at hv
    exact .inr ⟨g, hv.1⟩

theorem own_zero {w : World} {B : Nat} {e : TypeId} {m c : Nat} {A : Option Addr} {xs : List Value} (h : w.ownsRow B e 1 (.slice A m c) m xs) : A = none → c = 0 := by
  intro hA
  rcases own_none h with ⟨_, _, h3⟩ | ⟨g, h1⟩
  · exact h3
  · rw [hA] at h1; cases h1
set_option maxHeartbeats 4000000 in
set_option maxRecDepth 100000 in
theorem l1Own_row (q : List Int) (A : Option Addr) (c : Nat) (w : World) (hq : q.length ≤ 1048576) (hA : CRead w w.heap.size A (icells q)) (h0 : A = none → c = 0) :
    Calls Try.prog 101 #[.slice A q.length c] w fun e w' => ∃ A' c', e = .returned (.slice A' q.length c') ∧ w'.ownsRow w.heap.size 3 1 (.slice A' q.length c') q.length (icells q) ∧ Below w.heap.size w w' := by
  by_cases hz : q = []
  · cases A with
    | none => exact l1Own_all q none c w hq hA fun _ => ⟨rfl, h0 rfl⟩
    | some ad =>
      subst hz
      obtain ⟨i0, hi, hz0, hz1, hz2⟩ := info_parts Try.infoInt
      have h1 : (w.alloc (.cells #[] 3)).ownsRow w.heap.size 3 1 (.slice (some ⟨w.heap.size, 0, none⟩) 0 0) 0 [] := World.ownsRow_made w #[] 0 (Nat.le_refl _) (Nat.zero_le _) rfl
      go_enter Try.func101, Try.ntmps101
      go_wp2_with (at_builtin; refine wpList_append_own _ rfl _ _ 22 rfl w.heap.size 3 i0 _ 1 8 Try.underlying22 hi hz0 hz1 hz2 rfl (by decide) (.slice (some ⟨w.heap.size, 0, none⟩) 0 0) 0 [] rfl h1 ad 0 c [] rfl rfl (fun j u hj => by simp at hj) (by simp) (by unfold maxLen; omega) (by omega) (by simp) ?_; intro v1 w1 own1 gr1 _; have k1 : Below w.heap.size w w1 := ((Below.refl _ w).alloc (Nat.le_refl _) _).grown gr1 (by simp) (by intro m hm; simp [Value.ownBlock] at hm; omega); obtain ⟨A1, c1, rfl, _⟩ := own_shape own1)
      go_ret
      exact ⟨A1, c1, rfl, own1, k1⟩
  · exact l1Own_all q A c w hq hA fun e => absurd e hz
end Go.Proofs.Ytepoabbkalhifaa
/-
  PAINTINGS, THE MODEL's own small functions: two people, the place of a pair, its colour, a copy; by their contracts.
-/
namespace Go.Proofs.Ytepoabbkalhifaa
open Go.RowKit

/-- a painting and two different people of it -/
def twoX (p k : Int) (l : List Int) (a b : Int) : Bool := isX p k l && (decide (0 ≤ a ∧ a ≤ p - 1) && (decide (0 ≤ b ∧ b ≤ p - 1) && decide (a ≠ b)))
theorem twoX_parts {p k a b : Int} {l : List Int} (h : twoX p k l a b = true) : isX p k l = true ∧ (0 ≤ a ∧ a ≤ p - 1) ∧ (0 ≤ b ∧ b ≤ p - 1) ∧ a ≠ b := by
  simp only [twoX, Bool.and_eq_true, decide_eq_true_eq] at h
  exact ⟨h.1, h.2.1, h.2.2.1, h.2.2.2⟩
set_option maxHeartbeats 2000000 in
set_option maxRecDepth 100000 in
theorem ptTwo_any (p k : Int) (l : List Int) (A : Option Addr) (c : Nat) (a b : Int) (w : World) (hl : l.length ≤ 1048576) (hA : CRead w w.heap.size A (icells l)) :
    Calls Try.prog 67 #[.agg #[.int .i64 p, .int .i64 k, .slice A l.length c], .int .i64 a, .int .i64 b] w fun e w' => e = .returned (.bool (twoX p k l a b)) ∧ Below w.heap.size w w' := by
  have RA : CRead (w.alloc (Obj.cells #[.int .i64 p, .int .i64 k, .slice A l.length c] 27)) (w.alloc (Obj.cells #[.int .i64 p, .int .i64 k, .slice A l.length c] 27)).heap.size A (icells l) := (hA.below (B' := w.heap.size) (by go_grown) (Nat.le_refl _)).more (by go_size)
  cases hp : isX p k l with
  | false =>
    have e : twoX p k l a b = false := by simp [twoX, hp]
    rw [e]
    have Hp := Lib.hid hp
    clear hp e
    go_enter Try.func67, Try.ntmps67
    go_wp2_with fail
    refine (ptGood_any _ _ _ _ _ _ hl RA).mono ?_
    rw [Hp.out]
    rintro e w2 ⟨rfl, hb2⟩
    simp only [World.size_alloc] at hb2
    go_wp2
    go_ret
    exact ⟨rfl, Below.trans (b := _) (by go_grown) (hb2.mono (by omega))⟩
  | true =>
    have hr := (isX_parts hp).1
    obtain ⟨hr0, hr1⟩ := hr
    have Hp := Lib.hid hp
    by_cases ha : 0 ≤ a ∧ a ≤ p - 1
    · obtain ⟨ha0, ha1⟩ := ha
      by_cases hb : 0 ≤ b ∧ b ≤ p - 1
      · obtain ⟨hb0, hb1⟩ := hb
        obtain ⟨r, hr⟩ : ∃ r, (a != b) = r := ⟨_, rfl⟩
        have e : twoX p k l a b = r := by
          rw [← hr]
          simp only [twoX, hp, ha0, ha1, hb0, hb1, and_self, decide_true, Bool.true_and]
          by_cases hab : a = b <;> simp [hab]
        rw [e]
        clear hp e
        go_enter Try.func67, Try.ntmps67
        go_wp2_with fail
        refine (ptGood_any _ _ _ _ _ _ hl RA).mono ?_
        rw [Hp.out]
        rintro e w2 ⟨rfl, hb2⟩
        simp only [World.size_alloc] at hb2
        have c0 : w2.cell? ⟨w.heap.size, 0, none⟩ = some (.int .i64 p) := carry hb2 (by simp) (by omega)
        go_wp2_with fail
        refine (l1In_yes a 0 (p - 1) ha0 ha1 _).mono ?_
        rintro e w' ⟨rfl, rfl⟩
        go_wp2_with fail
        refine (l1In_yes b 0 (p - 1) hb0 hb1 _).mono ?_
        rintro e w' ⟨rfl, rfl⟩
        go_wp2
        go_ret
        exact ⟨by rw [← hr]; rfl, Below.trans (b := _) (by go_grown) (hb2.mono (by omega))⟩
      · have e : twoX p k l a b = false := by simp [twoX, hb]
        rw [e]
        clear hp e
        go_enter Try.func67, Try.ntmps67
        go_wp2_with fail
        refine (ptGood_any _ _ _ _ _ _ hl RA).mono ?_
        rw [Hp.out]
        rintro e w2 ⟨rfl, hb2⟩
        simp only [World.size_alloc] at hb2
        have c0 : w2.cell? ⟨w.heap.size, 0, none⟩ = some (.int .i64 p) := carry hb2 (by simp) (by omega)
        go_wp2_with fail
        refine (l1In_yes a 0 (p - 1) ha0 ha1 _).mono ?_
        rintro e w' ⟨rfl, rfl⟩
        go_wp2_with fail
        refine (l1In_no b 0 (p - 1) (by omega) _).mono ?_
        rintro e w' ⟨rfl, rfl⟩
        go_wp2
        go_ret
        exact ⟨rfl, Below.trans (b := _) (by go_grown) (hb2.mono (by omega))⟩
    · have e : twoX p k l a b = false := by simp [twoX, ha]
      rw [e]
      clear hp e
      go_enter Try.func67, Try.ntmps67
      go_wp2_with fail
      refine (ptGood_any _ _ _ _ _ _ hl RA).mono ?_
      rw [Hp.out]
      rintro e w2 ⟨rfl, hb2⟩
      simp only [World.size_alloc] at hb2
      have c0 : w2.cell? ⟨w.heap.size, 0, none⟩ = some (.int .i64 p) := carry hb2 (by simp) (by omega)
      go_wp2_with fail
      refine (l1In_no a 0 (p - 1) (by omega) _).mono ?_
      rintro e w' ⟨rfl, rfl⟩
      go_wp2
      go_ret
      exact ⟨rfl, Below.trans (b := _) (by go_grown) (hb2.mono (by omega))⟩
/-- the place, in the model's own words -/
theorem ptAt_num : ∀ n : Fin 9, ∀ a : Fin 8, ∀ b : Fin 8, a.val < b.val → b.val < n.val →
    ((a.val : Int) * (2 * (n.val : Int) - a.val - 1)).tdiv 2 + b.val - a.val - 1 = (atP n.val a.val b.val : Int) ∧ (0 ≤ (a.val : Int) * (2 * (n.val : Int) - a.val - 1) ∧ (a.val : Int) * (2 * (n.val : Int) - a.val - 1) ≤ 1000) ∧ (0 ≤ ((a.val : Int) * (2 * (n.val : Int) - a.val - 1)).tdiv 2 ∧ ((a.val : Int) * (2 * (n.val : Int) - a.val - 1)).tdiv 2 ≤ 1000) := by decide +kernel
set_option maxHeartbeats 2000000 in
set_option maxRecDepth 100000 in
theorem ptAt_any (n a b : Nat) (hn : n ≤ 8) (ha : a < n) (hb : b < n) (hab : a ≠ b) (w : World) :
    Calls Try.prog 73 #[.int .i64 n, .int .i64 a, .int .i64 b] w fun e w' => e = .returned (.int .i64 (atP n (min a b) (max a b))) ∧ w = w' := by
  rcases Nat.lt_or_gt_of_ne hab with h | h
  · rw [Nat.min_eq_left (by omega), Nat.max_eq_right (by omega)]
    obtain ⟨e, ⟨q0, q1⟩, r0, r1⟩ := ptAt_num ⟨n, by omega⟩ ⟨a, by omega⟩ ⟨b, by omega⟩ h hb
    simp only at e q0 q1 r0 r1
    have w1 : IntKind.i64.wrap ((a : Int) * (2 * (n : Int) - a - 1)) = (a : Int) * (2 * (n : Int) - a - 1) := wrap_small (by omega)
    have w2 : IntKind.i64.wrap (((a : Int) * (2 * (n : Int) - a - 1)).tdiv 2) = ((a : Int) * (2 * (n : Int) - a - 1)).tdiv 2 := wrap_small (by omega)
    have hgt : ¬ ((b : Int) < (a : Int)) := by omega
    rw [← e]
    clear e
    go_enter Try.func73, Try.ntmps73
    go_wp2
    go_ret
    exact ⟨rfl, rfl⟩
  · rw [Nat.min_eq_right (by omega), Nat.max_eq_left (by omega)]
    obtain ⟨e, ⟨q0, q1⟩, r0, r1⟩ := ptAt_num ⟨n, by omega⟩ ⟨b, by omega⟩ ⟨a, by omega⟩ h ha
    simp only at e q0 q1 r0 r1
    have w1 : IntKind.i64.wrap ((b : Int) * (2 * (n : Int) - b - 1)) = (b : Int) * (2 * (n : Int) - b - 1) := wrap_small (by omega)
    have w2 : IntKind.i64.wrap (((b : Int) * (2 * (n : Int) - b - 1)).tdiv 2) = ((b : Int) * (2 * (n : Int) - b - 1)).tdiv 2 := wrap_small (by omega)
    have hgt : (b : Int) < (a : Int) := by omega
    rw [← e]
    clear e
    go_enter Try.func73, Try.ntmps73
    go_wp2
    go_ret
    exact ⟨rfl, rfl⟩
set_option maxHeartbeats 2000000 in
set_option maxRecDepth 100000 in
theorem ptOf_any (n : Nat) (k : Int) (l : List Int) (A : Option Addr) (c : Nat) (a b : Nat) (w : World) (hx : isX n k l = true) (ha : a < n) (hb : b < n) (hab : a ≠ b) (hA : CRead w w.heap.size A (icells l)) :
    Calls Try.prog 68 #[.agg #[.int .i64 n, .int .i64 k, .slice A l.length c], .int .i64 a, .int .i64 b] w fun e w' => e = .returned (.int .i64 (colX n l a b)) ∧ Below w.heap.size w w' := by
  have hn := (isX_parts hx).1
  have hi : atP n (min a b) (max a b) < l.length := by
    rw [isX_len hx, Int.toNat_natCast]
    exact atP_lt (by omega) (by omega) (by omega)
  obtain ⟨i, hi2⟩ : ∃ i, atP n (min a b) (max a b) = i := ⟨_, rfl⟩
  rw [hi2] at hi
  obtain ⟨x, hx2⟩ := getSome l i hi
  have e : colX n l a b = x := by unfold colX; rw [hi2, List.getD_eq_getElem?_getD, hx2]; rfl
  rw [e]
  have call := fun X : World => ptAt_any n a b (by omega) ha hb hab X
  simp only [hi2] at call
  obtain ⟨bb, off, rfl, hbb, c0⟩ := (hA.below (B' := w.heap.size) (w' := w.alloc (Obj.cells #[.int .i64 n, .int .i64 k, .slice A l.length c] 27)) (by go_grown) (Nat.le_refl _)).int hx2
  have hii : (i : Int) < (l.length : Int) := by omega
  have Call := Lib.hid call
  clear call e hx2 hi2 hx hn
  obtain ⟨X, hX⟩ : ∃ X, w.alloc (Obj.cells #[.int .i64 n, .int .i64 k, .slice (some ⟨bb, off, none⟩) l.length c] 27) = X := ⟨_, rfl⟩
  have x0 : X.cell? ⟨w.heap.size, 0, none⟩ = some (.int .i64 n) := by rw [← hX]; simp
  have x2 : X.cell? ⟨w.heap.size, 2, none⟩ = some (.slice (some ⟨bb, off, none⟩) l.length c) := by rw [← hX]; simp
  have kX : Below w.heap.size w X := by rw [← hX]; go_grown
  rw [hX] at c0
  have HX := Lib.hid hX
  have KX := Lib.hid kX
  clear hX kX
  go_enter Try.func68, Try.ntmps68
  go_wp2_with fail
  rw [HX.out]
  go_quiet (first | (go_at_call 73; refine Calls.quiet_of_same ((Call.out _).mono fun _ _ ⟨he, hw⟩ => ⟨he, hw.symm⟩)))
  go_wp2
  go_ret
  exact ⟨rfl, ⟨KX.out.os, KX.out.tape, KX.out.output, KX.out.size, KX.out.block⟩⟩
set_option maxHeartbeats 2000000 in
set_option maxRecDepth 100000 in
theorem ptOwn_any (p k : Int) (l : List Int) (A : Option Addr) (c : Nat) (w : World) (hl : l.length ≤ 1048576) (hA : CRead w w.heap.size A (icells l)) (h0 : A = none → c = 0) :
    Calls Try.prog 72 #[.agg #[.int .i64 p, .int .i64 k, .slice A l.length c]] w (GotPaint w p k l) := by
  go_enter Try.func72, Try.ntmps72
  go_wp2
  obtain ⟨W, hW⟩ : ∃ W, (w.alloc (Obj.cells #[.int .i64 p, .int .i64 k, .slice A l.length c] 27)).alloc (Obj.cells #[.int .i64 0, .int .i64 0, .slice none 0 0] 27) = W := ⟨_, rfl⟩
  have a0 : W.cell? ⟨w.heap.size, 0, none⟩ = some (.int .i64 p) := by rw [← hW]; simp
  have a1 : W.cell? ⟨w.heap.size, 1, none⟩ = some (.int .i64 k) := by rw [← hW]; simp
  have a2 : W.cell? ⟨w.heap.size, 2, none⟩ = some (.slice A l.length c) := by rw [← hW]; simp
  have x0 : W.cell? ⟨w.heap.size + 1, 0, none⟩ = some (.int .i64 0) := by rw [← hW]; simp
  have x1 : W.cell? ⟨w.heap.size + 1, 1, none⟩ = some (.int .i64 0) := by rw [← hW]; simp
  have x2 : W.cell? ⟨w.heap.size + 1, 2, none⟩ = some (.slice none 0 0) := by rw [← hW]; simp
  have z0 : W.frozen? ⟨w.heap.size + 1, 0, none⟩ = false := by rw [← hW]; simp
  have z1 : W.frozen? ⟨w.heap.size + 1, 1, none⟩ = false := by rw [← hW]; simp
  have z2 : W.frozen? ⟨w.heap.size + 1, 2, none⟩ = false := by rw [← hW]; simp
  have kW : Below w.heap.size w W := by rw [← hW]; go_grown
  have sW : w.heap.size + 1 < W.heap.size := by rw [← hW]; simp
  rw [hW]
  clear hW
  go_region_held3 (fun w' => w'.cell? ⟨w.heap.size, 0, none⟩ = some (.int .i64 p) ∧ w'.cell? ⟨w.heap.size, 1, none⟩ = some (.int .i64 k) ∧ w'.cell? ⟨w.heap.size, 2, none⟩ = some (.slice A l.length c)) (first | exact ⟨a0, a1, a2⟩ | exact ⟨b0, b1, b2⟩ | exact ⟨(World.cell?_setCell_other _ _ _ _ (by simp)).trans ((World.cell?_setCell_other _ _ _ _ (by simp)).trans ((World.cell?_setCell_other _ _ _ _ (by simp)).trans b0)), (World.cell?_setCell_other _ _ _ _ (by simp)).trans ((World.cell?_setCell_other _ _ _ _ (by simp)).trans ((World.cell?_setCell_other _ _ _ _ (by simp)).trans b1)), (World.cell?_setCell_other _ _ _ _ (by simp)).trans ((World.cell?_setCell_other _ _ _ _ (by simp)).trans ((World.cell?_setCell_other _ _ _ _ (by simp)).trans b2))⟩) ((first
    | (go_at_call 101; refine (l1Own_row l A c _ hl ((hA.below kW.drew (Nat.le_refl _)).more kW.size) h0).mono ?_; rintro e w1 ⟨A1, c1, rfl, own1, hb1⟩; have g1 : Below W.heap.size W w1 := (Below.refl _ _).drew.trans hb1; have b0 := carry g1 a0 (by omega); have b1 := carry g1 a1 (by omega); have b2 := carry g1 a2 (by omega); have y0 := carry g1 x0 (by omega); have y1 := carry g1 x1 (by omega); have y2 := carry g1 x2 (by omega); have v0 := (g1.frozen (p := ⟨w.heap.size + 1, 0, none⟩) sW).trans z0; have v1 := (g1.frozen (p := ⟨w.heap.size + 1, 1, none⟩) sW).trans z1; have v2 := (g1.frozen (p := ⟨w.heap.size + 1, 2, none⟩) sW).trans z2; have s1 := g1.size)
    | skip))
  go_wp2
  refine bodyPost_ret (v := .agg #[.int .i64 p, .int .i64 k, .slice A1 l.length c1]) (by simp [results, Try.results72, go_sem, y0, y1, y2]) rfl ?_
  exact ⟨A1, c1, rfl, own_lower (ownsRow_setCell_below (ownsRow_setCell_below (ownsRow_setCell_below own1 (a := ⟨w.heap.size + 1, 0, none⟩) sW _) (a := ⟨w.heap.size + 1, 1, none⟩) sW _) (a := ⟨w.heap.size + 1, 2, none⟩) sW _) (show w.heap.size ≤ W.heap.size by omega),
    (((kW.trans (g1.mono kW.size)).setCell (p := ⟨w.heap.size + 1, 0, none⟩) (by simp) _).setCell (p := ⟨w.heap.size + 1, 1, none⟩) (by simp) _).setCell (p := ⟨w.heap.size + 1, 2, none⟩) (by simp) _⟩
theorem colIn_any (k x : Int) (w : World) : Calls Try.prog 71 #[.int .i64 x, .int .i64 0, .int .i64 (k - 1)] w fun e w' => e = .returned (.bool (isColB k x)) ∧ Below w.heap.size w w' :=
  (l1In_any x 0 (k - 1) w).mono fun _ _ h => by
    have e : l1InB x 0 (k - 1) = isColB k x := by
      unfold l1InB isColB
      by_cases h0 : 0 ≤ x <;> by_cases h1 : x < k <;> simp [h0, h1] <;> omega
    rw [e] at h
    exact ⟨h.1, h.2 ▸ Below.refl _ _⟩
end Go.Proofs.Ytepoabbkalhifaa
/-
  'ExchangeColours': the model's and the program's, by their contracts. Written by wip/tools/gen_exchc.py.
-/
namespace Go.Proofs.Ytepoabbkalhifaa
open Go.RowKit

def exchI (a b x : Int) : Int := if x = a then b else if x = b then a else x
theorem set_same {L : List Int} {j : Nat} {y : Int} (h : L[j]? = some y) : L.set j y = L := by
  refine List.ext_getElem? fun i => ?_
  by_cases hij : j = i
  · subst hij
    rw [List.getElem?_set_self (List.getElem?_eq_some_iff.1 h).1, h]
  · rw [List.getElem?_set_ne hij]
theorem mix_at {l M : List Int} {j : Nat} {y : Int} (hy : l[j]? = some y) (hM : M.length = j) : (M ++ l.drop j)[j]? = some y := by
  rw [List.getElem?_append_right (by omega), hM, Nat.sub_self, List.getElem?_drop, Nat.add_zero, hy]
def resExchangeColours (p k : Int) (l : List Int) (a b : Int) : Int × Int × List Int × Bool := if isX p k l && (isColB k a && isColB k b) then (p, k, l.map (exchI a b), true) else (0, 0, [], false)
theorem resExchangeColours_len (p k : Int) (l : List Int) (a b : Int) : (resExchangeColours p k l a b).2.2.1.length ≤ 1048576 := by
  unfold resExchangeColours
  split
  · rename_i h
    simp only [Bool.and_eq_true] at h
    have := isX_small h.1
    simp only [List.length_map]
    omega
  · simp

set_option maxHeartbeats 4000000 in
set_option maxRecDepth 100000 in
theorem implExchangeColours_any (p k : Int) (l : List Int) (A : Option Addr) (c : Nat) (a : Int) (b : Int) (w : World) (hl : l.length ≤ 1048576) (hA : CRead w w.heap.size A (icells l)) :
    Calls Try.prog 53 #[.agg #[.int .i64 p, .int .i64 k, .slice A l.length c], .int .i64 a, .int .i64 b] w (GotPaintOk w (resExchangeColours p k l a b).1 (resExchangeColours p k l a b).2.1 (resExchangeColours p k l a b).2.2.1 (resExchangeColours p k l a b).2.2.2) := by
  obtain ⟨w0, hW⟩ : ∃ W, (w.alloc (Obj.cells #[.int .i64 p, .int .i64 k, .slice A l.length c] 27)).alloc (Obj.cells #[.int .i64 0, .int .i64 0, .slice none 0 0] 27) = W := ⟨_, rfl⟩
  have a0_0 : w0.cell? ⟨w.heap.size, 0, none⟩ = some (.int .i64 p) := by rw [← hW]; simp
  have a1_0 : w0.cell? ⟨w.heap.size, 1, none⟩ = some (.int .i64 k) := by rw [← hW]; simp
  have a2_0 : w0.cell? ⟨w.heap.size, 2, none⟩ = some (.slice A l.length c) := by rw [← hW]; simp
  have x0_0 : w0.cell? ⟨w.heap.size + 1, 0, none⟩ = some (.int .i64 0) := by rw [← hW]; simp
  have z0_0 : w0.frozen? ⟨w.heap.size + 1, 0, none⟩ = false := by rw [← hW]; simp
  have x1_0 : w0.cell? ⟨w.heap.size + 1, 1, none⟩ = some (.int .i64 0) := by rw [← hW]; simp
  have z1_0 : w0.frozen? ⟨w.heap.size + 1, 1, none⟩ = false := by rw [← hW]; simp
  have x2_0 : w0.cell? ⟨w.heap.size + 1, 2, none⟩ = some (.slice none 0 0) := by rw [← hW]; simp
  have z2_0 : w0.frozen? ⟨w.heap.size + 1, 2, none⟩ = false := by rw [← hW]; simp
  have k0 : Below w.heap.size w w0 := by rw [← hW]; go_grown
  have sP_0 : w.heap.size < w0.heap.size := by rw [← hW]; simp only [World.size_alloc]; omega
  have sR_0 : w.heap.size + 1 < w0.heap.size := by rw [← hW]; simp only [World.size_alloc]; omega
  have RA0 : CRead w0 w0.heap.size A (icells l) := (hA.below k0 (Nat.le_refl _)).more k0.size
  have HW := Lib.hid hW
  clear hW
  cases h1 : isX p k l with
  | false =>
    have e : resExchangeColours p k l a b = (0, 0, [], false) := by simp [resExchangeColours, h1]
    rw [e]
    have H1 := Lib.hid h1
    clear e h1
    go_enter Try.func53, Try.ntmps53
    go_wp2_with fail
    rw [HW.out]
    refine (isPainting_any p k l A c _ hl RA0).mono ?_
    rw [H1.out]
    rintro e w1 ⟨rfl, hb1⟩
    have k1 := k0.trans (hb1.mono k0.size)
    have RA1 := (RA0.below hb1 (Nat.le_refl _)).more hb1.size
    have a0_1 := carry hb1 a0_0 sP_0
    have a1_1 := carry hb1 a1_0 sP_0
    have a2_1 := carry hb1 a2_0 sP_0
    have x0_1 := carry hb1 x0_0 sR_0
    have z0_1 := (hb1.frozen (p := ⟨w.heap.size + 1, 0, none⟩) sR_0).trans z0_0
    have x1_1 := carry hb1 x1_0 sR_0
    have z1_1 := (hb1.frozen (p := ⟨w.heap.size + 1, 1, none⟩) sR_0).trans z1_0
    have x2_1 := carry hb1 x2_0 sR_0
    have z2_1 := (hb1.frozen (p := ⟨w.heap.size + 1, 2, none⟩) sR_0).trans z2_0
    have sP_1 := Nat.lt_of_lt_of_le sP_0 hb1.size
    have sR_1 := Nat.lt_of_lt_of_le sR_0 hb1.size
    clear RA0 hb1 a0_0 a1_0 a2_0 x0_0 z0_0 x1_0 z1_0 x2_0 z2_0 sP_0 sR_0
    go_wp2
    refine bodyPost_ret (v := .tuple #[.agg #[.int .i64 0, .int .i64 0, .slice none 0 0], .bool false]) (by simp [results, Try.results53, go_sem, x0_1, x1_1, x2_1]) rfl ?_
    exact ⟨none, 0, rfl, World.ownsRow_nil _ _ _ _, (((k1.setCell (p := ⟨w.heap.size + 1, 0, none⟩) (by simp) _).setCell (p := ⟨w.heap.size + 1, 1, none⟩) (by simp) _).setCell (p := ⟨w.heap.size + 1, 2, none⟩) (by simp) _)⟩
  | true =>
    cases h2 : isColB k a with
    | false =>
      have e : resExchangeColours p k l a b = (0, 0, [], false) := by simp [resExchangeColours, h1, h2]
      rw [e]
      have H1 := Lib.hid h1
      have H2 := Lib.hid h2
      clear e h1 h2
      go_enter Try.func53, Try.ntmps53
      go_wp2_with fail
      rw [HW.out]
      refine (isPainting_any p k l A c _ hl RA0).mono ?_
      rw [H1.out]
      rintro e w1 ⟨rfl, hb1⟩
      have k1 := k0.trans (hb1.mono k0.size)
      have RA1 := (RA0.below hb1 (Nat.le_refl _)).more hb1.size
      have a0_1 := carry hb1 a0_0 sP_0
      have a1_1 := carry hb1 a1_0 sP_0
      have a2_1 := carry hb1 a2_0 sP_0
      have x0_1 := carry hb1 x0_0 sR_0
      have z0_1 := (hb1.frozen (p := ⟨w.heap.size + 1, 0, none⟩) sR_0).trans z0_0
      have x1_1 := carry hb1 x1_0 sR_0
      have z1_1 := (hb1.frozen (p := ⟨w.heap.size + 1, 1, none⟩) sR_0).trans z1_0
      have x2_1 := carry hb1 x2_0 sR_0
      have z2_1 := (hb1.frozen (p := ⟨w.heap.size + 1, 2, none⟩) sR_0).trans z2_0
      have sP_1 := Nat.lt_of_lt_of_le sP_0 hb1.size
      have sR_1 := Nat.lt_of_lt_of_le sR_0 hb1.size
      clear RA0 hb1 a0_0 a1_0 a2_0 x0_0 z0_0 x1_0 z1_0 x2_0 z2_0 sP_0 sR_0
      go_wp2_with fail
      refine (isColour_any p k l A c a _).mono ?_
      rw [H2.out]
      rintro e w2 ⟨rfl, hb2⟩
      have k2 := k1.trans (hb2.mono k1.size)
      have RA2 := (RA1.below hb2 (Nat.le_refl _)).more hb2.size
      have a0_2 := carry hb2 a0_1 sP_1
      have a1_2 := carry hb2 a1_1 sP_1
      have a2_2 := carry hb2 a2_1 sP_1
      have x0_2 := carry hb2 x0_1 sR_1
      have z0_2 := (hb2.frozen (p := ⟨w.heap.size + 1, 0, none⟩) sR_1).trans z0_1
      have x1_2 := carry hb2 x1_1 sR_1
      have z1_2 := (hb2.frozen (p := ⟨w.heap.size + 1, 1, none⟩) sR_1).trans z1_1
      have x2_2 := carry hb2 x2_1 sR_1
      have z2_2 := (hb2.frozen (p := ⟨w.heap.size + 1, 2, none⟩) sR_1).trans z2_1
      have sP_2 := Nat.lt_of_lt_of_le sP_1 hb2.size
      have sR_2 := Nat.lt_of_lt_of_le sR_1 hb2.size
      clear RA1 hb2 a0_1 a1_1 a2_1 x0_1 z0_1 x1_1 z1_1 x2_1 z2_1 sP_1 sR_1
      go_wp2
      refine bodyPost_ret (v := .tuple #[.agg #[.int .i64 0, .int .i64 0, .slice none 0 0], .bool false]) (by simp [results, Try.results53, go_sem, x0_2, x1_2, x2_2]) rfl ?_
      exact ⟨none, 0, rfl, World.ownsRow_nil _ _ _ _, (((k2.setCell (p := ⟨w.heap.size + 1, 0, none⟩) (by simp) _).setCell (p := ⟨w.heap.size + 1, 1, none⟩) (by simp) _).setCell (p := ⟨w.heap.size + 1, 2, none⟩) (by simp) _)⟩
    | true =>
      cases h3 : isColB k b with
      | false =>
        have e : resExchangeColours p k l a b = (0, 0, [], false) := by simp [resExchangeColours, h1, h2, h3]
        rw [e]
        have H1 := Lib.hid h1
        have H2 := Lib.hid h2
        have H3 := Lib.hid h3
        clear e h1 h2 h3
        go_enter Try.func53, Try.ntmps53
        go_wp2_with fail
        rw [HW.out]
        refine (isPainting_any p k l A c _ hl RA0).mono ?_
        rw [H1.out]
        rintro e w1 ⟨rfl, hb1⟩
        have k1 := k0.trans (hb1.mono k0.size)
        have RA1 := (RA0.below hb1 (Nat.le_refl _)).more hb1.size
        have a0_1 := carry hb1 a0_0 sP_0
        have a1_1 := carry hb1 a1_0 sP_0
        have a2_1 := carry hb1 a2_0 sP_0
        have x0_1 := carry hb1 x0_0 sR_0
        have z0_1 := (hb1.frozen (p := ⟨w.heap.size + 1, 0, none⟩) sR_0).trans z0_0
        have x1_1 := carry hb1 x1_0 sR_0
        have z1_1 := (hb1.frozen (p := ⟨w.heap.size + 1, 1, none⟩) sR_0).trans z1_0
        have x2_1 := carry hb1 x2_0 sR_0
        have z2_1 := (hb1.frozen (p := ⟨w.heap.size + 1, 2, none⟩) sR_0).trans z2_0
        have sP_1 := Nat.lt_of_lt_of_le sP_0 hb1.size
        have sR_1 := Nat.lt_of_lt_of_le sR_0 hb1.size
        clear RA0 hb1 a0_0 a1_0 a2_0 x0_0 z0_0 x1_0 z1_0 x2_0 z2_0 sP_0 sR_0
        go_wp2_with fail
        refine (isColour_any p k l A c a _).mono ?_
        rw [H2.out]
        rintro e w2 ⟨rfl, hb2⟩
        have k2 := k1.trans (hb2.mono k1.size)
        have RA2 := (RA1.below hb2 (Nat.le_refl _)).more hb2.size
        have a0_2 := carry hb2 a0_1 sP_1
        have a1_2 := carry hb2 a1_1 sP_1
        have a2_2 := carry hb2 a2_1 sP_1
        have x0_2 := carry hb2 x0_1 sR_1
        have z0_2 := (hb2.frozen (p := ⟨w.heap.size + 1, 0, none⟩) sR_1).trans z0_1
        have x1_2 := carry hb2 x1_1 sR_1
        have z1_2 := (hb2.frozen (p := ⟨w.heap.size + 1, 1, none⟩) sR_1).trans z1_1
        have x2_2 := carry hb2 x2_1 sR_1
        have z2_2 := (hb2.frozen (p := ⟨w.heap.size + 1, 2, none⟩) sR_1).trans z2_1
        have sP_2 := Nat.lt_of_lt_of_le sP_1 hb2.size
        have sR_2 := Nat.lt_of_lt_of_le sR_1 hb2.size
        clear RA1 hb2 a0_1 a1_1 a2_1 x0_1 z0_1 x1_1 z1_1 x2_1 z2_1 sP_1 sR_1
        go_wp2_with fail
        refine (isColour_any p k l A c b _).mono ?_
        rw [H3.out]
        rintro e w3 ⟨rfl, hb3⟩
        have k3 := k2.trans (hb3.mono k2.size)
        have RA3 := (RA2.below hb3 (Nat.le_refl _)).more hb3.size
        have a0_3 := carry hb3 a0_2 sP_2
        have a1_3 := carry hb3 a1_2 sP_2
        have a2_3 := carry hb3 a2_2 sP_2
        have x0_3 := carry hb3 x0_2 sR_2
        have z0_3 := (hb3.frozen (p := ⟨w.heap.size + 1, 0, none⟩) sR_2).trans z0_2
        have x1_3 := carry hb3 x1_2 sR_2
        have z1_3 := (hb3.frozen (p := ⟨w.heap.size + 1, 1, none⟩) sR_2).trans z1_2
        have x2_3 := carry hb3 x2_2 sR_2
        have z2_3 := (hb3.frozen (p := ⟨w.heap.size + 1, 2, none⟩) sR_2).trans z2_2
        have sP_3 := Nat.lt_of_lt_of_le sP_2 hb3.size
        have sR_3 := Nat.lt_of_lt_of_le sR_2 hb3.size
        clear RA2 hb3 a0_2 a1_2 a2_2 x0_2 z0_2 x1_2 z1_2 x2_2 z2_2 sP_2 sR_2
        go_wp2
        refine bodyPost_ret (v := .tuple #[.agg #[.int .i64 0, .int .i64 0, .slice none 0 0], .bool false]) (by simp [results, Try.results53, go_sem, x0_3, x1_3, x2_3]) rfl ?_
        exact ⟨none, 0, rfl, World.ownsRow_nil _ _ _ _, (((k3.setCell (p := ⟨w.heap.size + 1, 0, none⟩) (by simp) _).setCell (p := ⟨w.heap.size + 1, 1, none⟩) (by simp) _).setCell (p := ⟨w.heap.size + 1, 2, none⟩) (by simp) _)⟩
      | true =>
        have H1 := Lib.hid h1
        have H2 := Lib.hid h2
        have H3 := Lib.hid h3
        have e : resExchangeColours p k l a b = (p, k, l.map (exchI a b), true) := by simp [resExchangeColours, h1, h2, h3]
        rw [e]
        have hsm := isX_small h1
        obtain ⟨i0, hi, hz0, hz1, hz2⟩ := info_parts Try.infoInt
        clear e h1 h2 h3
        go_enter Try.func53, Try.ntmps53
        go_wp2_with fail
        rw [HW.out]
        refine (isPainting_any p k l A c _ hl RA0).mono ?_
        rw [H1.out]
        rintro e w1 ⟨rfl, hb1⟩
        have k1 := k0.trans (hb1.mono k0.size)
        have RA1 := (RA0.below hb1 (Nat.le_refl _)).more hb1.size
        have a0_1 := carry hb1 a0_0 sP_0
        have a1_1 := carry hb1 a1_0 sP_0
        have a2_1 := carry hb1 a2_0 sP_0
        have x0_1 := carry hb1 x0_0 sR_0
        have z0_1 := (hb1.frozen (p := ⟨w.heap.size + 1, 0, none⟩) sR_0).trans z0_0
        have x1_1 := carry hb1 x1_0 sR_0
        have z1_1 := (hb1.frozen (p := ⟨w.heap.size + 1, 1, none⟩) sR_0).trans z1_0
        have x2_1 := carry hb1 x2_0 sR_0
        have z2_1 := (hb1.frozen (p := ⟨w.heap.size + 1, 2, none⟩) sR_0).trans z2_0
        have sP_1 := Nat.lt_of_lt_of_le sP_0 hb1.size
        have sR_1 := Nat.lt_of_lt_of_le sR_0 hb1.size
        clear RA0 hb1 a0_0 a1_0 a2_0 x0_0 z0_0 x1_0 z1_0 x2_0 z2_0 sP_0 sR_0
        go_wp2_with fail
        refine (isColour_any p k l A c a _).mono ?_
        rw [H2.out]
        rintro e w2 ⟨rfl, hb2⟩
        have k2 := k1.trans (hb2.mono k1.size)
        have RA2 := (RA1.below hb2 (Nat.le_refl _)).more hb2.size
        have a0_2 := carry hb2 a0_1 sP_1
        have a1_2 := carry hb2 a1_1 sP_1
        have a2_2 := carry hb2 a2_1 sP_1
        have x0_2 := carry hb2 x0_1 sR_1
        have z0_2 := (hb2.frozen (p := ⟨w.heap.size + 1, 0, none⟩) sR_1).trans z0_1
        have x1_2 := carry hb2 x1_1 sR_1
        have z1_2 := (hb2.frozen (p := ⟨w.heap.size + 1, 1, none⟩) sR_1).trans z1_1
        have x2_2 := carry hb2 x2_1 sR_1
        have z2_2 := (hb2.frozen (p := ⟨w.heap.size + 1, 2, none⟩) sR_1).trans z2_1
        have sP_2 := Nat.lt_of_lt_of_le sP_1 hb2.size
        have sR_2 := Nat.lt_of_lt_of_le sR_1 hb2.size
        clear RA1 hb2 a0_1 a1_1 a2_1 x0_1 z0_1 x1_1 z1_1 x2_1 z2_1 sP_1 sR_1
        go_wp2_with fail
        refine (isColour_any p k l A c b _).mono ?_
        rw [H3.out]
        rintro e w3 ⟨rfl, hb3⟩
        have k3 := k2.trans (hb3.mono k2.size)
        have RA3 := (RA2.below hb3 (Nat.le_refl _)).more hb3.size
        have a0_3 := carry hb3 a0_2 sP_2
        have a1_3 := carry hb3 a1_2 sP_2
        have a2_3 := carry hb3 a2_2 sP_2
        have x0_3 := carry hb3 x0_2 sR_2
        have z0_3 := (hb3.frozen (p := ⟨w.heap.size + 1, 0, none⟩) sR_2).trans z0_2
        have x1_3 := carry hb3 x1_2 sR_2
        have z1_3 := (hb3.frozen (p := ⟨w.heap.size + 1, 1, none⟩) sR_2).trans z1_2
        have x2_3 := carry hb3 x2_2 sR_2
        have z2_3 := (hb3.frozen (p := ⟨w.heap.size + 1, 2, none⟩) sR_2).trans z2_2
        have sP_3 := Nat.lt_of_lt_of_le sP_2 hb3.size
        have sR_3 := Nat.lt_of_lt_of_le sR_2 hb3.size
        clear RA2 hb3 a0_2 a1_2 a2_2 x0_2 z0_2 x1_2 z1_2 x2_2 z2_2 sP_2 sR_2
        go_wp2
        obtain ⟨X, hX⟩ : ∃ X, w3.alloc (Obj.cells #[.int .i64 p, .int .i64 k, .slice none 0 0] 27) = X := ⟨_, rfl⟩
        have rel0 : PBox w3.heap.size w3 X p k w3.heap.size (.slice none 0 0) ((l.take 0).map (exchI a b)) := by
          rw [← hX]
          exact ⟨(Below.refl _ _).alloc (Nat.le_refl _) _, Nat.le_refl _, heap_alloc_new w3 _, World.ownsRow_nil _ _ _ _⟩
        obtain ⟨G, hG⟩ : ∃ G, w3.heap.size = G := ⟨_, rfl⟩
        rw [hG] at rel0 sP_3 sR_3
        rw [hX, hG]
        have g3 : G ≤ w3.heap.size := Nat.le_of_eq hG.symm
        clear hX hG
        go_loopw [35] (fun i wr => ∃ (j : Nat) (v : Value), j ≤ l.length ∧ i = .int .i64 j ∧ PBox G w3 wr p k G v ((l.take j).map (exchI a b))) (fun i _ => l.length - (intOf i).toNat)
        case atStart => exact ⟨0, _, Nat.zero_le _, rfl, rel0⟩
        case round =>
          clear rel0
          obtain ⟨j, v, hj, rfl, rel⟩ := hrel
          have bX : Below w3.heap.size w3 wr ∨ True := .inr trivial
          have gX : Below G w3 wr := rel.below
          have kX : Below w.heap.size w wr := k3.trans (gX.mono (by omega))
          have hGr := rel.lt
          have hlen : ((l.take j).map (exchI a b)).length ≤ 28 := by rw [List.length_map, List.length_take]; omega
          obtain ⟨L, hL⟩ : ∃ L, (l.take j).map (exchI a b) = L := ⟨_, rfl⟩
          rw [hL] at rel hlen
          have HL := Lib.hid hL
          clear hL
          obtain ⟨b0, b1, b2, bf⟩ := rel.cells
          have bf2 := bf 2
          have u2 := carry gX a2_3 (by omega)
          by_cases hlt : j < l.length
          · obtain ⟨y, hy⟩ := getSome l j hlt
            obtain ⟨bb, off, rfl, hbb, c0⟩ := (hA.below kX (Nat.le_refl _)).int hy
            have hji : (j : Int) < (l.length : Int) := by omega
            have hW1 : ∀ o : Obj, Below wr.heap.size wr (wr.alloc o) := fun o => (Below.refl _ wr).alloc (Nat.le_refl _) o
            obtain ⟨x, hx⟩ : ∃ x, exchI a b y = x := ⟨_, rfl⟩
            have Hy := Lib.hid hy
            have Hx := Lib.hid hx
            clear hy bf bX
            by_cases e1 : y = a
            · have HC := Lib.hid (show b = x by rw [← hx]; unfold exchI; rw [if_pos e1])
              have q1 : (y == a) = true := by simp [e1]
              clear hx e1
              go_wp2_with (at_builtin; refine wpList_append_own _ rfl _ _ 22 rfl G 3 i0 _ 1 8 Try.underlying22 hi hz0 hz1 hz2 rfl (by decide) _ _ _ rfl (rel.own.alloc _) ⟨wr.heap.size, 0, none⟩ 1 1 [.int .i64 b] rfl rfl (one_cell (by simp)) (one_one rfl) (by unfold maxLen; omega) (by omega) (by simp; omega) ?_; intro v1 w2 hown2 hg2 _; obtain ⟨A2, d2, rfl, _⟩ := own_shape hown2; have hr1 := rel.push (hW1 _) hg2 hown2; obtain ⟨_, y0, y1, y2, yf, y3, y4⟩ := rel.grown (hW1 _) hg2; have yf2 := yf 2; clear yf)
              go_roundw
              case rel => exact ⟨j + 1, _, by omega, by go_num, by rw [List.take_add_one, Hy.out, Option.toList_some, List.map_append, List.map_singleton, Hx.out, HL.out, ← HC.out]; exact hr1⟩
              case measure => simp [intOf]; omega
            · by_cases e2 : y = b
              · have HC := Lib.hid (show a = x by rw [← hx]; unfold exchI; rw [if_neg e1, if_pos e2])
                have q1 : (y == a) = false := by simp [e1]
                have q2 : (y == b) = true := by simp [e2]
                clear hx e1 e2
                go_wp2_with (at_builtin; refine wpList_append_own _ rfl _ _ 22 rfl G 3 i0 _ 1 8 Try.underlying22 hi hz0 hz1 hz2 rfl (by decide) _ _ _ rfl (rel.own.alloc _) ⟨wr.heap.size, 0, none⟩ 1 1 [.int .i64 a] rfl rfl (one_cell (by simp)) (one_one rfl) (by unfold maxLen; omega) (by omega) (by simp; omega) ?_; intro v1 w2 hown2 hg2 _; obtain ⟨A2, d2, rfl, _⟩ := own_shape hown2; have hr1 := rel.push (hW1 _) hg2 hown2; obtain ⟨_, y0, y1, y2, yf, y3, y4⟩ := rel.grown (hW1 _) hg2; have yf2 := yf 2; clear yf)
                go_roundw
                case rel => exact ⟨j + 1, _, by omega, by go_num, by rw [List.take_add_one, Hy.out, Option.toList_some, List.map_append, List.map_singleton, Hx.out, HL.out, ← HC.out]; exact hr1⟩
                case measure => simp [intOf]; omega
              · have HC := Lib.hid (show y = x by rw [← hx]; unfold exchI; rw [if_neg e1, if_neg e2])
                have q1 : (y == a) = false := by simp [e1]
                have q2 : (y == b) = false := by simp [e2]
                clear hx e1 e2
                go_wp2_with (at_builtin; refine wpList_append_own _ rfl _ _ 22 rfl G 3 i0 _ 1 8 Try.underlying22 hi hz0 hz1 hz2 rfl (by decide) _ _ _ rfl (rel.own.alloc _) ⟨wr.heap.size, 0, none⟩ 1 1 [.int .i64 y] rfl rfl (one_cell (by simp)) (one_one rfl) (by unfold maxLen; omega) (by omega) (by simp; omega) ?_; intro v1 w2 hown2 hg2 _; obtain ⟨A2, d2, rfl, _⟩ := own_shape hown2; have hr1 := rel.push (hW1 _) hg2 hown2; obtain ⟨_, y0, y1, y2, yf, y3, y4⟩ := rel.grown (hW1 _) hg2; have yf2 := yf 2; clear yf)
                go_roundw
                case rel => exact ⟨j + 1, _, by omega, by go_num, by rw [List.take_add_one, Hy.out, Option.toList_some, List.map_append, List.map_singleton, Hx.out, HL.out, ← HC.out]; exact hr1⟩
                case measure => simp [intOf]; omega
          · have hjl : j = l.length := by omega
            subst hjl
            have hge : ¬ ((l.length : Int) < (l.length : Int)) := by omega
            have hLL := HL.out
            rw [List.take_length] at hLL
            subst hLL
            have hnl : (l.map (exchI a b)).length = l.length := List.length_map _
            obtain ⟨A', c', rfl, _⟩ := own_shape rel.own
            have r0 := carry gX x0_3 sR_3
            have r1 := carry gX x1_3 sR_3
            have r2 := carry gX x2_3 sR_3
            have f0 := (gX.frozen (p := ⟨w.heap.size + 1, 0, none⟩) sR_3).trans z0_3
            have f1 := (gX.frozen (p := ⟨w.heap.size + 1, 1, none⟩) sR_3).trans z1_3
            have f2 := (gX.frozen (p := ⟨w.heap.size + 1, 2, none⟩) sR_3).trans z2_3
            have hne : ¬ G = w.heap.size + 1 := by omega
            have Rel := Lib.hid rel
            clear rel bf bX
            go_wp2
            refine bodyPost_ret (v := .tuple #[.agg #[.int .i64 p, .int .i64 k, .slice A' (l.map (exchI a b)).length c'], .bool true]) (by simp [results, Try.results53, go_sem, r0, r1, r2]) rfl ?_
            exact ⟨A', c', rfl, own_lower (ownsRow_setCell_below (ownsRow_setCell_below (ownsRow_setCell_below Rel.out.own (a := ⟨w.heap.size + 1, 0, none⟩) sR_3 _) (a := ⟨w.heap.size + 1, 1, none⟩) sR_3 _) (a := ⟨w.heap.size + 1, 2, none⟩) sR_3 _) (by omega),
              ((kX.setCell (p := ⟨w.heap.size + 1, 0, none⟩) (by simp) _).setCell (p := ⟨w.heap.size + 1, 1, none⟩) (by simp) _).setCell (p := ⟨w.heap.size + 1, 2, none⟩) (by simp) _⟩

set_option maxHeartbeats 4000000 in
set_option maxRecDepth 100000 in
theorem specExchangeColours_any (p k : Int) (l : List Int) (A : Option Addr) (c : Nat) (a : Int) (b : Int) (w : World) (hl : l.length ≤ 1048576) (hA : CRead w w.heap.size A (icells l)) (h0 : A = none → c = 0) :
    Calls Try.prog 52 #[.agg #[.int .i64 p, .int .i64 k, .slice A l.length c], .int .i64 a, .int .i64 b] w (GotPaintOk w (resExchangeColours p k l a b).1 (resExchangeColours p k l a b).2.1 (resExchangeColours p k l a b).2.2.1 (resExchangeColours p k l a b).2.2.2) := by
  obtain ⟨w0, hW⟩ : ∃ W, (w.alloc (Obj.cells #[.int .i64 p, .int .i64 k, .slice A l.length c] 27)).alloc (Obj.cells #[.int .i64 0, .int .i64 0, .slice none 0 0] 27) = W := ⟨_, rfl⟩
  have a0_0 : w0.cell? ⟨w.heap.size, 0, none⟩ = some (.int .i64 p) := by rw [← hW]; simp
  have a1_0 : w0.cell? ⟨w.heap.size, 1, none⟩ = some (.int .i64 k) := by rw [← hW]; simp
  have a2_0 : w0.cell? ⟨w.heap.size, 2, none⟩ = some (.slice A l.length c) := by rw [← hW]; simp
  have x0_0 : w0.cell? ⟨w.heap.size + 1, 0, none⟩ = some (.int .i64 0) := by rw [← hW]; simp
  have z0_0 : w0.frozen? ⟨w.heap.size + 1, 0, none⟩ = false := by rw [← hW]; simp
  have x1_0 : w0.cell? ⟨w.heap.size + 1, 1, none⟩ = some (.int .i64 0) := by rw [← hW]; simp
  have z1_0 : w0.frozen? ⟨w.heap.size + 1, 1, none⟩ = false := by rw [← hW]; simp
  have x2_0 : w0.cell? ⟨w.heap.size + 1, 2, none⟩ = some (.slice none 0 0) := by rw [← hW]; simp
  have z2_0 : w0.frozen? ⟨w.heap.size + 1, 2, none⟩ = false := by rw [← hW]; simp
  have k0 : Below w.heap.size w w0 := by rw [← hW]; go_grown
  have sP_0 : w.heap.size < w0.heap.size := by rw [← hW]; simp only [World.size_alloc]; omega
  have sR_0 : w.heap.size + 1 < w0.heap.size := by rw [← hW]; simp only [World.size_alloc]; omega
  have RA0 : CRead w0 w0.heap.size A (icells l) := (hA.below k0 (Nat.le_refl _)).more k0.size
  have HW := Lib.hid hW
  clear hW
  cases h1 : isX p k l with
  | false =>
    have e : resExchangeColours p k l a b = (0, 0, [], false) := by simp [resExchangeColours, h1]
    rw [e]
    have H1 := Lib.hid h1
    clear e h1
    go_enter Try.func52, Try.ntmps52
    go_wp2_with fail
    rw [HW.out]
    refine (ptGood_any p k l A c _ hl RA0).mono ?_
    rw [H1.out]
    rintro e w1 ⟨rfl, hb1⟩
    have k1 := k0.trans (hb1.mono k0.size)
    have RA1 := (RA0.below hb1 (Nat.le_refl _)).more hb1.size
    have a0_1 := carry hb1 a0_0 sP_0
    have a1_1 := carry hb1 a1_0 sP_0
    have a2_1 := carry hb1 a2_0 sP_0
    have x0_1 := carry hb1 x0_0 sR_0
    have z0_1 := (hb1.frozen (p := ⟨w.heap.size + 1, 0, none⟩) sR_0).trans z0_0
    have x1_1 := carry hb1 x1_0 sR_0
    have z1_1 := (hb1.frozen (p := ⟨w.heap.size + 1, 1, none⟩) sR_0).trans z1_0
    have x2_1 := carry hb1 x2_0 sR_0
    have z2_1 := (hb1.frozen (p := ⟨w.heap.size + 1, 2, none⟩) sR_0).trans z2_0
    have sP_1 := Nat.lt_of_lt_of_le sP_0 hb1.size
    have sR_1 := Nat.lt_of_lt_of_le sR_0 hb1.size
    clear RA0 hb1 a0_0 a1_0 a2_0 x0_0 z0_0 x1_0 z1_0 x2_0 z2_0 sP_0 sR_0
    go_wp2
    refine bodyPost_ret (v := .tuple #[.agg #[.int .i64 0, .int .i64 0, .slice none 0 0], .bool false]) (by simp [results, Try.results52, go_sem, x0_1, x1_1, x2_1]) rfl ?_
    exact ⟨none, 0, rfl, World.ownsRow_nil _ _ _ _, (((k1.setCell (p := ⟨w.heap.size + 1, 0, none⟩) (by simp) _).setCell (p := ⟨w.heap.size + 1, 1, none⟩) (by simp) _).setCell (p := ⟨w.heap.size + 1, 2, none⟩) (by simp) _)⟩
  | true =>
    obtain ⟨hk0, hk1⟩ := (isX_parts h1).2.1
    cases h2 : isColB k a with
    | false =>
      have e : resExchangeColours p k l a b = (0, 0, [], false) := by simp [resExchangeColours, h1, h2]
      rw [e]
      have H1 := Lib.hid h1
      have H2 := Lib.hid h2
      clear e h1 h2
      go_enter Try.func52, Try.ntmps52
      go_wp2_with fail
      rw [HW.out]
      refine (ptGood_any p k l A c _ hl RA0).mono ?_
      rw [H1.out]
      rintro e w1 ⟨rfl, hb1⟩
      have k1 := k0.trans (hb1.mono k0.size)
      have RA1 := (RA0.below hb1 (Nat.le_refl _)).more hb1.size
      have a0_1 := carry hb1 a0_0 sP_0
      have a1_1 := carry hb1 a1_0 sP_0
      have a2_1 := carry hb1 a2_0 sP_0
      have x0_1 := carry hb1 x0_0 sR_0
      have z0_1 := (hb1.frozen (p := ⟨w.heap.size + 1, 0, none⟩) sR_0).trans z0_0
      have x1_1 := carry hb1 x1_0 sR_0
      have z1_1 := (hb1.frozen (p := ⟨w.heap.size + 1, 1, none⟩) sR_0).trans z1_0
      have x2_1 := carry hb1 x2_0 sR_0
      have z2_1 := (hb1.frozen (p := ⟨w.heap.size + 1, 2, none⟩) sR_0).trans z2_0
      have sP_1 := Nat.lt_of_lt_of_le sP_0 hb1.size
      have sR_1 := Nat.lt_of_lt_of_le sR_0 hb1.size
      clear RA0 hb1 a0_0 a1_0 a2_0 x0_0 z0_0 x1_0 z1_0 x2_0 z2_0 sP_0 sR_0
      go_wp2_with fail
      refine (colIn_any k a _).mono ?_
      rw [H2.out]
      rintro e w2 ⟨rfl, hb2⟩
      have k2 := k1.trans (hb2.mono k1.size)
      have RA2 := (RA1.below hb2 (Nat.le_refl _)).more hb2.size
      have a0_2 := carry hb2 a0_1 sP_1
      have a1_2 := carry hb2 a1_1 sP_1
      have a2_2 := carry hb2 a2_1 sP_1
      have x0_2 := carry hb2 x0_1 sR_1
      have z0_2 := (hb2.frozen (p := ⟨w.heap.size + 1, 0, none⟩) sR_1).trans z0_1
      have x1_2 := carry hb2 x1_1 sR_1
      have z1_2 := (hb2.frozen (p := ⟨w.heap.size + 1, 1, none⟩) sR_1).trans z1_1
      have x2_2 := carry hb2 x2_1 sR_1
      have z2_2 := (hb2.frozen (p := ⟨w.heap.size + 1, 2, none⟩) sR_1).trans z2_1
      have sP_2 := Nat.lt_of_lt_of_le sP_1 hb2.size
      have sR_2 := Nat.lt_of_lt_of_le sR_1 hb2.size
      clear RA1 hb2 a0_1 a1_1 a2_1 x0_1 z0_1 x1_1 z1_1 x2_1 z2_1 sP_1 sR_1
      go_wp2
      refine bodyPost_ret (v := .tuple #[.agg #[.int .i64 0, .int .i64 0, .slice none 0 0], .bool false]) (by simp [results, Try.results52, go_sem, x0_2, x1_2, x2_2]) rfl ?_
      exact ⟨none, 0, rfl, World.ownsRow_nil _ _ _ _, (((k2.setCell (p := ⟨w.heap.size + 1, 0, none⟩) (by simp) _).setCell (p := ⟨w.heap.size + 1, 1, none⟩) (by simp) _).setCell (p := ⟨w.heap.size + 1, 2, none⟩) (by simp) _)⟩
    | true =>
      cases h3 : isColB k b with
      | false =>
        have e : resExchangeColours p k l a b = (0, 0, [], false) := by simp [resExchangeColours, h1, h2, h3]
        rw [e]
        have H1 := Lib.hid h1
        have H2 := Lib.hid h2
        have H3 := Lib.hid h3
        clear e h1 h2 h3
        go_enter Try.func52, Try.ntmps52
        go_wp2_with fail
        rw [HW.out]
        refine (ptGood_any p k l A c _ hl RA0).mono ?_
        rw [H1.out]
        rintro e w1 ⟨rfl, hb1⟩
        have k1 := k0.trans (hb1.mono k0.size)
        have RA1 := (RA0.below hb1 (Nat.le_refl _)).more hb1.size
        have a0_1 := carry hb1 a0_0 sP_0
        have a1_1 := carry hb1 a1_0 sP_0
        have a2_1 := carry hb1 a2_0 sP_0
        have x0_1 := carry hb1 x0_0 sR_0
        have z0_1 := (hb1.frozen (p := ⟨w.heap.size + 1, 0, none⟩) sR_0).trans z0_0
        have x1_1 := carry hb1 x1_0 sR_0
        have z1_1 := (hb1.frozen (p := ⟨w.heap.size + 1, 1, none⟩) sR_0).trans z1_0
        have x2_1 := carry hb1 x2_0 sR_0
        have z2_1 := (hb1.frozen (p := ⟨w.heap.size + 1, 2, none⟩) sR_0).trans z2_0
        have sP_1 := Nat.lt_of_lt_of_le sP_0 hb1.size
        have sR_1 := Nat.lt_of_lt_of_le sR_0 hb1.size
        clear RA0 hb1 a0_0 a1_0 a2_0 x0_0 z0_0 x1_0 z1_0 x2_0 z2_0 sP_0 sR_0
        go_wp2_with fail
        refine (colIn_any k a _).mono ?_
        rw [H2.out]
        rintro e w2 ⟨rfl, hb2⟩
        have k2 := k1.trans (hb2.mono k1.size)
        have RA2 := (RA1.below hb2 (Nat.le_refl _)).more hb2.size
        have a0_2 := carry hb2 a0_1 sP_1
        have a1_2 := carry hb2 a1_1 sP_1
        have a2_2 := carry hb2 a2_1 sP_1
        have x0_2 := carry hb2 x0_1 sR_1
        have z0_2 := (hb2.frozen (p := ⟨w.heap.size + 1, 0, none⟩) sR_1).trans z0_1
        have x1_2 := carry hb2 x1_1 sR_1
        have z1_2 := (hb2.frozen (p := ⟨w.heap.size + 1, 1, none⟩) sR_1).trans z1_1
        have x2_2 := carry hb2 x2_1 sR_1
        have z2_2 := (hb2.frozen (p := ⟨w.heap.size + 1, 2, none⟩) sR_1).trans z2_1
        have sP_2 := Nat.lt_of_lt_of_le sP_1 hb2.size
        have sR_2 := Nat.lt_of_lt_of_le sR_1 hb2.size
        clear RA1 hb2 a0_1 a1_1 a2_1 x0_1 z0_1 x1_1 z1_1 x2_1 z2_1 sP_1 sR_1
        go_wp2_with fail
        refine (colIn_any k b _).mono ?_
        rw [H3.out]
        rintro e w3 ⟨rfl, hb3⟩
        have k3 := k2.trans (hb3.mono k2.size)
        have RA3 := (RA2.below hb3 (Nat.le_refl _)).more hb3.size
        have a0_3 := carry hb3 a0_2 sP_2
        have a1_3 := carry hb3 a1_2 sP_2
        have a2_3 := carry hb3 a2_2 sP_2
        have x0_3 := carry hb3 x0_2 sR_2
        have z0_3 := (hb3.frozen (p := ⟨w.heap.size + 1, 0, none⟩) sR_2).trans z0_2
        have x1_3 := carry hb3 x1_2 sR_2
        have z1_3 := (hb3.frozen (p := ⟨w.heap.size + 1, 1, none⟩) sR_2).trans z1_2
        have x2_3 := carry hb3 x2_2 sR_2
        have z2_3 := (hb3.frozen (p := ⟨w.heap.size + 1, 2, none⟩) sR_2).trans z2_2
        have sP_3 := Nat.lt_of_lt_of_le sP_2 hb3.size
        have sR_3 := Nat.lt_of_lt_of_le sR_2 hb3.size
        clear RA2 hb3 a0_2 a1_2 a2_2 x0_2 z0_2 x1_2 z1_2 x2_2 z2_2 sP_2 sR_2
        go_wp2
        refine bodyPost_ret (v := .tuple #[.agg #[.int .i64 0, .int .i64 0, .slice none 0 0], .bool false]) (by simp [results, Try.results52, go_sem, x0_3, x1_3, x2_3]) rfl ?_
        exact ⟨none, 0, rfl, World.ownsRow_nil _ _ _ _, (((k3.setCell (p := ⟨w.heap.size + 1, 0, none⟩) (by simp) _).setCell (p := ⟨w.heap.size + 1, 1, none⟩) (by simp) _).setCell (p := ⟨w.heap.size + 1, 2, none⟩) (by simp) _)⟩
      | true =>
        have H1 := Lib.hid h1
        have H2 := Lib.hid h2
        have H3 := Lib.hid h3
        have e : resExchangeColours p k l a b = (p, k, l.map (exchI a b), true) := by simp [resExchangeColours, h1, h2, h3]
        rw [e]
        have hsm := isX_small h1
        clear e h1 h2 h3
        go_enter Try.func52, Try.ntmps52
        go_wp2_with fail
        rw [HW.out]
        refine (ptGood_any p k l A c _ hl RA0).mono ?_
        rw [H1.out]
        rintro e w1 ⟨rfl, hb1⟩
        have k1 := k0.trans (hb1.mono k0.size)
        have RA1 := (RA0.below hb1 (Nat.le_refl _)).more hb1.size
        have a0_1 := carry hb1 a0_0 sP_0
        have a1_1 := carry hb1 a1_0 sP_0
        have a2_1 := carry hb1 a2_0 sP_0
        have x0_1 := carry hb1 x0_0 sR_0
        have z0_1 := (hb1.frozen (p := ⟨w.heap.size + 1, 0, none⟩) sR_0).trans z0_0
        have x1_1 := carry hb1 x1_0 sR_0
        have z1_1 := (hb1.frozen (p := ⟨w.heap.size + 1, 1, none⟩) sR_0).trans z1_0
        have x2_1 := carry hb1 x2_0 sR_0
        have z2_1 := (hb1.frozen (p := ⟨w.heap.size + 1, 2, none⟩) sR_0).trans z2_0
        have sP_1 := Nat.lt_of_lt_of_le sP_0 hb1.size
        have sR_1 := Nat.lt_of_lt_of_le sR_0 hb1.size
        clear RA0 hb1 a0_0 a1_0 a2_0 x0_0 z0_0 x1_0 z1_0 x2_0 z2_0 sP_0 sR_0
        go_wp2_with fail
        refine (colIn_any k a _).mono ?_
        rw [H2.out]
        rintro e w2 ⟨rfl, hb2⟩
        have k2 := k1.trans (hb2.mono k1.size)
        have RA2 := (RA1.below hb2 (Nat.le_refl _)).more hb2.size
        have a0_2 := carry hb2 a0_1 sP_1
        have a1_2 := carry hb2 a1_1 sP_1
        have a2_2 := carry hb2 a2_1 sP_1
        have x0_2 := carry hb2 x0_1 sR_1
        have z0_2 := (hb2.frozen (p := ⟨w.heap.size + 1, 0, none⟩) sR_1).trans z0_1
        have x1_2 := carry hb2 x1_1 sR_1
        have z1_2 := (hb2.frozen (p := ⟨w.heap.size + 1, 1, none⟩) sR_1).trans z1_1
        have x2_2 := carry hb2 x2_1 sR_1
        have z2_2 := (hb2.frozen (p := ⟨w.heap.size + 1, 2, none⟩) sR_1).trans z2_1
        have sP_2 := Nat.lt_of_lt_of_le sP_1 hb2.size
        have sR_2 := Nat.lt_of_lt_of_le sR_1 hb2.size
        clear RA1 hb2 a0_1 a1_1 a2_1 x0_1 z0_1 x1_1 z1_1 x2_1 z2_1 sP_1 sR_1
        go_wp2_with fail
        refine (colIn_any k b _).mono ?_
        rw [H3.out]
        rintro e w3 ⟨rfl, hb3⟩
        have k3 := k2.trans (hb3.mono k2.size)
        have RA3 := (RA2.below hb3 (Nat.le_refl _)).more hb3.size
        have a0_3 := carry hb3 a0_2 sP_2
        have a1_3 := carry hb3 a1_2 sP_2
        have a2_3 := carry hb3 a2_2 sP_2
        have x0_3 := carry hb3 x0_2 sR_2
        have z0_3 := (hb3.frozen (p := ⟨w.heap.size + 1, 0, none⟩) sR_2).trans z0_2
        have x1_3 := carry hb3 x1_2 sR_2
        have z1_3 := (hb3.frozen (p := ⟨w.heap.size + 1, 1, none⟩) sR_2).trans z1_2
        have x2_3 := carry hb3 x2_2 sR_2
        have z2_3 := (hb3.frozen (p := ⟨w.heap.size + 1, 2, none⟩) sR_2).trans z2_2
        have sP_3 := Nat.lt_of_lt_of_le sP_2 hb3.size
        have sR_3 := Nat.lt_of_lt_of_le sR_2 hb3.size
        clear RA2 hb3 a0_2 a1_2 a2_2 x0_2 z0_2 x1_2 z1_2 x2_2 z2_2 sP_2 sR_2
        go_wp2_with fail
        refine (ptOwn_any p k l A c _ hl RA3 h0).mono ?_
        rintro e w4 ⟨A4, c4, rfl, own4, hb4⟩
        have k4 := k3.trans (hb4.mono k3.size)
        have s4 := hb4.size
        have u0 := carry hb4 a0_3 sP_3
        have u1 := carry hb4 a1_3 sP_3
        have u2 := carry hb4 a2_3 sP_3
        have y0 := carry hb4 x0_3 sR_3
        have y1 := carry hb4 x1_3 sR_3
        have y2 := carry hb4 x2_3 sR_3
        have v0 := (hb4.frozen (p := ⟨w.heap.size + 1, 0, none⟩) sR_3).trans z0_3
        have v1 := (hb4.frozen (p := ⟨w.heap.size + 1, 1, none⟩) sR_3).trans z1_3
        have v2 := (hb4.frozen (p := ⟨w.heap.size + 1, 2, none⟩) sR_3).trans z2_3
        have sR4 : w.heap.size + 1 < w4.heap.size := Nat.lt_of_lt_of_le sR_3 s4
        have sP4 : w.heap.size < w4.heap.size := by omega
        have X0 := x0_3
        have X1 := x1_3
        have X2 := x2_3
        have Z0 := z0_3
        have Z1 := z1_3
        have Z2 := z2_3
        clear a0_3 a1_3 a2_3 x0_3 x1_3 x2_3 z0_3 z1_3 z2_3 RA3 y0 y1 y2 v0 v1 v2
        go_wp2
        obtain ⟨X, hX⟩ : ∃ X, w4.alloc (Obj.cells #[.int .i64 p, .int .i64 k, .slice A4 l.length c4] 27) = X := ⟨_, rfl⟩
        have rel0 : PBox w3.heap.size w3 X p k w4.heap.size (.slice A4 l.length c4) ((l.take 0).map (exchI a b) ++ l.drop 0) := by
          rw [← hX]
          exact ⟨hb4.alloc s4 _, s4, heap_alloc_new w4 _, own4.alloc _⟩
        obtain ⟨G, hG⟩ : ∃ G, w4.heap.size = G := ⟨_, rfl⟩
        rw [hG] at rel0 sP4 sR4
        rw [hX, hG]
        have g3 : G ≤ w4.heap.size := Nat.le_of_eq hG.symm
        have gX : Below w4.heap.size w4 X := by rw [← hX]; exact (Below.refl _ _).alloc (Nat.le_refl _) _
        have e0 := carry gX u0 (by omega)
        have e1 := carry gX u1 (by omega)
        have e2 := carry gX u2 (by omega)
        have W3 := k3
        clear hX hG u0 u1 u2 e0 e1
        go_loopw [36] (fun i wr => ∃ (j : Nat), j ≤ l.length ∧ i = .int .i64 j ∧ PBox w3.heap.size w3 wr p k G (.slice A4 l.length c4) ((l.take j).map (exchI a b) ++ l.drop j)) (fun i _ => l.length - (intOf i).toNat)
        case atStart => exact ⟨0, Nat.zero_le _, rfl, rel0⟩
        case round =>
          clear rel0 e2
          obtain ⟨j, hj, rfl, rel⟩ := hrel
          have kX : Below w.heap.size w wr := k3.trans (rel.below.mono k3.size)
          have hGr := rel.lt
          have hlen : ((l.take j).map (exchI a b) ++ l.drop j).length = l.length := by rw [List.length_append, List.length_map, List.length_take, List.length_drop]; omega
          obtain ⟨L, hL⟩ : ∃ L, (l.take j).map (exchI a b) ++ l.drop j = L := ⟨_, rfl⟩
          rw [hL] at rel hlen
          have HL := Lib.hid hL
          have Hlen := Lib.hid hlen
          clear hL hlen
          obtain ⟨b0, b1, b2, bf⟩ := rel.cells
          by_cases hlt : j < l.length
          · obtain ⟨y, hy⟩ := getSome l j hlt
            obtain ⟨bb, off, rfl, hbb, c0⟩ := (hA.below kX (Nat.le_refl _)).int hy
            have hji : (j : Int) < (l.length : Int) := by omega
            have own := rel.own
            rw [Hlen.out] at own
            obtain ⟨g, rfl⟩ := own_form own (by omega)
            have f0 := own.frozenAt j
            obtain ⟨o0, ho⟩ := getSome (icells L) j (by rw [icells_length, Hlen.out]; exact hlt)
            have d0 := own.cellAt j (by omega)
            rw [ho] at d0
            obtain ⟨x, hx⟩ : ∃ x, exchI a b y = x := ⟨_, rfl⟩
            have hset : L.set j x = (l.take (j + 1)).map (exchI a b) ++ l.drop (j + 1) := by
              rw [← HL.out, List.set_append_right _ _ (by simp; omega), show j - ((l.take j).map (exchI a b)).length = 0 from by simp; omega, List.drop_eq_getElem_cons hlt, List.set_cons_zero, List.take_add_one, hy, List.map_append, List.append_assoc, ← hx]
              rfl
            have rel1 := fun u => rel.set Hlen.out.symm j u
            have Rel := Lib.hid rel
            have Rel1 := Lib.hid rel1
            have Hset := Lib.hid hset
            have hgG : g ≠ G := fun e => rel.ne (by rw [e]; rfl)
            have Hy := Lib.hid hy
            clear hy hset rel rel1 own ho
            by_cases e1 : y = a
            · by_cases e2 : y = b
              · have HC := Lib.hid (show x = a by rw [← hx]; unfold exchI; rw [if_pos e1, ← e2, e1])
                have q1 : (y == a) = true := by simp [e1]
                have q2 : (y == b) = true := by simp [e2]
                have rel2 := (Rel1.out b).set (by rw [List.length_set]; exact Hlen.out.symm) j a
                rw [List.set_set] at rel2
                have Rel2 := Lib.hid rel2
                clear hx e1 e2 rel2
                go_wp2
                go_roundw
                case rel => exact ⟨j + 1, by omega, by go_num, by rw [← Hset.out]; rw [HC.out]; exact Rel2.out⟩
                case measure => simp [intOf]; omega
              · have HC := Lib.hid (show x = b by rw [← hx]; unfold exchI; rw [if_pos e1])
                have q1 : (y == a) = true := by simp [e1]
                have q2 : (y == b) = false := by simp [e2]
                clear hx e1 e2
                go_wp2
                go_roundw
                case rel => exact ⟨j + 1, by omega, by go_num, by rw [← Hset.out]; rw [HC.out]; exact Rel1.out b⟩
                case measure => simp [intOf]; omega
            · by_cases e2 : y = b
              · have HC := Lib.hid (show x = a by rw [← hx]; unfold exchI; rw [if_neg e1, if_pos e2])
                have q1 : (y == a) = false := by simp [e1]
                have q2 : (y == b) = true := by simp [e2]
                clear hx e1 e2
                go_wp2
                go_roundw
                case rel => exact ⟨j + 1, by omega, by go_num, by rw [← Hset.out]; rw [HC.out]; exact Rel1.out a⟩
                case measure => simp [intOf]; omega
              · have HC := Lib.hid (show L.set j x = L by rw [show x = y by rw [← hx]; unfold exchI; rw [if_neg e1, if_neg e2]]; exact set_same (by rw [← HL.out]; exact mix_at Hy.out (by rw [List.length_map, List.length_take]; omega)))
                have q1 : (y == a) = false := by simp [e1]
                have q2 : (y == b) = false := by simp [e2]
                clear hx e1 e2
                go_wp2
                go_roundw
                case rel => exact ⟨j + 1, by omega, by go_num, by rw [← Hset.out]; rw [HC.out]; exact Rel.out⟩
                case measure => simp [intOf]; omega
          · have hjl : j = l.length := by omega
            subst hjl
            have hge : ¬ ((l.length : Int) < (l.length : Int)) := by omega
            have hLL := HL.out
            rw [List.take_length, List.drop_length, List.append_nil] at hLL
            subst hLL
            have gX := rel.below
            have gX4 : w.heap.size + 1 < wr.heap.size := by omega
            have r0 := carry gX X0 sR_3
            have r1 := carry gX X1 sR_3
            have r2 := carry gX X2 sR_3
            have f0 := (gX.frozen (p := ⟨w.heap.size + 1, 0, none⟩) sR_3).trans Z0
            have f1 := (gX.frozen (p := ⟨w.heap.size + 1, 1, none⟩) sR_3).trans Z1
            have f2 := (gX.frozen (p := ⟨w.heap.size + 1, 2, none⟩) sR_3).trans Z2
            have hne : ¬ G = w.heap.size + 1 := by omega
            have Rel := Lib.hid rel
            have hll : (l.map (exchI a b)).length = l.length := List.length_map _
            clear rel bf
            go_wp2
            refine bodyPost_ret (v := .tuple #[.agg #[.int .i64 p, .int .i64 k, .slice A4 l.length c4], .bool true]) (by simp [results, Try.results52, go_sem, r0, r1, r2]) rfl ?_
            refine ⟨A4, c4, by rw [hll], ?_, ((kX.setCell (p := ⟨w.heap.size + 1, 0, none⟩) (by simp) _).setCell (p := ⟨w.heap.size + 1, 1, none⟩) (by simp) _).setCell (p := ⟨w.heap.size + 1, 2, none⟩) (by simp) _⟩
            have ho := Rel.out.own
            rw [hll] at ho ⊢
            exact own_lower (ownsRow_setCell_below (ownsRow_setCell_below (ownsRow_setCell_below ho (a := ⟨w.heap.size + 1, 0, none⟩) sR_3 _) (a := ⟨w.heap.size + 1, 1, none⟩) sR_3 _) (a := ⟨w.heap.size + 1, 2, none⟩) sR_3 _) (by omega)

end Go.Proofs.Ytepoabbkalhifaa
