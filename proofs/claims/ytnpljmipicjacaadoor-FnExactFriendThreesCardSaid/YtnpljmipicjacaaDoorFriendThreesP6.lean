/-
  Texts put together for the claim of 'FriendThrees' (pack 6): GrowP, GrowS, Great.
-/
import Derived.Test.YtnpljmipicjacaaDoorFriendThreesP2
import Derived.Test.YtnpljmipicjacaaDoorFriendThreesP3
import Derived.Test.YtnpljmipicjacaaDoorFriendThreesP4
import Derived.Test.YtnpljmipicjacaaDoorFriendThreesP5
import Derived.Deep.RegionHeld3
/-
  A GROUP THAT GROWS, as plain lists: person by person, who is tied to all joins. Nothing here speaks of the program.
-/
namespace Go.Proofs.YtnpljmipicjacaaDoor
open Go.RowKit

theorem putI_mem {l : List Int} {x y : Int} : y ∈ putI l x ↔ y = x ∨ y ∈ l := by
  unfold putI
  have h : y ∈ l ↔ y ∈ l.take (putAt l x) ∨ y ∈ l.drop (putAt l x) := by rw [← List.mem_append, List.take_append_drop]
  simp only [List.mem_append, List.mem_singleton, h]
  constructor
  · rintro ((h | h) | h)
    · exact .inr (.inl h)
    · exact .inl h
    · exact .inr (.inr h)
  · rintro (h | h | h)
    · exact .inl (.inr h)
    · exact .inl (.inl h)
    · exact .inr h
theorem putI_length (l : List Int) (x : Int) : (putI l x).length = l.length + 1 := by
  have := putAt_le l x
  unfold putI
  simp only [List.length_append, List.length_take, List.length_drop, List.length_singleton]
  omega
theorem putI_up {l : List Int} {x : Int} (hl : l.Pairwise (· < ·)) (hx : x ∉ l) : (putI l x).Pairwise (· < ·) := by
  unfold putI
  have h1 : ∀ y ∈ l.take (putAt l x), y < x := by
    intro y hy
    obtain ⟨k, hk, e⟩ := List.getElem_of_mem hy
    rw [List.length_take] at hk
    rw [List.getElem_take] at e
    exact putAt_lt (l := l) (x := x) (k := k) (by omega) (by rw [List.getElem?_eq_getElem (by omega), e])
  have h2 : ∀ y ∈ l.drop (putAt l x), x < y := by
    intro y hy
    obtain ⟨k, hk, e⟩ := List.getElem_of_mem hy
    rw [List.length_drop] at hk
    rw [List.getElem_drop] at e
    have hlt : putAt l x < l.length := by omega
    have h0 := putAt_stop (l := l) (x := x) (y := l[putAt l x]) (List.getElem?_eq_getElem hlt)
    have hne : l[putAt l x] ≠ x := fun h => hx (h ▸ List.getElem_mem hlt)
    have hle : l[putAt l x] ≤ y := by
      rw [← e]
      by_cases hk0 : k = 0
      · subst hk0; simp
      · have := List.pairwise_iff_getElem.1 hl (putAt l x) (putAt l x + k) hlt (by omega) (by omega)
        omega
    omega
  refine List.pairwise_append.2 ⟨List.pairwise_append.2 ⟨hl.sublist (List.take_sublist _ _), by simp, fun y hy z hz => ?_⟩, hl.sublist (List.drop_sublist _ _), fun y hy z hz => ?_⟩
  · simp only [List.mem_singleton] at hz; subst hz; exact h1 y hy
  · rcases List.mem_append.1 hy with hy | hy
    · have := h1 y hy; have := h2 z hz; omega
    · simp only [List.mem_singleton] at hy; subst hy; exact h2 z hz
/-- a rising list of people -/
structure IsUp (n : Nat) (q : List Int) : Prop where
  up : q.Pairwise (· < ·)
  lt : ∀ x ∈ q, 0 ≤ x ∧ x < n
theorem IsUp.set {n : Nat} {q : List Int} (h : IsUp n q) (hn : n ≤ 16) {J : Nat} (hJ : ∀ b, J.testBit b = true ↔ (b : Int) ∈ q) : IsSet J (q.map Int.toNat) := by
  refine ⟨?_, fun b hb => ?_, fun b => ?_⟩
  · rw [List.pairwise_map]
    exact h.up.imp_of_mem fun {x y} hx hy hxy => by have := h.lt x hx; have := h.lt y hy; omega
  · obtain ⟨x, hx, rfl⟩ := List.mem_map.1 hb
    have := h.lt x hx
    omega
  · rw [hJ, List.mem_map]
    constructor
    · intro hb; exact ⟨b, hb, by simp⟩
    · rintro ⟨x, hx, rfl⟩
      have := h.lt x hx
      rwa [Int.toNat_of_nonneg this.1]
theorem IsUp.back {n : Nat} {q : List Int} (h : IsUp n q) : (q.map Int.toNat).map (fun b : Nat => (b : Int)) = q := by
  rw [List.map_map]
  conv => rhs; rw [← List.map_id q]
  exact List.map_congr_left fun x hx => by have := h.lt x hx; simp only [Function.comp_apply, id_eq]; omega
theorem IsUp.nodup {n : Nat} {q : List Int} (h : IsUp n q) : q.Nodup := h.up.imp fun {a b} hab => by omega
theorem IsUp.short {n : Nat} {q : List Int} (h : IsUp n q) : q.length ≤ n := by
  have h2 := List.Nodup.length_le_of_subset (l₁ := q) (l₂ := (List.range n).map fun b : Nat => (b : Int)) h.nodup (fun x hx => by
    have := h.lt x hx
    exact List.mem_map.2 ⟨x.toNat, List.mem_range.2 (by omega), by omega⟩)
  simpa using h2
theorem IsUp.put {n : Nat} {q : List Int} (h : IsUp n q) {a : Nat} (ha : a < n) (hq : (a : Int) ∉ q) : IsUp n (putI q a) :=
  ⟨putI_up h.up hq, fun x hx => by rcases putI_mem.1 hx with rfl | hx; omega; exact h.lt x hx⟩
/-- all of a list are tied to somebody -/
def knowsL (t : Nat → Nat → Bool) (q : List Int) (a : Nat) : Bool := q.all fun y => t a y.toNat
theorem knowsL_self {t : Nat → Nat → Bool} (ht : ∀ a, t a a = false) {q : List Int} {a : Nat} (h : knowsL t q a = true) : (a : Int) ∉ q := by
  intro hm
  have := List.all_eq_true.1 h _ hm
  simp [ht] at this
def growS (t : Nat → Nat → Bool) (q : List Int) (a : Nat) : List Int := if knowsL t q a then putI q a else q
def growI (t : Nat → Nat → Bool) (q : List Int) (k : Nat) : List Int := (List.range k).foldl (growS t) q
theorem growI_zero (t : Nat → Nat → Bool) (q : List Int) : growI t q 0 = q := rfl
theorem growI_succ (t : Nat → Nat → Bool) (q : List Int) (k : Nat) : growI t q (k + 1) = growS t (growI t q k) k := by simp [growI, List.range_succ, List.foldl_append]
theorem growI_up {t : Nat → Nat → Bool} (ht : ∀ a, t a a = false) {n : Nat} {q : List Int} (h : IsUp n q) : ∀ k, k ≤ n → IsUp n (growI t q k) := by
  intro k
  induction k with
  | zero => intro _; exact h
  | succ k ih =>
    intro hk
    have i := ih (by omega)
    rw [growI_succ]
    unfold growS
    split
    · rename_i hn
      exact i.put (by omega) (knowsL_self ht hn)
    · exact i
/-- a number's bits are those of a list of people -/
def BitsOf (J : Nat) (q : List Int) : Prop := J < 65536 ∧ ∀ b, J.testBit b = true ↔ (b : Int) ∈ q
theorem BitsOf.nil : BitsOf 0 [] := ⟨by omega, fun b => by simp⟩
theorem BitsOf.put {J : Nat} {q q' : List Int} (h : BitsOf J q) {a : Nat} (ha : a < 16) (hq : ∀ y, y ∈ q' ↔ y = (a : Int) ∨ y ∈ q) : BitsOf (J ||| 2 ^ a) q' := by
  refine ⟨or_lt h.1 ha, fun b => ?_⟩
  rw [Nat.testBit_or, Bool.or_eq_true, h.2 b, Nat.testBit_two_pow, decide_eq_true_eq, hq]
  constructor
  · rintro (h | h)
    · exact .inr h
    · exact .inl (by omega)
  · rintro (h | h)
    · exact .inr (by omega)
    · exact .inl h
theorem off_bit {T b : Nat} (hT : T < 65536) (hb : b < 16) : (65535 - T).testBit b = !T.testBit b := by
  have h := Nat.testBit_two_pow_sub_succ (x := T) (n := 16) (by simpa using hT) b
  have e : (2 : Nat) ^ 16 - (T + 1) = 65535 - T := by omega
  rw [e] at h
  rw [h]
  simp [hb]
/-- who is tied to all: no bit is left -/
theorem BitsOf.knows {J : Nat} {q : List Int} (h : BitsOf J q) {n : Nat} (hq : IsUp n q) (hn : n ≤ 16) {t : Nat → Nat → Bool} {T a : Nat} (hT : T < 65536) (hb : ∀ b, b < 16 → T.testBit b = t a b) :
    decide (J &&& (65535 - T) = 0) = knowsL t q a := by
  rw [Bool.eq_iff_iff, decide_eq_true_eq]
  unfold knowsL
  rw [List.all_eq_true]
  constructor
  · intro h0 y hy
    have hy0 := hq.lt y hy
    have h1 := (h.2 y.toNat).2 (by rwa [Int.toNat_of_nonneg hy0.1])
    have h2 : (J &&& (65535 - T)).testBit y.toNat = false := by rw [h0]; simp
    rw [Nat.testBit_and, h1, Bool.true_and, off_bit hT (by omega), hb _ (by omega)] at h2
    simpa using h2
  · intro hall
    refine Nat.eq_of_testBit_eq fun b => ?_
    rw [Nat.zero_testBit, Nat.testBit_and]
    cases e : J.testBit b with
    | false => rfl
    | true =>
      have hm := (h.2 b).1 e
      have h0 := hq.lt _ hm
      have h1 := hall _ hm
      rw [Int.toNat_natCast] at h1
      rw [off_bit hT (by omega), hb _ (by omega), h1]
      rfl
/-- a group is a rising list of people who are tied -/
theorem group_up {p : Int} {l : PL} {q : List Int} (h : isGroupI p l q = true) : IsUp p.toNat q := by
  have hc : isChoiceI p q = true := by
    cases e : isChoiceI p q with
    | true => rfl
    | false => rw [groups_not e] at h; cases h
  exact ⟨isChoiceI_sorted hc, fun x hx => by have := isChoiceI_mem hc x hx; omega⟩
def resGrowGroup (p : Int) (l : PL) (q : List Int) : List Int × Bool := if isP p l && isGroupI p l q then (growI (adj l) q p.toNat, true) else ([], false)
theorem resGrowGroup_len (p : Int) (l : PL) (q : List Int) : (resGrowGroup p l q).1.length ≤ 1048576 := by
  unfold resGrowGroup
  split
  · rename_i h
    simp only [Bool.and_eq_true] at h
    have hn := isP_range h.1
    have hp2 : isP (p.toNat : Int) l = true := by rw [Int.toNat_of_nonneg hn.1]; exact h.1
    have := (growI_up (t := adj l) (adj_self hp2) (group_up h.2) p.toNat (Nat.le_refl _)).short
    simp only
    omega
  · simp
end Go.Proofs.YtnpljmipicjacaaDoor
/-
  'GrowGroup' of the model, by its contract.
-/
namespace Go.Proofs.YtnpljmipicjacaaDoor
open Go.RowKit

theorem own_none {w : World} {B : Nat} {e : TypeId} {m c : Nat} {A : Option Addr} {xs : List Value} (h : w.ownsRow B e 1 (.slice A m c) m xs) : (A = none ∧ m = 0 ∧ c = 0) ∨ ∃ g, A = some ⟨g, 0, none⟩ := by
  rcases h.2 with ⟨h1, h2⟩ | ⟨g, cap, cur, hv, _⟩
  · simp only [Value.slice.injEq] at h1
    exact .inl ⟨h1.1, h2, h1.2.2⟩
  · simp only [Value.slice.injEq] at hv
    exact .inr ⟨g, hv.1⟩

theorem own_zero {w : World} {B : Nat} {e : TypeId} {m c : Nat} {A : Option Addr} {xs : List Value} (h : w.ownsRow B e 1 (.slice A m c) m xs) : A = none → c = 0 := by
  intro hA
  rcases own_none h with ⟨_, _, h3⟩ | ⟨g, h1⟩
  · exact h3
  · rw [hA] at h1; cases h1

set_option maxHeartbeats 2000000 in
set_option maxRecDepth 100000 in
theorem l1Rising_any (n : Nat) (q : List Int) (B : Option Addr) (d : Nat) (w : World) (hq : q.length ≤ 1048576) (hB : CRead w w.heap.size B (icells q)) :
    Calls Tryd.prog 65 #[.slice B q.length d, .int .i64 0, .int .i64 ((n : Int) - 1)] w fun e w' => e = .returned (.bool (isChoiceI n q)) ∧ w = w' := by
  obtain ⟨r, hr⟩ : ∃ r, isChoiceI n q = r := ⟨_, rfl⟩
  rw [hr]
  have Hr := Lib.hid hr
  clear hr
  go_enter Tryd.func65, Tryd.ntmps65
  go_wp2
  go_loop [11] (fun i => ∃ k : Nat, k ≤ q.length ∧ i = .int .i64 k ∧ ∀ j, j < k → choiceAt n q j = true) (fun i => q.length - (intOf i).toNat)
  case atStart => exact ⟨0, Nat.zero_le _, rfl, fun j hj => by omega⟩
  case round =>
    obtain ⟨k, hk, rfl, hg⟩ := hrel
    have Hg := Lib.hid hg
    clear hg
    by_cases hlt : k < q.length
    · obtain ⟨x, hx⟩ := getSome q k hlt
      obtain ⟨b, off, rfl, hbb, c0⟩ := hB.int hx
      have hki : (k : Int) < (q.length : Int) := by omega
      by_cases hman : 0 ≤ x ∧ x < n
      · have hin : l1InB x 0 ((n : Int) - 1) = true := decide_eq_true (by omega)
        by_cases hk0 : k = 0
        · have Hch := Lib.hid (choiceAt_zero (p := n) hk0 hx hman)
          have hkz : ¬ ((0 : Int) < (k : Int)) := by omega
          have Hk0 := Lib.hid hk0
          clear hx hman hk0
          go_wp2_with fail
          refine (l1In_any x 0 ((n : Int) - 1) _).mono ?_
          rw [hin]
          rintro e w5 ⟨rfl, rfl⟩
          go_wp2
          go_round
          case rel => exact ⟨k + 1, by omega, by go_num, fun j hj => by
                        have hk0 := Hk0.out
                        obtain rfl : j = k := by omega
                        exact Hch.out⟩
          case measure => simp [intOf]; omega
        · obtain ⟨y, hy⟩ := getSome q (k - 1) (by omega)
          obtain ⟨b', off', e', _, c1⟩ := hB.int hy
          simp only [Option.some.injEq, Addr.mk.injEq, and_true] at e'
          obtain ⟨rfl, rfl⟩ := e'
          have hkz : (0 : Int) < (k : Int) := by omega
          have hk1 : ((k : Int) - 1).toNat = k - 1 := by omega
          have hk2 : (0 : Int) ≤ (k : Int) - 1 := by omega
          have hk3 : (k : Int) - 1 < (q.length : Int) := by omega
          by_cases hl : y < x
          · have Hch := Lib.hid (choiceAt_later (p := n) (by omega) hy hx hman hl)
            have hnl : ¬ x ≤ y := by omega
            clear hx hy hman hk0
            go_wp2_with fail
            refine (l1In_any x 0 ((n : Int) - 1) _).mono ?_
            rw [hin]
            rintro e w5 ⟨rfl, rfl⟩
            go_wp2
            go_round
            case rel => exact ⟨k + 1, by omega, by go_num, fun j hj => by
                          by_cases e : j = k
                          · subst e; exact Hch.out
                          · exact Hg.out j (by omega)⟩
            case measure => simp [intOf]; omega
          · have Hch := Lib.hid (isChoiceI_no hlt (choiceAt_stale (p := n) (by omega) hy hx hl))
            have hnl : x ≤ y := by omega
            clear hx hy hman hk0 hl
            go_wp2_with fail
            refine (l1In_any x 0 ((n : Int) - 1) _).mono ?_
            rw [hin]
            rintro e w5 ⟨rfl, rfl⟩
            go_wp2
            go_ret
            exact ⟨by rw [← Hr.out, Hch.out]; rfl, rfl⟩
      · have hin : l1InB x 0 ((n : Int) - 1) = false := decide_eq_false (by omega)
        have Hch := Lib.hid (isChoiceI_no hlt (choiceAt_bad hx hman))
        clear hx hman
        go_wp2_with fail
        refine (l1In_any x 0 ((n : Int) - 1) _).mono ?_
        rw [hin]
        rintro e w5 ⟨rfl, rfl⟩
        go_wp2
        go_ret
        exact ⟨by rw [← Hr.out, Hch.out]; rfl, rfl⟩
    · have hkl : k = q.length := by omega
      have hge : ¬ ((k : Int) < (q.length : Int)) := by omega
      have He := Lib.hid (isChoiceI_of (p := n) (q := q) fun i hi => Hg.out i (by omega))
      go_wp2
      go_ret
      exact ⟨by rw [← Hr.out, He.out]; rfl, rfl⟩
set_option maxHeartbeats 4000000 in
set_option maxRecDepth 100000 in
theorem grIs_any (n : Nat) (l : PL) (A : Option Addr) (c : Nat) (G : Nat → Nat) (B0 : Nat) (q : List Int) (B : Option Addr) (d : Nat) (w : World) (hn : n ≤ 12) (tab : TabG w B0 (.slice A n c) n n G (adj l))
    (hc : isChoiceI n q = true) (hq : q.length ≤ 1048576) (hd : q.length ≤ d) (hB : CRead w w.heap.size B (icells q)) :
    Calls Tryd.prog 66 #[.slice A n c, .slice B q.length d] w fun e w' => e = .returned (.bool (isGroupI n l q)) ∧ w = w' := by
  have hmem := isChoiceI_mem hc
  obtain ⟨r, hr⟩ : ∃ r, isGroupI n l q = r := ⟨_, rfl⟩
  rw [hr]
  have Hr := Lib.hid hr
  have Hc := Lib.hid hc
  have Hmem := Lib.hid hmem
  clear hr hc hmem
  go_enter Tryd.func66, Tryd.ntmps66
  go_wp2
  go_loopw [11] (fun i wr => ∃ k : Nat, k ≤ q.length ∧ i = .int .i64 k ∧ w = wr ∧ ∀ j, j < k → groupAt n l q j = true) (fun i _ => q.length - (intOf i).toNat)
  case atStart => exact ⟨0, Nat.zero_le _, rfl, rfl, fun j hj => by omega⟩
  case round =>
    obtain ⟨k, hk, rfl, rfl, hg⟩ := hrel
    have Hg := Lib.hid hg
    clear hg
    by_cases hlt : k < q.length
    · obtain ⟨x, hx⟩ := getSome q k hlt
      have hx0 := Hmem.out x (List.mem_of_getElem? hx)
      obtain ⟨a, rfl⟩ : ∃ a : Nat, x = a := ⟨x.toNat, by omega⟩
      obtain ⟨b, off, rfl, hbb, u0⟩ := hB.int hx
      obtain ⟨g, rfl⟩ := own_form tab.own (by omega)
      have han : a < n := by omega
      have hai : (a : Int) < n := by omega
      have d0 := tab.outer han
      have hki : (k : Int) < (q.length : Int) := by omega
      have hkd : (k : Int) ≤ (d : Int) := by omega
      have hkd2 : k ≤ d := by omega
      have Hx := Lib.hid hx
      clear hx
      go_wp2
      go_loopw [20] (fun i wi => ∃ j : Nat, j ≤ k ∧ i = .int .i64 j ∧ w = wi ∧ ∀ (j' : Nat) (y : Int), j' < j → q[j']? = some y → adj l a y.toNat = true) (fun i _ => k - (intOf i).toNat)
      case atStart => exact ⟨0, Nat.zero_le _, rfl, rfl, fun j y hj => by omega⟩
      case round =>
        obtain ⟨j, hj, rfl, rfl, hall⟩ := hrel
        have Hall := Lib.hid hall
        clear hall
        by_cases hjt : j < k
        · obtain ⟨y, hy⟩ := getSome q j (by omega)
          have hy0 := Hmem.out y (List.mem_of_getElem? hy)
          obtain ⟨b2, rfl⟩ : ∃ b2 : Nat, y = b2 := ⟨y.toNat, by omega⟩
          obtain ⟨b', off', e', _, u1⟩ := hB.int hy
          simp only [Option.some.injEq, Addr.mk.injEq, and_true] at e'
          obtain ⟨rfl, rfl⟩ := e'
          have hji : (j : Int) < (k : Int) := by omega
          have hbi : (b2 : Int) < n := by omega
          have d1 := tab.cell han (show b2 < n by omega)
          have Hy := Lib.hid hy
          clear hy
          cases ht : adj l a b2 with
          | false =>
            rw [ht] at d1
            have hf : isGroupI n l q = false := isGroupI_no hlt (by
              unfold groupAt knowsI
              rw [Bool.and_eq_false_iff]
              right
              rw [List.all_eq_false]
              refine ⟨(b2 : Int), List.mem_of_getElem? (i := j) (by rw [List.getElem?_take, if_pos hjt]; exact Hy.out), ?_⟩
              rw [getD_is Hx.out]
              simp [ht])
            have Hf := Lib.hid hf
            clear ht hf
            go_wp2
            go_ret
            exact ⟨by rw [← Hr.out, Hf.out]; rfl, rfl⟩
          | true =>
            rw [ht] at d1
            have Ht := Lib.hid ht
            clear ht
            go_wp2
            go_roundw
            case rel =>
              refine ⟨j + 1, by omega, by go_num, trivial, fun j' z hj' hz => ?_⟩
              by_cases hjk : j' = j
              · subst hjk
                rw [Hy.out] at hz
                simp only [Option.some.injEq] at hz
                subst hz
                exact Ht.out
              · exact Hall.out j' z (by omega) hz
            case measure => simp [intOf]; omega
        · have hje : j = k := by omega
          subst hje
          have hge : ¬ ((j : Int) < (j : Int)) := by omega
          have hga : groupAt n l q j = true := by
            unfold groupAt knowsI
            rw [isChoiceI_good Hc.out hlt, Bool.true_and, List.all_eq_true]
            intro y hy
            obtain ⟨i, hi, e⟩ := List.getElem_of_mem hy
            rw [List.length_take] at hi
            rw [List.getElem_take] at e
            rw [getD_is Hx.out]
            exact Hall.out i y (by omega) (by rw [List.getElem?_eq_getElem (by omega), e])
          have Hga := Lib.hid hga
          clear hga
          go_wp2
          go_roundw
          case rel =>
            refine ⟨j + 1, by omega, by go_num, trivial, fun i hi => ?_⟩
            by_cases e : i = j
            · subst e; exact Hga.out
            · exact Hg.out i (by omega)
          case measure => simp [intOf]; omega
    · have hkl : k = q.length := by omega
      have hge : ¬ ((k : Int) < (q.length : Int)) := by omega
      have He := Lib.hid (isGroupI_of (p := n) (l := l) (q := q) fun i hi => Hg.out i (by omega))
      go_wp2
      go_ret
      exact ⟨by rw [← Hr.out, He.out]; rfl, rfl⟩
set_option maxHeartbeats 4000000 in
set_option maxRecDepth 100000 in
theorem grGroup_any (p : Int) (l : PL) (A : Option Addr) (c : Nat) (q : List Int) (B : Option Addr) (d : Nat) (w : World) (hl : l.length ≤ 1048576) (hA : CRead w w.heap.size A (pcells l)) (hq : q.length ≤ 1048576) (hB : CRead w w.heap.size B (icells q)) (hd : q.length ≤ d) :
    Calls Tryd.prog 36 #[.agg #[.int .i64 p, .slice A l.length c], .slice B q.length d] w fun e w' => e = .returned (.bool (isP p l && isGroupI p l q)) ∧ Below w.heap.size w w' := by
  have RA : CRead (w.alloc (Obj.cells #[.int .i64 p, .slice A l.length c] 31)) (w.alloc (Obj.cells #[.int .i64 p, .slice A l.length c] 31)).heap.size A (pcells l) := (hA.below (B' := w.heap.size) (by go_grown) (Nat.le_refl _)).more (by go_size)
  cases hp : isP p l with
  | false =>
    have Hp := Lib.hid hp
    clear hp
    go_enter Tryd.func36, Tryd.ntmps36
    go_wp2_with fail
    refine (paGood_any _ _ _ _ _ hl RA).mono ?_
    rw [Hp.out]
    rintro e w2 ⟨rfl, hb2⟩
    simp only [World.size_alloc] at hb2
    go_wp2
    go_ret
    exact ⟨rfl, Below.trans (b := _) (by go_grown) (hb2.mono (by omega))⟩
  | true =>
    have hn := isP_range hp
    obtain ⟨n, rfl⟩ : ∃ n : Nat, p = n := ⟨p.toNat, by omega⟩
    have hn12 : n ≤ 12 := by omega
    have Hp := Lib.hid hp
    clear hp
    cases hc : isChoiceI n q with
    | false =>
      have hg : isGroupI n l q = false := groups_not hc
      rw [hg]
      have Hc := Lib.hid hc
      clear hc hg
      go_enter Tryd.func36, Tryd.ntmps36
      go_wp2_with fail
      refine (paGood_any _ _ _ _ _ hl RA).mono ?_
      rw [Hp.out]
      rintro e w2 ⟨rfl, hb2⟩
      simp only [World.size_alloc] at hb2
      have a0 : w2.cell? ⟨w.heap.size, 0, none⟩ = some (.int .i64 n) := carry hb2 (by simp) (by omega)
      have k2 : Below w.heap.size w w2 := Below.trans (b := _) (by go_grown) (hb2.mono (by omega))
      go_wp2_with fail
      refine (l1Rising_any n q B d _ hq ((hB.below k2 (Nat.le_refl _)).more k2.size)).mono ?_
      rw [Hc.out]
      rintro e w3 ⟨rfl, rfl⟩
      go_wp2
      go_ret
      exact ⟨rfl, k2⟩
    | true =>
      have Hc := Lib.hid hc
      clear hc
      obtain ⟨r, hr⟩ : ∃ r, isGroupI n l q = r := ⟨_, rfl⟩
      rw [hr]
      have Hr := Lib.hid hr
      clear hr
      go_enter Tryd.func36, Tryd.ntmps36
      go_wp2_with fail
      refine (paGood_any _ _ _ _ _ hl RA).mono ?_
      rw [Hp.out]
      rintro e w2 ⟨rfl, hb2⟩
      simp only [World.size_alloc] at hb2
      have a0 : w2.cell? ⟨w.heap.size, 0, none⟩ = some (.int .i64 n) := carry hb2 (by simp) (by omega)
      have a1 : w2.cell? ⟨w.heap.size, 1, none⟩ = some (.slice A l.length c) := carry hb2 (by simp) (by omega)
      have k2 : Below w.heap.size w w2 := Below.trans (b := _) (by go_grown) (hb2.mono (by omega))
      go_wp2_with fail
      refine (l1Rising_any n q B d _ hq ((hB.below k2 (Nat.le_refl _)).more k2.size)).mono ?_
      rw [Hc.out]
      rintro e w3 ⟨rfl, rfl⟩
      go_wp2_with fail
      refine (paTable_any _ _ _ _ _ Hp.out ((hA.below k2 (Nat.le_refl _)).more k2.size)).mono ?_
      rintro e w4 ⟨A4, c4, G, rfl, tab, hb4⟩
      simp only [Int.toNat_natCast] at tab ⊢
      have k4 := k2.trans (hb4.mono k2.size)
      have g := grIs_any n l A4 c4 G _ q B d w4 hn12 tab Hc.out hq hd ((hB.below k4 (Nat.le_refl _)).more k4.size)
      rw [Hr.out] at g
      have Gg := Lib.hid g
      clear g
      go_wp2_with fail
      refine Gg.out.mono ?_
      rintro e w5 ⟨rfl, rfl⟩
      go_wp2
      go_ret
      exact ⟨rfl, k4⟩
set_option maxHeartbeats 4000000 in
set_option maxRecDepth 100000 in
theorem l1Own_row (q : List Int) (A : Option Addr) (c : Nat) (w : World) (hq : q.length ≤ 1048576) (hA : CRead w w.heap.size A (icells q)) (h0 : A = none → c = 0) :
    Calls Tryd.prog 38 #[.slice A q.length c] w fun e w' => ∃ A' c', e = .returned (.slice A' q.length c') ∧ w'.ownsRow w.heap.size 3 1 (.slice A' q.length c') q.length (icells q) ∧ Below w.heap.size w w' := by
  by_cases hz : q = []
  · cases A with
    | none => exact l1Own_all q none c w hq hA fun _ => ⟨rfl, h0 rfl⟩
    | some ad =>
      subst hz
      obtain ⟨i0, hi, hz0, hz1, hz2⟩ := info_parts Tryd.infoInt
      have h1 : (w.alloc (.cells #[] 3)).ownsRow w.heap.size 3 1 (.slice (some ⟨w.heap.size, 0, none⟩) 0 0) 0 [] := World.ownsRow_made w #[] 0 (Nat.le_refl _) (Nat.zero_le _) rfl
      go_enter Tryd.func38, Tryd.ntmps38
      go_wp2_with (at_builtin; refine wpList_append_own _ rfl _ _ 25 rfl w.heap.size 3 i0 _ 1 8 Tryd.underlying25 hi hz0 hz1 hz2 rfl (by decide) (.slice (some ⟨w.heap.size, 0, none⟩) 0 0) 0 [] rfl h1 ad 0 c [] rfl rfl (fun j u hj => by simp at hj) (by simp) (by unfold maxLen; omega) (by omega) (by simp) ?_; intro v1 w1 own1 gr1 _; have k1 : Below w.heap.size w w1 := ((Below.refl _ w).alloc (Nat.le_refl _) _).grown gr1 (by simp) (by intro m hm; simp [Value.ownBlock] at hm; omega); obtain ⟨A1, c1, rfl, _⟩ := own_shape own1)
      go_ret
      exact ⟨A1, c1, rfl, own1, k1⟩
  · exact l1Own_all q A c w hq hA fun e => absurd e hz
set_option maxHeartbeats 4000000 in
set_option maxRecDepth 100000 in
theorem specGrowGroup_any (p : Int) (l : PL) (A : Option Addr) (c : Nat) (q : List Int) (B : Option Addr) (d : Nat) (w : World) (hl : l.length ≤ 1048576) (hA : CRead w w.heap.size A (pcells l)) (hq : q.length ≤ 1048576) (hB : CRead w w.heap.size B (icells q)) (hd : q.length ≤ d) (hz : B = none → d = 0) :
    Calls Tryd.prog 11 #[.agg #[.int .i64 p, .slice A l.length c], .slice B q.length d] w (GotIntsOk w (resGrowGroup p l q).1 (resGrowGroup p l q).2) := by
  have RA : CRead (w.alloc (Obj.cells #[.int .i64 p, .slice A l.length c] 31)) (w.alloc (Obj.cells #[.int .i64 p, .slice A l.length c] 31)).heap.size A (pcells l) := (hA.below (B' := w.heap.size) (by go_grown) (Nat.le_refl _)).more (by go_size)
  have RB : CRead (w.alloc (Obj.cells #[.int .i64 p, .slice A l.length c] 31)) (w.alloc (Obj.cells #[.int .i64 p, .slice A l.length c] 31)).heap.size B (icells q) := (hB.below (B' := w.heap.size) (by go_grown) (Nat.le_refl _)).more (by go_size)
  cases hg : (isP p l && isGroupI p l q) with
  | false =>
    have e : resGrowGroup p l q = ([], false) := by simp [resGrowGroup, hg]
    rw [e]
    have Hg := Lib.hid hg
    clear hg e
    go_enter Tryd.func11, Tryd.ntmps11
    go_wp2_with fail
    refine (grGroup_any _ _ _ _ _ _ _ _ hl RA hq RB hd).mono ?_
    rw [Hg.out]
    rintro e w2 ⟨rfl, hb2⟩
    simp only [World.size_alloc] at hb2
    go_wp2
    go_ret2
    exact ⟨none, 0, rfl, World.ownsRow_nil _ _ _ _, Below.trans (b := _) (by go_grown) (hb2.mono (by omega))⟩
  | true =>
    have hg2 := hg
    rw [Bool.and_eq_true] at hg2
    obtain ⟨hp, hgr⟩ := hg2
    have hn := isP_range hp
    obtain ⟨n, rfl⟩ : ∃ n : Nat, p = n := ⟨p.toNat, by omega⟩
    have hn12 : n ≤ 12 := by omega
    have hup := group_up hgr
    rw [Int.toNat_natCast] at hup
    have hself := adj_self hp
    have hups := growI_up hself hup
    have e : resGrowGroup n l q = (growI (adj l) q n, true) := by simp [resGrowGroup, hg]
    rw [e]
    have hshort := hup.short
    have Hp := Lib.hid hp
    have Hg := Lib.hid hg
    have Hups := Lib.hid hups
    have Hself := Lib.hid hself
    clear hp hg e hgr hups hup hself
    go_enter Tryd.func11, Tryd.ntmps11
    go_wp2_with fail
    refine (grGroup_any _ _ _ _ _ _ _ _ hl RA hq RB hd).mono ?_
    rw [Hg.out]
    rintro e w2 ⟨rfl, hb2⟩
    simp only [World.size_alloc] at hb2
    have a0 : w2.cell? ⟨w.heap.size, 0, none⟩ = some (.int .i64 n) := carry hb2 (by simp) (by omega)
    have a1 : w2.cell? ⟨w.heap.size, 1, none⟩ = some (.slice A l.length c) := carry hb2 (by simp) (by omega)
    have k2 : Below w.heap.size w w2 := Below.trans (b := _) (by go_grown) (hb2.mono (by omega))
    go_wp2_with fail
    refine (paTable_any _ _ _ _ _ Hp.out ((hA.below k2 (Nat.le_refl _)).more k2.size)).mono ?_
    rintro e w3 ⟨A3, c3, G, rfl, tab, hb3⟩
    simp only [Int.toNat_natCast] at tab ⊢
    have k3 := k2.trans (hb3.mono k2.size)
    go_wp2_with fail
    refine (l1Own_row q B d _ hq ((hB.below k3 (Nat.le_refl _)).more k3.size) hz).mono ?_
    rintro e w4 ⟨A4, c4, rfl, own4, hb4⟩
    have k4 := k3.trans (hb4.mono k3.size)
    have tab4 := tab.below hb4 (Nat.le_refl _)
    have own4' := own_lower own4 k3.size
    have K4 := Lib.hid k4
    have Tab := Lib.hid tab4
    have Own4 := Lib.hid own4'
    clear a0 a1 hb2 hb3 hb4 tab own4 own4' tab4 k2 k3 k4
    go_wp2
    go_loopw [7, 19] (fun v i wr => ∃ (a : Nat) (A' : Option Addr) (c' m : Nat), a ≤ n ∧ i = .int .i64 a ∧ m = (growI (adj l) q a).length ∧ v = .slice A' m c' ∧ wr.ownsRow w.heap.size 3 1 (.slice A' m c') m (icells (growI (adj l) q a)) ∧ Below w4.heap.size w4 wr) (fun _ i _ => n - (intOf i).toNat)
    case atStart => exact ⟨0, A4, c4, q.length, Nat.zero_le _, by go_num, by rw [growI_zero], rfl, by rw [growI_zero]; exact Own4.out, Below.refl _ _⟩
    case round =>
      clear Own4
      obtain ⟨a, A', c', m, han, rfl, hm, rfl, own, hb⟩ := hrel
      have s0 := hb.size
      have hsh := (Hups.out a (by omega)).short
      by_cases hlt : a < n
      · have hai : (a : Int) < n := by omega
        have hnx := growI_succ (adj l) q a
        obtain ⟨o, ho⟩ : ∃ o, growI (adj l) q a = o := ⟨_, rfl⟩
        have hupo := Hups.out a (by omega)
        rw [ho] at hm own hsh hupo hnx
        subst hm
        have Hnx := Lib.hid hnx
        have Own := Lib.hid own
        have Hb := Lib.hid hb
        have Hupo := Lib.hid hupo
        clear hnx own hb hupo ho
        go_wp2_with fail
        refine (l1Has_any o (a : Int) A' c' _ (by omega) (CRead.of_own Own.out)).mono ?_
        rintro e w5 ⟨rfl, rfl⟩
        have hj := fun (hB : CRead wr wr.heap.size A' (icells o)) => grJoins_any n a (adj l) A3 c3 G _ o A' c' wr hn12 hlt (Tab.out.below Hb.out (Nat.le_refl _)) Hupo.out.lt (by omega) hB
        have Hj := Lib.hid hj
        clear hj
        cases hh : hasI o (a : Int) with
        | true =>
          have hkn : knowsL (adj l) o a = false := by
            cases e : knowsL (adj l) o a with
            | false => rfl
            | true => exact absurd (hasI_mem.1 hh) (knowsL_self Hself.out e)
          have Hst := Lib.hid (show growI (adj l) q (a + 1) = o by rw [Hnx.out]; unfold growS; rw [hkn]; rfl)
          clear hh hkn
          go_wp2
          go_roundw
          case rel => exact ⟨a + 1, A', c', o.length, by omega, by go_num, by rw [Hst.out], rfl, by rw [Hst.out]; exact Own.out, Hb.out⟩
          case measure => simp [intOf]; omega
        | false =>
          have hnm : (a : Int) ∉ o := fun hm => by rw [hasI_mem.2 hm] at hh; cases hh
          have Hnm := Lib.hid hnm
          clear hh hnm
          go_wp2_with fail
          refine (Hj.out (CRead.of_own Own.out)).mono ?_
          cases hkn : (o.all fun y => adj l a y.toNat) with
          | false =>
            have Hst := Lib.hid (show growI (adj l) q (a + 1) = o by rw [Hnx.out]; unfold growS knowsL; rw [hkn]; rfl)
            clear hkn
            rintro e w6 ⟨rfl, rfl⟩
            go_wp2
            go_roundw
            case rel => exact ⟨a + 1, A', c', o.length, by omega, by go_num, by rw [Hst.out], rfl, by rw [Hst.out]; exact Own.out, Hb.out⟩
            case measure => simp [intOf]; omega
          | true =>
            have Hst := Lib.hid (show growI (adj l) q (a + 1) = putI o (a : Int) by rw [Hnx.out]; unfold growS knowsL; rw [hkn]; rfl)
            have Hln := Lib.hid (putI_length o (a : Int))
            clear hkn
            rintro e w6 ⟨rfl, rfl⟩
            rcases own_none Own.out with ⟨rfl, hm0, rfl⟩ | ⟨g, rfl⟩
            · have ho0 : o = [] := List.length_eq_zero_iff.1 hm0
              have call := l1Put_nil (a : Int) wr
              rw [show ([(a : Int)] : List Int) = putI o (a : Int) by rw [ho0]; rfl] at call
              have Call := Lib.hid call
              have Hm0 := Lib.hid hm0
              clear call ho0
              rw [hm0]
              clear hm0
              go_wp2_with fail
              refine Call.out.mono ?_
              rintro e w7 ⟨A7, c7, rfl, own7, hb7⟩
              have own7' := own_lower own7 (show w.heap.size ≤ wr.heap.size by have := K4.out.size; omega)
              have b7 := Hb.out.trans (hb7.mono s0)
              clear own7
              go_wp2
              go_roundw
              case rel => exact ⟨a + 1, A7, c7, 1, by omega, by go_num, by rw [Hst.out, Hln.out, Hm0.out], rfl, by rw [Hst.out]; exact own7', b7⟩
              case measure => simp [intOf]; omega
            · have call := l1Put_any o (a : Int) g c' wr (by omega) (own_cap Own.out) Hnm.out (CRead.of_own Own.out) (own_lt Own.out).2
              have Call := Lib.hid call
              clear call
              go_wp2_with fail
              refine Call.out.mono ?_
              rintro e w7 ⟨A7, c7, rfl, own7, hb7⟩
              have own7' := own_lower own7 (show w.heap.size ≤ wr.heap.size by have := K4.out.size; omega)
              have b7 := Hb.out.trans (hb7.mono s0)
              clear own7
              go_wp2
              go_roundw
              case rel => exact ⟨a + 1, A7, c7, o.length + 1, by omega, by go_num, by rw [Hst.out, Hln.out], rfl, by rw [Hst.out]; exact own7', b7⟩
              case measure => simp [intOf]; omega
      · have hae : a = n := by omega
        subst hae
        have hge : ¬ ((a : Int) < a) := by omega
        have kk := K4.out.trans (hb.mono K4.out.size)
        have Own := Lib.hid own
        clear own hb
        subst hm
        go_wp2
        go_ret2
        exact ⟨A', c', rfl, Own.out, kk⟩
end Go.Proofs.YtnpljmipicjacaaDoor
/-
  'GreatestGroup', 'GreatestStrange': the model's and the program's, by their contracts. The program leaves a range over a function in a loop: every pass leaves a mark among the deferred calls.
-/
namespace Go.Proofs.YtnpljmipicjacaaDoor
open Go.RowKit Go.Shelf
attribute [local go_sem] Oper.semAt_some

/-- the first one of the lists of so many people, or of fewer -/
def firstG (t : Nat → Nat → Bool) (n : Nat) : Nat → List Int
  | 0 => []
  | s + 1 => match listsC t (s + 1) [] (List.range n) with | [] => firstG t n s | q :: _ => q
theorem firstG_none {t : Nat → Nat → Bool} {n s : Nat} (h : listsC t (s + 1) [] (List.range n) = []) : firstG t n (s + 1) = firstG t n s := by unfold firstG; rw [h]; cases s <;> rfl
theorem firstG_some {t : Nat → Nat → Bool} {n s : Nat} {q : List Int} {L : List (List Int)} (h : listsC t (s + 1) [] (List.range n) = q :: L) : firstG t n (s + 1) = q := by unfold firstG; rw [h]
theorem firstG_congr {t t' : Nat → Nat → Bool} {n : Nat} (h : ∀ k, listsC t k [] (List.range n) = listsC t' k [] (List.range n)) : ∀ s, firstG t n s = firstG t' n s := by
  intro s
  induction s with
  | zero => rfl
  | succ s ih =>
    unfold firstG
    rw [h, ih]
theorem firstG_len (t : Nat → Nat → Bool) (n : Nat) : ∀ s, (firstG t n s).length ≤ s := by
  intro s
  induction s with
  | zero => exact Nat.le_refl _
  | succ s ih =>
    cases e : listsC t (s + 1) [] (List.range n) with
    | nil => rw [firstG_none e]; omega
    | cons q L =>
      rw [firstG_some e]
      have := listsC_size t (s + 1) [] (List.range n) q (by rw [e]; simp)
      simp at this
      omega
def resGreatestGroup (p : Int) (l : PL) : List Int × Bool := if isP p l then (firstG (adj l) p.toNat p.toNat, true) else ([], false)
theorem resGreatestGroup_len (p : Int) (l : PL) : (resGreatestGroup p l).1.length ≤ 1048576 := by
  unfold resGreatestGroup
  split
  · rename_i h
    have h1 := isP_range h
    have h2 := firstG_len (adj l) p.toNat p.toNat
    simp only
    omega
  · simp
def resGreatestStrange (p : Int) (l : PL) : List Int × Bool := if isP p l then (firstG (strangeF p.toNat (adj l)) p.toNat p.toNat, true) else ([], false)
theorem resGreatestStrange_len (p : Int) (l : PL) : (resGreatestStrange p l).1.length ≤ 1048576 := by
  unfold resGreatestStrange
  split
  · rename_i h
    have h1 := isP_range h
    have h2 := firstG_len (strangeF p.toNat (adj l)) p.toNat p.toNat
    simp only
    omega
  · simp

/-! ## Marks among the deferred calls -/
def isMark (D : List Deferred) (j : Nat) : Prop := ∃ d ∈ D, d.target = .collected j
structure Marks (D : List Deferred) (W : World) : Prop where
  at_ : ∀ d ∈ D, ∃ b, d = { target := .collected b, args := #[] } ∧ W.heap[b]? = some (.deferred (some []))
  ne : D.Pairwise fun d e => d.target ≠ e.target
theorem Marks.nil (W : World) : Marks [] W := ⟨fun _ h => (by cases h), List.Pairwise.nil⟩
theorem Marks.block {D : List Deferred} {W : World} (h : Marks D W) {j : Nat} (hj : isMark D j) : W.heap[j]? = some (.deferred (some [])) := by
  obtain ⟨d, hd, ht⟩ := hj
  obtain ⟨b, rfl, hb⟩ := h.at_ d hd
  simp only [Target.collected.injEq] at ht
  subst ht
  exact hb
theorem Marks.below {D : List Deferred} {W W' : World} (h : Marks D W) (hb : Below W.heap.size W W') : Marks D W' := by
  refine ⟨fun d hd => ?_, h.ne⟩
  obtain ⟨b, e, hh⟩ := h.at_ d hd
  exact ⟨b, e, (hb.block b (Array.getElem?_eq_some_iff.1 hh).1).trans hh⟩
theorem Marks.same {D : List Deferred} {W W' : World} (h : Marks D W) (hs : ∀ j, isMark D j → W'.heap[j]? = W.heap[j]?) : Marks D W' := by
  refine ⟨fun d hd => ?_, h.ne⟩
  obtain ⟨b, e, hh⟩ := h.at_ d hd
  exact ⟨b, e, (hs b ⟨d, hd, by rw [e]⟩).trans hh⟩
theorem Marks.cons {D : List Deferred} {W : World} {b : Nat} (h : Marks D W) (hb : W.heap[b]? = some (.deferred (some []))) (hn : ∀ j, isMark D j → j ≠ b) : Marks ({ target := .collected b, args := #[] } :: D) W := by
  refine ⟨fun d hd => ?_, List.pairwise_cons.2 ⟨fun d hd e => ?_, h.ne⟩⟩
  · rcases List.mem_cons.1 hd with rfl | hd
    · exact ⟨b, rfl, hb⟩
    · exact h.at_ d hd
  · obtain ⟨b', rfl, _⟩ := h.at_ d hd
    simp only [Target.collected.injEq] at e
    exact hn b' ⟨_, hd, rfl⟩ e.symm
theorem leaves_marks {P : Program} {n : Nat} {fn : Func} {tmps : Array Value} {R : Ending → World → Prop} : ∀ (D : List Deferred) (W : World), Marks D W →
    (∀ W', Apart (isMark D) W W' → ∃ v, (results fn tmps).run P W' = .ok v W' ∧ R (.returned v) W') → LeavesInM Fence.wide n P fn tmps R D .returning W := by
  intro D
  induction D with
  | nil => exact fun W _ h => h W (Apart.refl _ _)
  | cons d ds ih =>
    intro W hm h
    obtain ⟨b, rfl, hb⟩ := hm.at_ d List.mem_cons_self
    have hne := (List.pairwise_cons.1 hm.ne).1
    refine ⟨by simp, .inl ⟨b, _, rfl, run_takeDeferred hb, ih _ ⟨fun e he => ?_, (List.pairwise_cons.1 hm.ne).2⟩ fun W' ha => h W' ?_⟩⟩
    · obtain ⟨b', rfl, hb'⟩ := hm.at_ e (List.mem_cons_of_mem _ he)
      have := hne _ he
      simp only [ne_eq, Target.collected.injEq] at this
      exact ⟨b', rfl, (World.putObj_heap_other fun e => this e.symm).trans hb'⟩
    · refine ((Apart.putObj W b _).mono fun j hj => ?_).trans ha fun j hj => .inl ?_
      · exact ⟨_, List.mem_cons_self, by rw [hj]⟩
      · obtain ⟨d, hd, ht⟩ := hj
        exact ⟨d, List.mem_cons_of_mem _ hd, ht⟩
theorem own_at {w w' : World} {B : Nat} {e : TypeId} {s n : Nat} {v : Value} {xs : List Value} (h : w.ownsRow B e s v n xs) (hs : ∀ (k : Nat) (c : Array Value) (t : TypeId) (f : Nat × Nat), w.heap[k]? = some (.cells c t f) → w'.heap[k]? = w.heap[k]?) : w'.ownsRow B e s v n xs := by
  obtain ⟨h1, h2⟩ := h
  rcases h2 with ⟨hv, h0⟩ | ⟨g, cap, cur, hv, hb, hg, hrest⟩
  · exact ⟨h1, .inl ⟨hv, h0⟩⟩
  · exact ⟨h1, .inr ⟨g, cap, cur, hv, hb, (hs g _ _ _ hg).trans hg, hrest⟩⟩
theorem Marks.rows {D : List Deferred} {W W' : World} (h : Marks D W) (ha : Apart (isMark D) W W') (k : Nat) (c : Array Value) (t : TypeId) (f : Nat × Nat) (hk : W.heap[k]? = some (.cells c t f)) : W'.heap[k]? = W.heap[k]? := by
  refine ha.same k (Array.getElem?_eq_some_iff.1 hk).1 fun hm => ?_
  rw [h.block hm] at hk
  cases hk

set_option maxHeartbeats 4000000 in
set_option maxRecDepth 100000 in
theorem trGreatest_any (n : Nat) (l : PL) (A : Option Addr) (c : Nat) (w : World) (hp : isP n l = true) (hA : CRead w w.heap.size A (pcells l)) :
    Calls Tryd.prog 60 #[.agg #[.int .i64 n, .slice A l.length c]] w fun e w' => ∃ A' c', e = .returned (.slice A' (firstG (adj l) n n).length c') ∧ w'.ownsRow w.heap.size 3 1 (.slice A' (firstG (adj l) n n).length c') (firstG (adj l) n n).length (icells (firstG (adj l) n n)) ∧ Below w.heap.size w w' := by
  have hn := isP_range hp
  have Hp := Lib.hid hp
  clear hp
  have hstep := fun s L q (h : listsC (adj l) (s + 1) [] (List.range n) = q :: L) => firstG_some h
  have hno := fun s (h : listsC (adj l) (s + 1) [] (List.range n) = []) => firstG_none h
  have hsz := fun k l3 h3 => listsC_size (adj l) k [] (List.range n) l3 h3
  obtain ⟨F, hF⟩ : ∃ F, firstG (adj l) n = F := ⟨_, rfl⟩
  have hF0 : F 0 = [] := by rw [← hF]; rfl
  simp only [hF] at hstep hno ⊢
  obtain ⟨R, hR⟩ : ∃ R, F n = R := ⟨_, rfl⟩
  rw [hR]
  have Hstep := Lib.hid hstep
  have Hno := Lib.hid hno
  have Hsz := Lib.hid hsz
  have HF0 := Lib.hid hF0
  have HR := Lib.hid hR
  clear hstep hno hsz hF hF0 hR
  go_enter Tryd.func60, Tryd.ntmps60
  go_wp2_with fail
  refine (paTable_any _ _ _ _ _ Hp.out ((hA.below (B' := w.heap.size) (by go_grown) (Nat.le_refl _)).more (by go_size))).mono ?_
  simp only [Int.toNat_natCast]
  rintro e w1 ⟨A1, k1, G, rfl, tab1, hb1⟩
  simp only [World.size_alloc] at hb1 tab1
  have s1 := hb1.size
  simp only [World.size_alloc] at s1
  have kw : Below w.heap.size w w1 := Below.trans (b := _) (by go_grown) (hb1.mono (by omega))
  have c0 : w1.cell? ⟨w.heap.size, 0, none⟩ = some (.int .i64 n) := carry hb1 (by simp) (by omega)
  have Tab := Lib.hid tab1
  have Kw := Lib.hid kw
  clear tab1 kw hb1 hA
  go_wp2
  clear c0
  go_loopw [4] (fun i wr => ∃ s : Nat, s ≤ n ∧ i = .int .i64 s ∧ F s = R ∧ Below w1.heap.size w1 wr) (fun i _ => (intOf i).toNat)
  case atStart => exact ⟨n, Nat.le_refl _, rfl, HR.out, Below.refl _ _⟩
  case round =>
    obtain ⟨s, hs, rfl, hFs, hb⟩ := hrel
    have s0 := hb.size
    cases s with
    | zero =>
      rw [HF0.out] at hFs
      have kk := Kw.out.trans (hb.mono Kw.out.size)
      subst hFs
      have hge : ¬ ((0 : Int) < 0) := by omega
      go_wp2
      go_ret
      exact ⟨none, 0, rfl, World.ownsRow_nil _ _ _ _, kk⟩
    | succ s =>
      have g := trGroups_any n (by omega) (adj l) (adj_comm l) A1 k1 G _ (s + 1) [] none 0 wr (Tab.out.below hb (Nat.le_refl _)) (by simp) (by simp; omega) CRead.nil (fun _ => ⟨rfl, rfl⟩)
      rw [show fromQ [] = 0 from rfl, candR_all] at g
      simp only [List.length_nil, Nat.zero_add] at g
      obtain ⟨LL, hLL⟩ : ∃ LL, listsC (adj l) (s + 1) [] (List.range n) = LL := ⟨_, rfl⟩
      have hsz := Hsz.out (s + 1)
      rw [hLL] at g
      simp only [hLL] at hsz
      obtain ⟨z, hz⟩ : ∃ z : Int, ((s + 1 : Nat) : Int) = z := ⟨_, rfl⟩
      have hz0 : (0 : Int) < z := by omega
      have hz1 : z ≤ 13 := by omega
      rw [hz] at g ⊢
      have Hz := Lib.hid hz
      have Gg := Lib.hid g
      have HFs := Lib.hid hFs
      clear g hz hFs
      cases LL with
      | nil =>
        have Hn := Lib.hid (Hno.out s hLL)
        clear hLL hsz
        go_wp2_with fail
        refine Gg.out.mono ?_
        rintro e w4 ⟨A4, c4, hs4, rfl, rows, hb4⟩
        have b4 := hb.trans (hb4.mono s0)
        clear Gg rows
        go_wp2
        go_roundw
        case rel => exact ⟨s, by omega, by have := Hz.out; congr 1; omega, by rw [← Hn.out]; exact HFs.out, b4⟩
        case measure => simp [intOf]; have := Hz.out; omega
      | cons q L =>
        have Hq := Lib.hid (Hstep.out s L q hLL)
        have hq13 := hsz q (by simp)
        clear hLL hsz
        go_wp2_with fail
        refine Gg.out.mono ?_
        rintro e w4 ⟨A4, c4, hs4, rfl, rows, hb4⟩
        have b4 := hb.trans (hb4.mono s0)
        obtain ⟨Aj, cj, hj', ownj⟩ := rows.row 0 q rfl
        obtain ⟨b, off, rfl, hbb, cc⟩ := (CRead.of_own rows.own) 0 _ hj'
        have hpos : (0 : Int) < ((L.length + 1 : Nat) : Int) := by omega
        have kk := Kw.out.trans (b4.mono Kw.out.size)
        have own' := own_lower ownj (show w.heap.size ≤ wr.heap.size by have := Kw.out.size; omega)
        have HE : q = R := by rw [← Hq.out]; exact HFs.out
        rw [Nat.add_zero] at cc
        have Own := Lib.hid own'
        clear Gg rows hj' ownj own' hbb
        go_wp2
        go_ret
        subst HE
        exact ⟨Aj, cj, rfl, Own.out, kk⟩
set_option maxHeartbeats 4000000 in
set_option maxRecDepth 100000 in
theorem greatestTied_any {T : Nat → Nat} {t : Nat → Nat → Bool} (hT : TiesOf T t) (n : Nat) (hn : n ≤ 12) (w : World) (htab : TabW w) :
    Calls Tryd.prog 61 #[.agg (tcells T), .int .i64 n] w fun e w' => ∃ A c, e = .returned (.slice A (firstG t n n).length c) ∧ w'.ownsRow w.heap.size 3 1 (.slice A (firstG t n n).length c) (firstG t n n).length (icells (firstG t n n)) ∧ Below w.heap.size w w' := by
  have hset := IsSet.people (n := n) (by omega)
  have hcs : ∀ b ∈ List.range n, b < 12 := fun b hb => by have := List.mem_range.1 hb; omega
  have hgot := fun (s : Nat) (hs : s ≤ 12) (X : World) (hX : TabW X) => allTied_got hT hset hcs (size := (s : Int)) (by omega) X hX
  simp only [Int.toNat_natCast] at hgot
  have hstep := fun s L q (h : listsC t (s + 1) [] (List.range n) = q :: L) => firstG_some h
  have hno := fun s (h : listsC t (s + 1) [] (List.range n) = []) => firstG_none h
  have hsz := fun k l3 h3 => listsC_size t k [] (List.range n) l3 h3
  obtain ⟨F, hF⟩ : ∃ F, firstG t n = F := ⟨_, rfl⟩
  have hF0 : F 0 = [] := by rw [← hF]; rfl
  simp only [hF] at hstep hno ⊢
  obtain ⟨R, hR⟩ : ∃ R, F n = R := ⟨_, rfl⟩
  rw [hR]
  obtain ⟨E, hE⟩ : ∃ E, 2 ^ n - 1 = E := ⟨_, rfl⟩
  have hev := fun (X : World) => everybody_any n hn X
  simp only [hE] at hgot hev
  refine (callsIn_wide (n := 5)).1 ?_
  refine callsIn_of_wp_marks Tryd.func61 rfl trivial ?_
  simp only [Tryd.ntmps61, List.size_toArray, List.length_cons, List.length_nil, Nat.reduceAdd, Nat.reduceSub, Array.replicate_succ, Array.replicate_zero, List.push_toArray, List.append_toArray, List.nil_append, List.cons_append]
  refine wpIn_wide.2 ?_
  have HTab := Lib.hid htab
  have Hstep := Lib.hid hstep
  have Hno := Lib.hid hno
  have Hsz := Lib.hid hsz
  have HF0 := Lib.hid hF0
  have HR := Lib.hid hR
  have Hev := Lib.hid hev
  have row0 := Lib.hid (rowIs_u16 w T 63)
  unfold tcells at hgot row0 ⊢
  have Got := Lib.hid hgot
  clear htab hT hset hcs hgot hstep hno hsz hF hF0 hR hE hev
  go_wp2_with fail
  obtain ⟨W, hW⟩ : ∃ W, (w.alloc (Obj.cells #[.int .u16 (T 0 : Nat), .int .u16 (T 1 : Nat), .int .u16 (T 2 : Nat), .int .u16 (T 3 : Nat), .int .u16 (T 4 : Nat), .int .u16 (T 5 : Nat), .int .u16 (T 6 : Nat), .int .u16 (T 7 : Nat), .int .u16 (T 8 : Nat), .int .u16 (T 9 : Nat), .int .u16 (T 10 : Nat), .int .u16 (T 11 : Nat)] 63)).alloc (Obj.cells #[.slice none 0 0] 25) = W := ⟨_, rfl⟩
  have kW : Below w.heap.size w W := by rw [← hW]; go_grown
  have zW : W.heap.size = w.heap.size + 2 := by rw [← hW]; simp
  have rg : W.rangeAt w.heap.size 0 [.int .u16 (T 0 : Nat), .int .u16 (T 1 : Nat), .int .u16 (T 2 : Nat), .int .u16 (T 3 : Nat), .int .u16 (T 4 : Nat), .int .u16 (T 5 : Nat), .int .u16 (T 6 : Nat), .int .u16 (T 7 : Nat), .int .u16 (T 8 : Nat), .int .u16 (T 9 : Nat), .int .u16 (T 10 : Nat), .int .u16 (T 11 : Nat)] := by
    rw [← hW]
    exact World.rangeAt_alloc (World.rangeAt_of_block (heap_alloc_new w (Obj.cells #[.int .u16 (T 0 : Nat), .int .u16 (T 1 : Nat), .int .u16 (T 2 : Nat), .int .u16 (T 3 : Nat), .int .u16 (T 4 : Nat), .int .u16 (T 5 : Nat), .int .u16 (T 6 : Nat), .int .u16 (T 7 : Nat), .int .u16 (T 8 : Nat), .int .u16 (T 9 : Nat), .int .u16 (T 10 : Nat), .int .u16 (T 11 : Nat)] 63)) 0 12) _
  have cW : W.cell? ⟨w.heap.size + 1, 0, none⟩ = some (.slice none 0 0) := by rw [← hW]; simp
  have fW : W.frozen? ⟨w.heap.size + 1, 0, none⟩ = false := by rw [← hW]; simp
  rw [hW]
  clear hW row0
  have hu : Tryd.prog.underlying 63 = some (.array 12 60) := by kernel_rfl
  have hsz12 : (Tryd.prog.info? 63).map (·.size) = some ([.int .u16 (T 0 : Nat), .int .u16 (T 1 : Nat), .int .u16 (T 2 : Nat), .int .u16 (T 3 : Nat), .int .u16 (T 4 : Nat), .int .u16 (T 5 : Nat), .int .u16 (T 6 : Nat), .int .u16 (T 7 : Nat), .int .u16 (T 8 : Nat), .int .u16 (T 9 : Nat), .int .u16 (T 10 : Nat), .int .u16 (T 11 : Nat)] : List Value).length := by kernel_rfl
  have KW := Lib.hid kW
  have ZW := Lib.hid zW
  have CW := Lib.hid cW
  have FW := Lib.hid fW
  have RG := Lib.hid rg
  clear kW zW cW fW rg
  refine wp_loop (fun a X => ∃ (s : Nat) (D : List Deferred) (u6 u7 u8 u9 u10 u11 u12 u13 u14 u15 u16 u17 u18 u19 : Value), a = { tmps := #[.agg #[.int .u16 (T 0 : Nat), .int .u16 (T 1 : Nat), .int .u16 (T 2 : Nat), .int .u16 (T 3 : Nat), .int .u16 (T 4 : Nat), .int .u16 (T 5 : Nat), .int .u16 (T 6 : Nat), .int .u16 (T 7 : Nat), .int .u16 (T 8 : Nat), .int .u16 (T 9 : Nat), .int .u16 (T 10 : Nat), .int .u16 (T 11 : Nat)], .int .i64 n, .pointer (some ⟨w.heap.size, 0, none⟩), undef, .pointer (some ⟨w.heap.size + 1, 0, none⟩), .int .i64 (s : Nat), u6, u7, u8, u9, u10, u11, u12, u13, u14, u15, u16, u17, u18, u19], defers := D } ∧ s ≤ n ∧ F s = R ∧ Marks D X ∧ (∀ j, isMark D j → W.heap.size ≤ j) ∧ Below W.heap.size W X) (fun a _ => (intOf (a.tmps.getD 5 undef)).toNat) ?start ?round
  case start => exact ⟨n, [], _, _, _, _, _, _, _, _, _, _, _, _, _, _, rfl, Nat.le_refl _, HR.out, Marks.nil _, (fun j hj => by obtain ⟨d, hd, _⟩ := hj; cases hd), Below.refl _ _⟩
  case round =>
    rintro a X ⟨s, D, u6, u7, u8, u9, u10, u11, u12, u13, u14, u15, u16, u17, u18, u19, rfl, hs, hFs, hM, hMW, hb⟩
    have sX := hb.size
    have zW := ZW.out
    have HM := Lib.hid hM
    have HMW := Lib.hid hMW
    have HB := Lib.hid hb
    have HFs := Lib.hid hFs
    clear hM hMW hFs
    cases s with
    | zero =>
      have cX := carry hb CW.out (by omega)
      have fX := (hb.frozen (p := ⟨w.heap.size + 1, 0, none⟩) (by simp; omega)).trans FW.out
      have hRe : R = [] := by rw [← HFs.out, HF0.out]
      have hge : ¬ ((0 : Int) < 0) := by omega
      have kX := KW.out.trans (hb.mono (by omega))
      have HRe := Lib.hid hRe
      clear hRe hb
      go_wp2
      have hM2 : Marks D (X.setCell ⟨w.heap.size + 1, 0, none⟩ (.slice none 0 0)) := HM.out.same fun j hj => Below.heap_setCell X _ _ _ (by have := HMW.out j hj; simp; omega)
      have kX2 := kX.setCell (p := ⟨w.heap.size + 1, 0, none⟩) (by simp) (.slice none 0 0)
      have c9 : (X.setCell ⟨w.heap.size + 1, 0, none⟩ (.slice none 0 0)).cell? ⟨w.heap.size + 1, 0, none⟩ = some (.slice none 0 0) := World.cell?_setCell_same' _ _ _ (by rw [cX]; rfl)
      refine leaves_marks D _ hM2 fun W' ha => ⟨.slice none 0 0, ?_, ?_⟩
      · have c10 := ha.cell c9 (fun h => by have := HMW.out _ h; simp at this; omega)
        simp [results, Tryd.results61, go_sem, c10]
      · rw [HRe.out]
        exact ⟨none, 0, rfl, World.ownsRow_nil _ _ _ _, kX2.trans (ha.below_of (by simp; omega) fun j hj => by have := HMW.out _ hj; omega)⟩
    | succ s =>
      obtain ⟨z, hz⟩ : ∃ z : Int, ((s + 1 : Nat) : Int) = z := ⟨_, rfl⟩
      have hz0 : (0 : Int) < z := by omega
      have hz1 : z ≤ 13 := by omega
      have got := Got.out (s + 1) (by omega)
      obtain ⟨LL, hLL⟩ : ∃ LL, listsC t (s + 1) [] (List.range n) = LL := ⟨_, rfl⟩
      have hq1 := Hstep.out s
      have hq2 := Hno.out s
      have hq3 := Hsz.out (s + 1)
      simp only [hLL, hz] at got hq1 hq2 hq3
      rw [hz]
      have rgX : X.rangeAt w.heap.size 0 [.int .u16 (T 0 : Nat), .int .u16 (T 1 : Nat), .int .u16 (T 2 : Nat), .int .u16 (T 3 : Nat), .int .u16 (T 4 : Nat), .int .u16 (T 5 : Nat), .int .u16 (T 6 : Nat), .int .u16 (T 7 : Nat), .int .u16 (T 8 : Nat), .int .u16 (T 9 : Nat), .int .u16 (T 10 : Nat), .int .u16 (T 11 : Nat)] := fun j v hv => (hb.cell (show w.heap.size < W.heap.size by omega)).trans (RG.out j v hv)
      have kX := KW.out.trans (hb.mono (by omega))
      have hpos := HTab.out.pos
      have Hz := Lib.hid hz
      have Got1 := Lib.hid got
      have Hq1 := Lib.hid hq1
      have Hq2 := Lib.hid hq2
      have Hq3 := Lib.hid hq3
      have KX := Lib.hid kX
      clear hz got hLL hq1 hq2 hq3 hb kX
      go_wp2_with fail
      go_region_held3 (fun w' => w'.rangeAt w.heap.size 0 [.int .u16 (T 0 : Nat), .int .u16 (T 1 : Nat), .int .u16 (T 2 : Nat), .int .u16 (T 3 : Nat), .int .u16 (T 4 : Nat), .int .u16 (T 5 : Nat), .int .u16 (T 6 : Nat), .int .u16 (T 7 : Nat), .int .u16 (T 8 : Nat), .int .u16 (T 9 : Nat), .int .u16 (T 10 : Nat), .int .u16 (T 11 : Nat)]) (first | exact rgX | exact yr) ((first
        | (go_at_call 54; refine (Hev.out _).mono ?_; rintro e w' ⟨rfl, rfl⟩)
        | (go_at_call 58; refine (Got1.out _ (HTab.out.below KX.out.drew hpos)).mono ?_; rintro e w1 ⟨lb, rfl, hb1, hseq⟩; have g1 : Below X.heap.size X w1 := (Below.refl _ _).drew.trans hb1; have yr : w1.rangeAt w.heap.size 0 [.int .u16 (T 0 : Nat), .int .u16 (T 1 : Nat), .int .u16 (T 2 : Nat), .int .u16 (T 3 : Nat), .int .u16 (T 4 : Nat), .int .u16 (T 5 : Nat), .int .u16 (T 6 : Nat), .int .u16 (T 7 : Nat), .int .u16 (T 8 : Nat), .int .u16 (T 9 : Nat), .int .u16 (T 10 : Nat), .int .u16 (T 11 : Nat)] := (fun j v hv => (g1.cell (show w.heap.size < X.heap.size by omega)).trans (rgX j v hv)); have k1 := KX.out.trans (g1.mono KX.out.size))))
      have Seq1 := Lib.hid hseq
      clear hseq
      go_wp2_with fail
      have s1 := g1.size
      have bW : Below W.heap.size W w1 := HB.out.trans (g1.mono HB.out.size)
      have cell1 := carry bW CW.out (by omega)
      have frz1 := (bW.frozen (p := ⟨w.heap.size + 1, 0, none⟩) (by simp; omega)).trans FW.out
      have mk1 := HM.out.below g1
      have mlt : ∀ j, isMark D j → j < w1.heap.size := fun j hj => by have := (Array.getElem?_eq_some_iff.1 (mk1.block hj)).1; exact this
      have Mk1 := Lib.hid mk1
      have Mlt := Lib.hid mlt
      have Cell1 := Lib.hid cell1
      have Frz1 := Lib.hid frz1
      have K1 := Lib.hid k1
      clear mk1 mlt cell1 frz1 k1 yr rgX hb1
      refine wp_rangeFunc_asg rfl (enters_of Tryd.func79 (by kernel_rfl) rfl) Seq1.out (fun j hj => by omega) (fun T x args A C h hs => h.stays hs) (fun T x args W h => h.one)
        (fun S pre Y => (∀ j, S j → w1.heap.size ≤ j) ∧ Below w1.heap.size w1 Y ∧ pre = [])
        (fun c pre Y => c = .ret ∧ ∃ (q : List Int) (A : Option Addr) (c' : Nat), pre = [q] ∧ Y.cell? ⟨w.heap.size + 1, 0, none⟩ = some (.slice A q.length c') ∧ Y.ownsRow w.heap.size 3 1 (.slice A q.length c') q.length (icells q) ∧ (∀ k, (Value.slice A q.length c').ownBlock = some k → w1.heap.size + 2 ≤ k) ∧ Below w.heap.size w Y ∧ w1.heap.size ≤ Y.heap.size ∧ Marks D Y)
        ?held ?heldx ⟨fun _ h => h.elim, Below.refl _ _, rfl⟩ (fun v => { tmps := #[.agg #[.int .u16 (T 0 : Nat), .int .u16 (T 1 : Nat), .int .u16 (T 2 : Nat), .int .u16 (T 3 : Nat), .int .u16 (T 4 : Nat), .int .u16 (T 5 : Nat), .int .u16 (T 6 : Nat), .int .u16 (T 7 : Nat), .int .u16 (T 8 : Nat), .int .u16 (T 9 : Nat), .int .u16 (T 10 : Nat), .int .u16 (T 11 : Nat)], .int .i64 n, .pointer (some ⟨w.heap.size, 0, none⟩), undef, .pointer (some ⟨w.heap.size + 1, 0, none⟩), .int .i64 z, v, u7, .int .i64 z, .bool true, u10, u11, .agg #[.int .u16 (T 0 : Nat), .int .u16 (T 1 : Nat), .int .u16 (T 2 : Nat), .int .u16 (T 3 : Nat), .int .u16 (T 4 : Nat), .int .u16 (T 5 : Nat), .int .u16 (T 6 : Nat), .int .u16 (T 7 : Nat), .int .u16 (T 8 : Nat), .int .u16 (T 9 : Nat), .int .u16 (T 10 : Nat), .int .u16 (T 11 : Nat)], .int .i64 n, .int .u16 (E : Nat), .int .i64 z, .func (.func 79) #[] lb, v, u18, u19], defers := [] }) ?assign ?body ?done ?stop
      case held =>
        rintro S S' pre A C ⟨a1, a2, a3⟩ hap hS'
        exact ⟨fun j hj => (hS' j hj).elim (a1 j) (by have := a2.size; omega), a2.trans (hap.below_of a2.size fun j hj => a1 j hj), a3⟩
      case heldx =>
        rintro c pre A C ⟨hc, q, Aq, cq, a1, a2, a3, a4, a5, a6, a7⟩ hap
        refine ⟨hc, q, Aq, cq, a1, hap.cell a2 (by simp; omega), ?_, a4, a5.trans (hap.below_of (by omega) fun j hj => by omega), Nat.le_trans a6 hap.below.size, a7.same fun j hj => hap.same j ?_ ?_⟩
        · obtain ⟨h1, h2⟩ := a3
          rcases h2 with ⟨hv, h0⟩ | ⟨g, cap, cur, hv, hb, hg, hrest⟩
          · exact ⟨h1, .inl ⟨hv, h0⟩⟩
          · have hk := a4 g (by rw [hv]; rfl)
            exact ⟨h1, .inr ⟨g, cap, cur, hv, hb, (hap.same g (Array.getElem?_eq_some_iff.1 hg).1 (by omega)).trans hg, hrest⟩⟩
        · exact (Array.getElem?_eq_some_iff.1 (a7.block hj)).1
        · have := Mlt.out j hj; omega
      case assign =>
        intro l v Y K hK
        gi_wp2
        exact hK
      case body =>
        rintro l S' S pre x v Y ⟨a1, a2, rfl⟩ hrd hTS hz hS' _
        obtain ⟨A, c, hv, told, hTb, h100⟩ := hrd
        obtain rfl : v = .slice A x.length c := by simpa using hv
        have Told := Lib.hid told
        have cY := carry a2 Cell1.out (by omega)
        have fY := (a2.frozen (p := ⟨w.heap.size + 1, 0, none⟩) (by simp; omega)).trans Frz1.out
        have sY := a2.size
        have mY := Mk1.out.below a2
        have MY := Lib.hid mY
        have A2 := Lib.hid a2
        clear told mY a2 hTb hv
        gi_wp2_with fail
        refine ⟨trivial, (((callsIn_wide (n := 2)).2 (cloneI_any x A c Y (by omega) (CRead.of_own Told.out))).inRound l).mono ?_⟩
        rintro e w2 ⟨Ac, cc, rfl, own2, hb2⟩
        have c2 := carry hb2 cY (by omega)
        have f2 := (hb2.frozen (p := ⟨w.heap.size + 1, 0, none⟩) (by simp; omega)).trans fY
        have s2 := hb2.size
        have Own2 := Lib.hid own2
        have Hb2 := Lib.hid hb2
        clear own2 hb2 cY fY
        gi_wp2
        have kY := K1.out.trans (A2.out.mono (by omega))
        have k2 := kY.trans (Hb2.out.mono (by omega))
        refine ⟨(Stays.of_below Hb2.out).trans (Stays.setCell (p := ⟨w.heap.size + 1, 0, none⟩) (by simp; omega) w2 _), rfl, x, Ac, cc, rfl, World.cell?_setCell_same' _ _ _ (by rw [c2]; rfl), own_lower (ownsRow_setCell_below Own2.out (a := ⟨w.heap.size + 1, 0, none⟩) (by simp; omega) _) (by omega), fun k hk => ?_, k2.setCell (p := ⟨w.heap.size + 1, 0, none⟩) (by simp) _, by simp; omega, (MY.out.below Hb2.out).same fun j hj => Below.heap_setCell w2 _ _ _ ?_⟩
        · have := (own_lies Own2.out k hk).1; omega
        · have := HMW.out j hj; simp; omega
      case done =>
        rintro S Y ⟨a1, a2, hpre⟩ hD
        have hFe := Lib.hid (Hq2.out hpre)
        have hzs : z - 1 = (s : Int) := by have := Hz.out; omega
        have Hzs := Lib.hid hzs
        have A2 := Lib.hid a2
        clear hpre hzs a2
        go_wp2
        rw [Hzs.out]
        refine ⟨⟨s, _, _, _, _, _, _, _, _, _, _, _, _, _, _, _, rfl, by omega, by rw [← hFe.out]; exact HFs.out, (Mk1.out.below A2.out).cons hD fun j hj => by have := Mlt.out j hj; omega, fun j hj => ?_, bW.trans (A2.out.mono (by omega))⟩, ?_⟩
        · obtain ⟨d, hd, ht⟩ := hj
          rcases List.mem_cons.1 hd with rfl | hd
          · simp only [Target.collected.injEq] at ht; omega
          · exact HMW.out j ⟨d, hd, ht⟩
        · have := Hz.out; simp [intOf]; omega
      case stop =>
        rintro c pre x Y hpre ⟨rfl, q, A, c', hq, cell, own, hblk, kY, sY, mY⟩ hD
        have hRq : q = R := by
          obtain ⟨L, hL⟩ := hpre
          rw [hq] at hL
          rw [← HFs.out]
          exact (Hq1.out L q hL.symm).symm
        subst hRq
        have Own := Lib.hid own
        clear own
        go_wp2
        have mk2 := mY.cons hD fun j hj => by have := Mlt.out j hj; omega
        have hge : ∀ j, isMark ({ target := .collected w1.heap.size, args := #[] } :: D) j → W.heap.size ≤ j := fun j ⟨d, hd, ht⟩ => by
          rcases List.mem_cons.1 hd with rfl | hd
          · simp only [Target.collected.injEq] at ht; omega
          · exact HMW.out j ⟨d, hd, ht⟩
        refine leaves_marks _ _ mk2 fun W' ha => ⟨.slice A q.length c', ?_, ?_⟩
        · have c10 := ha.cell cell (fun h => by have := hge _ h; simp at this; omega)
          simp [results, Tryd.results61, go_sem, c10]
        · exact ⟨A, c', rfl, own_at Own.out (mk2.rows ha), kY.trans (ha.below_of (by omega) fun j hj => by have := hge _ hj; omega)⟩
set_option maxHeartbeats 2000000 in
set_option maxRecDepth 100000 in
theorem specGreatestGroup_any (p : Int) (l : PL) (A : Option Addr) (c : Nat) (w : World) (hl : l.length ≤ 1048576) (hA : CRead w w.heap.size A (pcells l)) :
    Calls Tryd.prog 27 #[.agg #[.int .i64 p, .slice A l.length c]] w (GotIntsOk w (resGreatestGroup p l).1 (resGreatestGroup p l).2) := by
  have hr : CRead (w.alloc (Obj.cells #[.int .i64 p, .slice A l.length c] 31)) (w.alloc (Obj.cells #[.int .i64 p, .slice A l.length c] 31)).heap.size A (pcells l) := (hA.below (B' := w.heap.size) (by go_grown) (Nat.le_refl _)).more (by go_size)
  cases hp : isP p l with
  | false =>
    have e : resGreatestGroup p l = ([], false) := by simp [resGreatestGroup, hp]
    rw [e]
    have Hp := Lib.hid hp
    clear hp e
    go_enter Tryd.func27, Tryd.ntmps27
    go_wp2_with fail
    refine (paGood_any _ _ _ _ _ hl hr).mono ?_
    rw [Hp.out]
    rintro e w2 ⟨rfl, hb2⟩
    simp only [World.size_alloc] at hb2
    go_wp2
    go_ret2
    exact ⟨none, 0, rfl, World.ownsRow_nil _ _ _ _, Below.trans (b := _) (by go_grown) (hb2.mono (by omega))⟩
  | true =>
    obtain ⟨n, rfl⟩ : ∃ n : Nat, p = n := ⟨p.toNat, by have := isP_range hp; omega⟩
    have e : resGreatestGroup n l = (firstG (adj l) n n, true) := by simp [resGreatestGroup, hp]
    rw [e]
    obtain ⟨R, hR⟩ : ∃ R, firstG (adj l) n n = R := ⟨_, rfl⟩
    have call := fun (X : World) (hX : CRead X X.heap.size A (pcells l)) => trGreatest_any n l A c X hp hX
    simp only [hR] at call ⊢
    have Call := Lib.hid call
    have Hp := Lib.hid hp
    clear hp e hR call
    go_enter Tryd.func27, Tryd.ntmps27
    go_wp2_with fail
    refine (paGood_any _ _ _ _ _ hl hr).mono ?_
    rw [Hp.out]
    rintro e w2 ⟨rfl, hb2⟩
    have k2 : Below w.heap.size w w2 := Below.trans (b := _) (by go_grown) (hb2.mono (by simp))
    have c0 : w2.cell? ⟨w.heap.size, 0, none⟩ = some (.int .i64 n) := carry hb2 (by simp) (by simp)
    have c1 : w2.cell? ⟨w.heap.size, 1, none⟩ = some (.slice A l.length c) := carry hb2 (by simp) (by simp)
    go_wp2_with fail
    refine (Call.out _ ((hA.below k2 (Nat.le_refl _)).more k2.size)).mono ?_
    rintro e w3 ⟨A3, c3, rfl, own, hb3⟩
    have k3 := k2.trans (hb3.mono k2.size)
    have Own := Lib.hid (own_lower own k2.size)
    clear own
    go_wp2
    go_ret2
    exact ⟨A3, c3, rfl, Own.out, k3⟩
set_option maxHeartbeats 4000000 in
set_option maxRecDepth 100000 in
theorem implGreatestGroup_any (p : Int) (l : PL) (A : Option Addr) (c : Nat) (w : World) (hl : l.length ≤ 1048576) (hA : CRead w w.heap.size A (pcells l)) (htab : TabW w) :
    Calls Tryd.prog 28 #[.agg #[.int .i64 p, .slice A l.length c]] w (GotIntsOk w (resGreatestGroup p l).1 (resGreatestGroup p l).2) := by
  have hr : CRead (w.alloc (Obj.cells #[.int .i64 p, .slice A l.length c] 31)) (w.alloc (Obj.cells #[.int .i64 p, .slice A l.length c] 31)).heap.size A (pcells l) := (hA.below (B' := w.heap.size) (by go_grown) (Nat.le_refl _)).more (by go_size)
  have HTab := Lib.hid htab
  clear htab
  cases hp : isP p l with
  | false =>
    have e : resGreatestGroup p l = ([], false) := by simp [resGreatestGroup, hp]
    rw [e]
    have Hp := Lib.hid hp
    clear hp e
    go_enter Tryd.func28, Tryd.ntmps28
    go_wp2_with fail
    refine (isParty_any _ _ _ _ _ hl hr).mono ?_
    rw [Hp.out]
    rintro e w2 ⟨rfl, hb2⟩
    simp only [World.size_alloc] at hb2
    go_wp2
    go_ret2
    exact ⟨none, 0, rfl, World.ownsRow_nil _ _ _ _, Below.trans (b := _) (by go_grown) (hb2.mono (by omega))⟩
  | true =>
    obtain ⟨n, rfl⟩ : ∃ n : Nat, p = n := ⟨p.toNat, by have := isP_range hp; omega⟩
    have hn := isP_range hp
    have e : resGreatestGroup n l = (firstG (adj l) n n, true) := by simp [resGreatestGroup, hp]
    rw [e]
    obtain ⟨R, hR⟩ : ∃ R, firstG (adj l) n n = R := ⟨_, rfl⟩
    have hT := friendsT_of hp
    have h5 := fun (X : World) (hX : TabW X) => greatestTied_any hT n (by omega) X hX
    simp only [hR] at h5 ⊢
    have H5 := Lib.hid h5
    have Hp := Lib.hid hp
    clear hp e hT h5 hR
    go_enter Tryd.func28, Tryd.ntmps28
    go_wp2_with fail
    refine (isParty_any _ _ _ _ _ hl hr).mono ?_
    rw [Hp.out]
    rintro e w2 ⟨rfl, hb2⟩
    have s2 := hb2.size
    simp only [World.size_alloc] at s2
    have k2 : Below w.heap.size w w2 := Below.trans (b := _) (by go_grown) (hb2.mono (by simp))
    have c0 : w2.cell? ⟨w.heap.size, 0, none⟩ = some (.int .i64 n) := carry hb2 (by simp) (by simp)
    have c1 : w2.cell? ⟨w.heap.size, 1, none⟩ = some (.slice A l.length c) := carry hb2 (by simp) (by simp)
    have hpos := HTab.out.pos
    clear hb2
    go_wp2
    go_region_held3 (fun w' => w'.cell? ⟨w.heap.size, 0, none⟩ = some (.int .i64 n) ∧ w'.cell? ⟨w.heap.size, 1, none⟩ = some (.slice A l.length c)) (first | exact ⟨c0, c1⟩ | exact ⟨y0, y1⟩ | exact ⟨x0, x1⟩) ((first
      | (go_at_call 46; refine (friendsIn_any _ l A c _ Hp.out ((hA.below k2.drew (Nat.le_refl _)).more k2.size)).mono ?_; rintro e w3 ⟨rfl, _, hb3⟩; have g3 : Below w2.heap.size w2 w3 := (Below.refl _ _).drew.trans hb3; have y0 := carry g3 c0 (by omega); have y1 := carry g3 c1 (by omega); have s3 := g3.size; have k3 := k2.trans (g3.mono k2.size))
      | (go_at_call 61; refine (H5.out w3 (HTab.out.below k3 hpos)).mono ?_; rintro e w5 ⟨A5, c5, rfl, own5, hb5⟩; have x0 := carry hb5 y0 (by omega); have x1 := carry hb5 y1 (by omega); have k5 := k3.trans (hb5.mono k3.size))))
    all_goals
      have own' := own_lower own5 k3.size
      clear own5
      go_wp2
      go_ret2
      exact ⟨A5, c5, rfl, own', k5⟩
end Go.Proofs.YtnpljmipicjacaaDoor
