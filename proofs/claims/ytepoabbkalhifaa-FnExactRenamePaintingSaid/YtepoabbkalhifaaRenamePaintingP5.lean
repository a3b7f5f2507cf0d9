/-
  Texts put together for the claim of 'RenamePainting' (pack 5): Friends, Naming, Lists, RowsG, RowsH, Numbers, People, First, GreedP, GreedS.
-/
import Derived.Test.YtepoabbkalhifaaRenamePaintingP1
import Derived.Test.YtepoabbkalhifaaRenamePaintingP2
import Derived.Test.YtepoabbkalhifaaRenamePaintingP4
import Derived.Deep.RegionWith
import Derived.Deep.OwnRows
import Derived.Deep.RegionLaw
/-
  'AreFriends': the model's and the program's, by their contracts.
-/
namespace Go.Proofs.Ytepoabbkalhifaa
open Go.RowKit

/-! ## People -/
def isMan (p a : Int) : Bool := decide (0 ≤ a ∧ a < p)
theorem isMan_yes {p a : Int} (h : 0 ≤ a ∧ a < p) : isMan p a = true := decide_eq_true h
theorem isMan_no {p a : Int} (h : ¬ (0 ≤ a ∧ a < p)) : isMan p a = false := decide_eq_false h
set_option maxHeartbeats 400000 in
theorem isPerson_any (p a : Int) (A : Option Addr) (n c : Nat) (w : World) :
    Calls Try.prog 99 #[.agg #[.int .i64 p, .slice A n c], .int .i64 a] w fun e w' => e = .returned (.bool (isMan p a)) ∧ Below w.heap.size w w' := by
  by_cases h0 : 0 ≤ a
  · by_cases h1 : a < p
    · rw [isMan_yes ⟨h0, h1⟩]
      go_enter Try.func99, Try.ntmps99
      go_wp2
      go_ret
      exact ⟨rfl, by go_grown⟩
    · rw [isMan_no (by omega)]
      go_enter Try.func99, Try.ntmps99
      go_wp2
      go_ret
      exact ⟨rfl, by go_grown⟩
  · rw [isMan_no (by omega)]
    go_enter Try.func99, Try.ntmps99
    go_wp2
    go_ret
    exact ⟨rfl, by go_grown⟩

/-- a party and two different people -/
def isTwo (p : Int) (l : PL) (a b : Int) : Bool := isP p l && isMan p a && isMan p b && decide (a ≠ b)
theorem isTwo_parts {p : Int} {l : PL} {a b : Int} (h : isTwo p l a b = true) : isP p l = true ∧ (0 ≤ a ∧ a < p) ∧ (0 ≤ b ∧ b < p) ∧ a ≠ b := by
  simp only [isTwo, isMan, Bool.and_eq_true, decide_eq_true_eq] at h
  exact ⟨h.1.1.1, h.1.1.2, h.1.2, h.2⟩

/-! ## The pair of two people; whether it is among pairs -/
def indexP (x y : Int) (l : PL) : Int := if l.contains (x, y) then (l.idxOf (x, y) : Int) else -1
end Go.Proofs.Ytepoabbkalhifaa
/-
  'impl.isNaming', by its contract.
-/
namespace Go.Proofs.Ytepoabbkalhifaa
open Go.RowKit

theorem twelve_false {i : Nat} (hi : i < 12) : (#[Value.bool false, .bool false, .bool false, .bool false, .bool false, .bool false, .bool false, .bool false, .bool false, .bool false, .bool false, .bool false] : Array Value)[i]? = some (.bool false) := by
  match i, hi with
  | 0, _ => rfl
  | 1, _ => rfl
  | 2, _ => rfl
  | 3, _ => rfl
  | 4, _ => rfl
  | 5, _ => rfl
  | 6, _ => rfl
  | 7, _ => rfl
  | 8, _ => rfl
  | 9, _ => rfl
  | 10, _ => rfl
  | 11, _ => rfl
theorem hasI_next {q : List Int} {k : Nat} {x : Nat} (hx : q[k]? = some (x : Int)) (m : Nat) : (if m = x then Value.bool true else .bool (hasI (q.take k) m)) = .bool (hasI (q.take (k + 1)) m) := by
  rw [List.take_add_one, hx, Option.toList_some]
  by_cases h : m = x
  · subst h
    rw [if_pos rfl, hasI_mem.2 (by simp)]
  · rw [if_neg h]
    congr 1
    rw [Bool.eq_iff_iff, hasI_mem, hasI_mem, List.mem_append, List.mem_singleton]
    constructor
    · exact .inl
    · rintro (h1 | h1)
      · exact h1
      · omega

set_option maxHeartbeats 1000000 in
set_option maxRecDepth 100000 in
theorem isNaming_any (p : Int) (q : List Int) (A B : Option Addr) (n c d : Nat) (w : World) (hp : 0 ≤ p ∧ p ≤ 12) (hB : CRead w w.heap.size B (icells q)) :
    Calls Try.prog 93 #[.agg #[.int .i64 p, .slice A n c], .slice B q.length d] w fun e w' => e = .returned (.bool (isNamingI p q)) ∧ Below w.heap.size w w' := by
  by_cases hl : (q.length : Int) = p
  · go_enter Try.func93, Try.ntmps93
    go_wp2
    go_loopw [15] (fun i wr => ∃ k : Nat, k ≤ q.length ∧ i = .int .i64 k ∧ (∀ (j : Nat) (x : Int), j < k → q[j]? = some x → (0 ≤ x ∧ x < p) ∧ x ∉ q.take j) ∧ wr.rowIs (w.heap.size + 1) 128 12 (fun m => .bool (hasI (q.take k) m)) ∧ Below (w.heap.size + 1) (w.alloc (Obj.cells #[.int .i64 p, .slice A n c] 45)) wr) (fun i _ => q.length - (intOf i).toNat)
    case atStart =>
      refine ⟨0, Nat.zero_le _, rfl, fun j x hj => by omega, ?_, by go_grown⟩
      have h := heap_alloc_new (w.alloc (Obj.cells #[.int .i64 p, .slice A n c] 45)) (Obj.cells #[Value.bool false, .bool false, .bool false, .bool false, .bool false, .bool false, .bool false, .bool false, .bool false, .bool false, .bool false, .bool false] 128)
      rw [World.size_alloc] at h
      exact ⟨_, h, rfl, fun i hi => twelve_false hi⟩
    case round =>
      obtain ⟨k, hk, rfl, hg, hrow, hb⟩ := hrel
      have Hg := Lib.hid hg
      have hs := hb.size
      simp only [World.size_alloc] at hs
      have hlr := hrow.lt
      have hbw : Below w.heap.size w wr := Below.trans (b := _) (by go_grown) (hb.mono (by omega))
      have u0 : wr.cell? ⟨w.heap.size, 0, none⟩ = some (.int .i64 p) := carry hb (by simp) (by omega)
      have u1 : wr.cell? ⟨w.heap.size, 1, none⟩ = some (.slice A n c) := carry hb (by simp) (by omega)
      clear hg
      by_cases hlt : k < q.length
      · obtain ⟨x, hx⟩ := getSome q k hlt
        obtain ⟨b, off, rfl, hbb, c0⟩ := (hB.below hbw (Nat.le_refl _)).int hx
        have hki : (k : Int) < (q.length : Int) := by omega
        have Hx := Lib.hid hx
        clear hx
        by_cases hman : 0 ≤ x ∧ x < p
        · obtain ⟨x', rfl⟩ : ∃ x' : Nat, x = x' := ⟨x.toNat, by omega⟩
          have Hm := Lib.hid (isMan_yes hman)
          have Hman := Lib.hid hman
          have hx12 : x' < 12 := by omega
          have hxi : (x' : Int) < 12 := by omega
          clear hman
          cases hh : hasI (q.take k) x' with
          | true =>
            have Hrow := Lib.hid hrow
            have He := Lib.hid (isNamingI_dup (p := p) Hx.out (hasI_mem.1 hh))
            have Hh := Lib.hid hh
            clear hh hrow
            go_wp2_with fail
            refine (isPerson_any p x' A n c _).mono ?_
            rw [Hm.out]
            rintro e w2 ⟨rfl, hb2⟩
            have r0 := carry hb2 (Hrow.out.cell hx12) (by omega)
            simp only [Hh.out] at r0
            go_wp2
            go_ret
            exact ⟨by rw [He.out]; rfl, hbw.trans (hb2.mono (by omega))⟩
          | false =>
            have hrow2 := fun (w2 : World) (hb2 : Below wr.heap.size wr w2) => hrow.of_block (hb2.block _ hlr)
            have Hrow := Lib.hid hrow
            have Hh := Lib.hid hh
            clear hrow
            go_wp2_with fail
            refine (isPerson_any p x' A n c _).mono ?_
            rw [Hm.out]
            rintro e w2 ⟨rfl, hb2⟩
            have h2 := hrow2 w2 hb2
            have r0 := h2.cell hx12
            have r1 := h2.frozen x'
            simp only [Hh.out] at r0
            have h3 := Lib.hid ((h2.set x' (.bool true)).congr fun m _ => hasI_next Hx.out m)
            have hb3 := Lib.hid ((hb.trans (hb2.mono (by omega))).setCell (p := ⟨w.heap.size + 1, x', none⟩) (Nat.le_refl _) (.bool true))
            have hnm : (x' : Int) ∉ q.take k := fun hm => by rw [hasI_mem.2 hm] at hh; cases hh
            clear h2 hrow2 hh hb
            go_wp2
            go_roundw
            case rel =>
              refine ⟨k + 1, by omega, by go_num, fun j z hj hz => ?_, h3.out, hb3.out⟩
              by_cases hjk : j = k
              · subst hjk
                rw [Hx.out] at hz
                simp only [Option.some.injEq] at hz
                subst hz
                exact ⟨Hman.out, hnm⟩
              · exact Hg.out j z (by omega) hz
            case measure => simp [intOf]; omega
        · have Hm := Lib.hid (isMan_no hman)
          have He := Lib.hid (isNamingI_bad (p := p) Hx.out hman)
          clear hman hrow
          go_wp2_with fail
          refine (isPerson_any p x A n c _).mono ?_
          rw [Hm.out]
          rintro e w2 ⟨rfl, hb2⟩
          go_wp2
          go_ret
          exact ⟨by rw [He.out]; rfl, hbw.trans (hb2.mono (by omega))⟩
      · have hkl : k = q.length := by omega
        have hge : ¬ ((k : Int) < (q.length : Int)) := by omega
        have He := Lib.hid (isNamingI_of hl fun j x hj hx => Hg.out j x (by omega) hx)
        clear hrow
        go_wp2
        go_ret
        exact ⟨by rw [He.out]; rfl, hbw⟩
  · have He := Lib.hid (isNamingI_len hl)
    go_enter Try.func93, Try.ntmps93
    go_wp2
    go_ret
    exact ⟨by rw [He.out]; rfl, by go_grown⟩
end Go.Proofs.Ytepoabbkalhifaa
/-
  LISTS OF LISTS OF NUMBERS, read; the laws' own comparison of two that are equal.
-/
namespace Go.Proofs.Ytepoabbkalhifaa
open Go.RowKit

/-- a slice of slices of numbers can be read: its headers, and the rows that they name, lie below B -/
def SRead (w : World) (B : Nat) (A : Option Addr) (LL : List (List Int)) : Prop :=
  ∀ i l, LL[i]? = some l → ∃ b off A' c', A = some ⟨b, off, none⟩ ∧ b < B ∧ w.cell? ⟨b, off + i, none⟩ = some (.slice A' l.length c') ∧ CRead w B A' (icells l)
theorem SRead.below {w w' : World} {B B' : Nat} {A : Option Addr} {LL : List (List Int)} (h : SRead w B A LL) (hb : Below B w w') (hB : B ≤ B') : SRead w' B' A LL := by
  intro i l hi
  obtain ⟨b, off, A', c', e, hlt, hc, hr⟩ := h i l hi
  exact ⟨b, off, A', c', e, by omega, carry hb hc hlt, (hr.below hb (Nat.le_refl _)).more hB⟩

set_option maxHeartbeats 2000000 in
set_option maxRecDepth 100000 in
theorem eqIntSS_same (LL : List (List Int)) (A B : Option Addr) (c d : Nat) (w : World) (hl : LL.length ≤ maxLen) (hr : ∀ l ∈ LL, l.length ≤ maxLen)
    (hA : SRead w w.heap.size A LL) (hB : SRead w w.heap.size B LL) :
    Calls Try.prog 39 #[.slice A LL.length c, .slice B LL.length d] w fun e w' => e = .returned (.bool true) ∧ Below w.heap.size w w' := by
  unfold maxLen at hl
  go_enter Try.func39, Try.ntmps39
  go_wp2_with fail
  go_loopw [5] (fun i wr => ∃ k : Nat, k ≤ LL.length ∧ i = .int .i64 k ∧ Below w.heap.size w wr) (fun i _ => LL.length - (intOf i).toNat)
  case atStart => exact ⟨0, Nat.zero_le _, rfl, Below.refl _ _⟩
  case round =>
    obtain ⟨k, hk, rfl, hb⟩ := hrel
    by_cases hlt : k < LL.length
    · obtain ⟨l, hx⟩ := getSome LL k hlt
      obtain ⟨b, off, A1, c1, rfl, hb1, d1, R1⟩ := (hA.below hb hb.size) k l hx
      obtain ⟨b', off', A2, c2, rfl, hb2, d2, R2⟩ := (hB.below hb hb.size) k l hx
      have hll := hr l (List.mem_of_getElem? hx)
      have hki : (k : Int) < (LL.length : Int) := by omega
      clear hx
      go_wp2_with fail
      go_region_law (first | (go_simp; go_at_call 57; refine (eqIntS_any l l A1 A2 c1 c2 wr.drew hll hll (show CRead wr.drew wr.drew.heap.size A1 (icells l) from R1) (show CRead wr.drew wr.drew.heap.size A2 (icells l) from R2)).mono ?_; rw [decide_eq_true rfl]; rintro e w2 ⟨rfl, hb3⟩; have hb4 : Below w.heap.size w w2 := hb.trans ((Below.drew (Below.refl wr.heap.size wr)).trans hb3 |>.mono hb.size)) | fail)
      all_goals (go_wp2_with fail)
      all_goals (go_roundw)
      all_goals first
        | exact ⟨k + 1, by omega, by go_num, hb4⟩
        | (simp [intOf]; omega)
    · have hge : ¬ ((k : Int) < (LL.length : Int)) := by omega
      go_wp2
      go_ret
      exact ⟨rfl, hb⟩
/-- how many numbers lie in the first rows -/
def lens (ns : List Nat) (k : Nat) : Nat := (ns.take k).sum
theorem lens_succ {ns : List Nat} {k n : Nat} (h : ns[k]? = some n) : lens ns (k + 1) = lens ns k + n := by
  unfold lens
  rw [List.take_add_one, h, Option.toList_some, List.sum_append]
  simp
theorem lens_le (ns : List Nat) : ∀ k, lens ns k ≤ ns.sum := by
  intro k
  unfold lens
  have h := congrArg List.sum (List.take_append_drop k ns)
  rw [List.sum_append] at h
  omega
/-- the marks of rows of such lengths, counted on from row to row -/
def rowMarks (k0 : Int) (ns : List Nat) : List (List Int) := (List.range ns.length).map fun i => imarks (k0 + lens ns i) (ns.getD i 0)
theorem rowMarks_length (k0 : Int) (ns : List Nat) : (rowMarks k0 ns).length = ns.length := by simp [rowMarks]
theorem rowMarks_at {k0 : Int} {ns : List Nat} {k n : Nat} (h : ns[k]? = some n) : (rowMarks k0 ns)[k]? = some (imarks (k0 + lens ns k) n) := by
  have hk := (List.getElem?_eq_some_iff.1 h).1
  simp [rowMarks, hk, List.getD_eq_getElem?_getD]
  have := (List.getElem?_eq_some_iff.1 h).2
  rw [this]

set_option maxHeartbeats 2000000 in
set_option maxRecDepth 100000 in
theorem heldIntSS_any (ns : List Nat) (A : Option Addr) (c : Nat) (k0 : Int) (w : World) (hl : ns.length ≤ 1048576) (hs : ns.sum ≤ 1048576) (hk0 : 0 ≤ k0 ∧ k0 ≤ 8388608) (hA : SRead w w.heap.size A (rowMarks k0 ns)) :
    Calls Try.prog 41 #[.slice A ns.length c, .int .i64 k0] w fun e w' => e = .returned (.int .i64 (k0 + ns.sum)) ∧ w = w' := by
  obtain ⟨hk00, hk01⟩ := hk0
  go_enter Try.func41, Try.ntmps41
  go_wp2_with fail
  go_loopw [1, 5] (fun q i wr => ∃ k : Nat, k ≤ ns.length ∧ i = .int .i64 k ∧ q = .int .i64 (k0 + lens ns k) ∧ w = wr) (fun _ i _ => ns.length - (intOf i).toNat)
  case atStart => exact ⟨0, Nat.zero_le _, rfl, by simp [lens], rfl⟩
  case round =>
    obtain ⟨k, hk, rfl, rfl, rfl⟩ := hrel
    have hs1 := lens_le ns k
    by_cases hlt : k < ns.length
    · obtain ⟨n, hx⟩ := getSome ns k hlt
      have hs2 := lens_le ns (k + 1)
      have hsc := lens_succ hx
      obtain ⟨b, off, A1, c1, rfl, hb1, d1, R1⟩ := hA k _ (rowMarks_at hx)
      rw [imarks_length] at d1
      have hki : (k : Int) < (ns.length : Int) := by omega
      have Hsc := Lib.hid hsc
      generalize hm : k0 + (lens ns k : Int) = m at *
      have hm0 : 0 ≤ m := by omega
      have hm1 : m ≤ 16777216 := by omega
      have hnn : n ≤ 1048576 := by omega
      have hneg : ¬ (m + (n : Int) < 0) := by omega
      have Hm := Lib.hid hm
      clear hx hm hsc
      go_wp2_with fail
      refine (heldIntS_any A1 n c1 m _ hnn ⟨hm0, hm1⟩ R1).mono ?_
      rintro e w2 ⟨rfl, rfl⟩
      go_wp2
      go_roundw
      case rel => exact ⟨k + 1, by omega, by go_num, by rw [Hsc.out, ← Hm.out]; congr 1; omega, trivial⟩
      case measure => simp [intOf]; omega
    · have hkl : k = ns.length := by omega
      have hge : ¬ ((k : Int) < (ns.length : Int)) := by omega
      have e : lens ns k = ns.sum := by unfold lens; rw [List.take_of_length_le (by omega)]
      rw [e]
      go_wp2
      go_ret
      exact ⟨rfl, rfl⟩
end Go.Proofs.Ytepoabbkalhifaa
/-
  A LIST OF LISTS OF NUMBERS OF THE CALL's OWN: its headers a row, each of its rows a row, all in blocks of their own; 'laws.markIntSS' by its contract.
-/
namespace Go.Proofs.Ytepoabbkalhifaa
open Go.RowKit

theorem own_apart {w : World} {B B' : Nat} {e e' : TypeId} {s s' n n' : Nat} {v v' : Value} {xs xs' : List Value} (h1 : w.ownsRow B e s v n xs) (h2 : w.ownsRow B' e' s' v' n' xs') (hne : e ≠ e') : v.ownBlock = none ∨ v.ownBlock ≠ v'.ownBlock := by
  rcases h1.2 with ⟨rfl, _⟩ | ⟨g, cap, cur, rfl, _, hh, _⟩
  · left; simp [Value.ownBlock]
  · right
    rcases h2.2 with ⟨rfl, _⟩ | ⟨g', cap', cur', rfl, _, hh', _⟩
    · simp [Value.ownBlock]
    · intro e3
      have e4 : g = g' := by simpa [Value.ownBlock] using e3
      subst e4
      rw [hh] at hh'
      injection hh' with h
      injection h with _ ht
      exact hne ht

/-- n rows of numbers, row i under the slice (R i, N i, C i) -/
structure RowsG (w : World) (B : Nat) (v : Value) (n : Nat) (R : Nat → Option Addr) (C N : Nat → Nat) (F : Nat → List Int) : Prop where
  own : w.ownsRow B 22 1 v n ((List.range n).map fun i => Value.slice (R i) (N i) (C i))
  row : ∀ i, i < n → (F i).length = N i ∧ w.ownsRow B 3 1 (.slice (R i) (N i) (C i)) (N i) (icells (F i))
  apart : ∀ i j, i < n → j < n → i ≠ j → (Value.slice (R i) (N i) (C i)).ownBlock = none ∨ (Value.slice (R i) (N i) (C i)).ownBlock ≠ (Value.slice (R j) (N j) (C j)).ownBlock
section
variable {w w' : World} {B n : Nat} {v : Value} {R : Nat → Option Addr} {C N : Nat → Nat} {F F' : Nat → List Int}
theorem RowsG.congr (h : RowsG w B v n R C N F) (e : ∀ i, i < n → F i = F' i) : RowsG w B v n R C N F' :=
  ⟨h.own, fun i hi => by rw [← e i hi]; exact h.row i hi, h.apart⟩
theorem RowsG.kept (h : RowsG w B v n R C N F) (hg : w.grownBy w' none) : RowsG w' B v n R C N F :=
  ⟨h.own.kept hg (by cases v.ownBlock <;> simp), fun i hi => ⟨(h.row i hi).1, (h.row i hi).2.kept hg (by cases (Value.slice (R i) (N i) (C i)).ownBlock <;> simp)⟩, h.apart⟩
/-- another row i of the same length -/
theorem RowsG.set (h : RowsG w B v n R C N F) {k : Nat} (hk : k < n) {l : List Int} (hl : l.length = N k) (hg : w.grownBy w' (Value.slice (R k) (N k) (C k)).ownBlock) (ho : w'.ownsRow B 3 1 (.slice (R k) (N k) (C k)) (N k) (icells l)) :
    RowsG w' B v n R C N (fun i => if i = k then l else F i) := by
  refine ⟨h.own.kept hg (own_apart h.own (h.row k hk).2 (by decide)), fun i hi => ?_, h.apart⟩
  by_cases e : i = k
  · subst e
    simp only [if_true]
    exact ⟨hl, ho⟩
  · simp only [if_neg e]
    exact ⟨(h.row i hi).1, (h.row i hi).2.kept hg (h.apart i k hi hk e)⟩
theorem RowsG.read {A : Option Addr} {c : Nat} {LL : List (List Int)} (h : RowsG w B (.slice A n c) n R C N F) (hn : LL.length = n) (hL : ∀ i l, LL[i]? = some l → F i = l) : SRead w w.heap.size A LL := by
  intro i l hi
  have hin : i < n := by have := (List.getElem?_eq_some_iff.1 hi).1; omega
  obtain ⟨g, rfl⟩ := own_form h.own (by omega)
  obtain ⟨h1, h2⟩ := h.row i hin
  rw [hL i l hi] at h1 h2
  refine ⟨g, 0, R i, C i, rfl, (own_lt h.own).2, ?_, CRead.of_own h2⟩
  rw [Nat.zero_add, h.own.cellAt i (by omega)]
  simp [hin, h1]
end

set_option maxHeartbeats 2000000 in
set_option maxRecDepth 100000 in
theorem markIntSS_any (ns : List Nat) (A : Option Addr) (c : Nat) (k0 : Int) (B : Nat) (R : Nat → Option Addr) (C : Nat → Nat) (F : Nat → List Int) (w : World) (hl : ns.length ≤ 1048576) (hs : ns.sum ≤ 1048576) (hk0 : 0 ≤ k0 ∧ k0 ≤ 8388608) (hB : B ≤ w.heap.size)
    (h : RowsG w B (.slice A ns.length c) ns.length R C (fun i => ns.getD i 0) F) :
    Calls Try.prog 40 #[.slice A ns.length c, .int .i64 k0] w fun e w' => e = .returned (.int .i64 (k0 + ns.sum)) ∧ RowsG w' B (.slice A ns.length c) ns.length R C (fun i => ns.getD i 0) (fun i => imarks (k0 + lens ns i) (ns.getD i 0)) ∧ Below B w w' := by
  obtain ⟨hk00, hk01⟩ := hk0
  go_enter Try.func40, Try.ntmps40
  go_wp2_with fail
  go_loopw [1, 5] (fun q i wr => ∃ k : Nat, k ≤ ns.length ∧ i = .int .i64 k ∧ q = .int .i64 (k0 + lens ns k) ∧ RowsG wr B (.slice A ns.length c) ns.length R C (fun i => ns.getD i 0) (fun i => if i < k then imarks (k0 + lens ns i) (ns.getD i 0) else F i) ∧ Below B w wr) (fun _ i _ => ns.length - (intOf i).toNat)
  case atStart => exact ⟨0, Nat.zero_le _, rfl, by simp [lens], h.congr fun i _ => by rw [if_neg (Nat.not_lt_zero _)], Below.refl _ _⟩
  case round =>
    clear h
    obtain ⟨k, hk, rfl, rfl, hG, hb⟩ := hrel
    have hs1 := lens_le ns k
    have hBr : B ≤ wr.heap.size := Nat.le_trans hB hb.size
    by_cases hlt : k < ns.length
    · obtain ⟨n, hx⟩ := getSome ns k hlt
      have hs2 := lens_le ns (k + 1)
      have hsc := lens_succ hx
      have hgd : ns.getD k 0 = n := by rw [List.getD_eq_getElem?_getD, hx]; rfl
      obtain ⟨g, rfl⟩ := own_form hG.own (by omega)
      have d1 : wr.cell? ⟨g, k, none⟩ = some (.slice (R k) n (C k)) := by
        rw [hG.own.cellAt k (by omega)]
        simp only [List.getElem?_map, List.getElem?_range hlt, Option.map_some, hgd]
      obtain ⟨h1, h2⟩ := hG.row k hlt
      rw [if_neg (Nat.lt_irrefl k)] at h1 h2
      rw [hgd] at h1 h2
      have hki : (k : Int) < (ns.length : Int) := by omega
      have HG := Lib.hid hG
      have Hsc := Lib.hid hsc
      have Hgd := Lib.hid hgd
      generalize hm : k0 + (lens ns k : Int) = m at *
      have hm0 : 0 ≤ m := by omega
      have hm1 : m ≤ 16777216 := by omega
      have hnn : n ≤ 1048576 := by omega
      have Hm := Lib.hid hm
      clear hx hm hsc hG hgd
      go_wp2_with fail
      refine (markIntS_any (F k) (R k) n (C k) m B _ h1 hnn ⟨hm0, hm1⟩ h2).mono ?_
      rintro e w2 ⟨rfl, own2, hg2⟩
      have hb2 := hb.grown hg2 hBr (fun i hi => (h2.lt i hi).1)
      have G2 := Lib.hid ((HG.out.set hlt (l := imarks m n) (by rw [imarks_length]; exact Hgd.out.symm) (by simp only [Hgd.out]; exact hg2) (by simp only [Hgd.out]; exact own2)).congr (F' := fun i => if i < k + 1 then imarks (k0 + lens ns i) (ns.getD i 0) else F i) fun i _ => by
        by_cases e : i = k
        · subst e
          simp only [if_true, if_pos (Nat.lt_succ_self i), Hm.out, Hgd.out]
        · simp only [if_neg e]
          by_cases h3 : i < k
          · simp only [if_pos h3, if_pos (Nat.lt_succ_of_lt h3)]
          · simp only [if_neg h3, if_neg (show ¬ i < k + 1 by omega)])
      clear own2 hg2 h2 h1
      go_wp2
      go_roundw
      case rel => exact ⟨k + 1, by omega, by go_num, by rw [Hsc.out, ← Hm.out]; congr 1; omega, G2.out, hb2⟩
      case measure => simp [intOf]; omega
    · have hkl : k = ns.length := by omega
      have hge : ¬ ((k : Int) < (ns.length : Int)) := by omega
      have e : lens ns k = ns.sum := by unfold lens; rw [List.take_of_length_le (by omega)]
      rw [e]
      have HG := Lib.hid (hG.congr (F' := fun i => imarks (k0 + lens ns i) (ns.getD i 0)) fun i hi => by rw [if_pos (by omega)])
      clear hG
      go_wp2
      go_ret
      exact ⟨rfl, HG.out, hb⟩
end Go.Proofs.Ytepoabbkalhifaa
/-
  A LIST OF LISTS OF NUMBERS OF THE CALL's OWN: a row of none put behind it, and a number put behind one of its rows.
-/
namespace Go.Proofs.Ytepoabbkalhifaa
open Go.RowKit

section
variable {w w' w2 : World} {B n : Nat} {v v' : Value} {R : Nat → Option Addr} {C N : Nat → Nat} {F : Nat → List Int}
def upN {α : Type} (f : Nat → α) (k : Nat) (x : α) : Nat → α := fun i => if i = k then x else f i
theorem upN_self {α : Type} (f : Nat → α) (k : Nat) (x : α) : upN f k x k = x := by simp [upN]
theorem upN_ne {α : Type} (f : Nat → α) {k i : Nat} (x : α) (h : i ≠ k) : upN f k x i = f i := by simp [upN, h]
/-- behind an append of one header, nil -/
theorem RowsG.push (h : RowsG w B v n R C N F) (hg : w.grownBy w' v.ownBlock) (ho : w'.ownsRow B 22 1 v' (n + 1) (((List.range n).map fun i => Value.slice (R i) (N i) (C i)) ++ [.slice none 0 0])) :
    RowsG w' B v' (n + 1) (upN R n none) (upN C n 0) (upN N n 0) (upN F n []) := by
  refine ⟨?_, fun i hi => ?_, fun i j hi hj hij => ?_⟩
  · rw [List.range_succ, List.map_append, List.map_singleton, upN_self, upN_self, upN_self]
    rw [List.map_congr_left (g := fun i => Value.slice (R i) (N i) (C i)) fun i hi => by
      have : i ≠ n := by have := List.mem_range.1 hi; omega
      rw [upN_ne _ _ this, upN_ne _ _ this, upN_ne _ _ this]]
    exact ho
  · by_cases e : i = n
    · subst e
      simp only [upN_self]
      exact ⟨rfl, World.ownsRow_nil _ _ _ _⟩
    · simp only [upN_ne _ _ e]
      have hin : i < n := by omega
      exact ⟨(h.row i hin).1, (h.row i hin).2.kept hg (own_apart (h.row i hin).2 h.own (by decide))⟩
  · by_cases e : i = n
    · subst e
      simp only [upN_self]
      left; simp [Value.ownBlock]
    · simp only [upN_ne _ _ e]
      by_cases e2 : j = n
      · subst e2
        simp only [upN_self]
        cases hq : (Value.slice (R i) (N i) (C i)).ownBlock with
        | none => exact .inl rfl
        | some b => right; simp [Value.ownBlock]
      · simp only [upN_ne _ _ e2]
        exact h.apart i j (by omega) (by omega) hij
theorem map_range_set {α : Type} (f : Nat → α) (k : Nat) (x : α) (n : Nat) : ((List.range n).map f).set k x = (List.range n).map (upN f k x) := by
  apply List.ext_getElem (by simp)
  intro j h1 h2
  rw [List.getElem_set]
  simp only [List.getElem_map, List.getElem_range]
  by_cases e : k = j
  · subst e; simp [upN]
  · rw [if_neg e, upN_ne _ _ (fun h => e h.symm)]
/-- behind an append of a number to row k and the store of its header -/
theorem RowsG.grow {g c : Nat} (h : RowsG w B (.slice (some ⟨g, 0, none⟩) n c) n R C N F) {k : Nat} (hk : k < n) {x : Int} {b d : Nat}
    (hg : w.grownBy w2 (Value.slice (R k) (N k) (C k)).ownBlock) (ho : w2.ownsRow B 3 1 (.slice (some ⟨b, 0, none⟩) (N k + 1) d) (N k + 1) (icells (F k) ++ [.int .i64 x]))
    (hat : (Value.slice (R k) (N k) (C k)).ownBlock = some b ∨ b = w.heap.size) :
    RowsG (w2.setCell ⟨g, k, none⟩ (.slice (some ⟨b, 0, none⟩) (N k + 1) d)) B (.slice (some ⟨g, 0, none⟩) n c) n (upN R k (some ⟨b, 0, none⟩)) (upN C k d) (upN N k (N k + 1)) (upN F k (F k ++ [x])) := by
  have own2 := h.own.kept hg (own_apart h.own (h.row k hk).2 (by decide))
  have hst := own2.stored k (.slice (some ⟨b, 0, none⟩) (N k + 1) d)
  have hob : (Value.slice (some ⟨g, 0, none⟩) n c).ownBlock = some g := by simp [Value.ownBlock]
  refine ⟨?_, fun i hi => ?_, fun i j hi hj hij => ?_⟩
  · have h1 := hst.1
    rw [map_range_set] at h1
    rw [List.map_congr_left (g := upN (fun i => Value.slice (R i) (N i) (C i)) k (.slice (some ⟨b, 0, none⟩) (N k + 1) d)) fun i _ => by
      by_cases e : i = k
      · subst e; simp only [upN_self]
      · simp only [upN_ne _ _ e]]
    exact h1
  · by_cases e : i = k
    · subst e
      simp only [upN_self]
      refine ⟨by rw [List.length_append, (h.row i hi).1]; rfl, ?_⟩
      rw [icells_append]
      refine World.ownsRow.kept ho hst.2 ?_
      rw [← hob]
      exact own_apart ho own2 (by decide)
    · simp only [upN_ne _ _ e]
      have hr := (h.row i hi).2.kept hg (h.apart i k hi hk e)
      refine ⟨(h.row i hi).1, hr.kept hst.2 ?_⟩
      rw [← hob]
      exact own_apart hr own2 (by decide)
  · have hlt : ∀ i, i < n → ∀ m, (Value.slice (R i) (N i) (C i)).ownBlock = some m → m < w.heap.size := fun i hi m hm => ((h.row i hi).2.lt m hm).2
    have hbn : (Value.slice (some ⟨b, 0, none⟩) (N k + 1) d).ownBlock = some b := by simp [Value.ownBlock]
    by_cases e : i = k
    · subst e
      simp only [upN_self, upN_ne _ _ (fun h => hij h.symm), hbn]
      right
      intro e2
      rcases hat with h1 | h1
      · rcases h.apart i j hi hj hij with h2 | h2
        · rw [h1] at h2; cases h2
        · exact h2 (h1.trans e2)
      · have := hlt j hj b e2.symm
        omega
    · by_cases e2 : j = k
      · subst e2
        simp only [upN_self, upN_ne _ _ e, hbn]
        cases hq : (Value.slice (R i) (N i) (C i)).ownBlock with
        | none => exact .inl rfl
        | some m =>
          right
          intro e3
          have e4 : m = b := by simpa using e3
          subst e4
          rcases hat with h1 | h1
          · rcases h.apart i j hi hj hij with h2 | h2
            · rw [hq] at h2; cases h2
            · exact h2 (hq.trans h1.symm)
          · have := hlt i hi m hq
            omega
      · simp only [upN_ne _ _ e, upN_ne _ _ e2]
        exact h.apart i j hi hj hij
end
end Go.Proofs.Ytepoabbkalhifaa
/-
  HOW MANY FRIENDS EACH PERSON HAS: the model's count and the program's, by their contracts.
-/
namespace Go.Proofs.Ytepoabbkalhifaa
open Go.RowKit

def bump (acc : List Int) (a : Int) : List Int := acc.set a.toNat (acc.getD a.toNat 0 + 1)
def numsOf (n : Nat) (l : PL) : List Int := l.foldl (fun acc q => bump (bump acc q.1) q.2) (List.replicate n 0)
theorem bump_length (acc : List Int) (a : Int) : (bump acc a).length = acc.length := by simp [bump]
theorem bump_at {acc : List Int} {a : Nat} {u : Int} (h : acc[a]? = some u) : bump acc (a : Int) = acc.set a (u + 1) := by simp [bump, List.getD, h]
theorem numsOf_snoc (n : Nat) (l : PL) (q : Int × Int) : numsOf n (l ++ [q]) = bump (bump (numsOf n l) q.1) q.2 := by simp [numsOf, List.foldl_append]
theorem numsOf_length (n : Nat) (l : PL) : (numsOf n l).length = n := by
  unfold numsOf
  suffices h : ∀ (l : PL) (acc : List Int), acc.length = n → (l.foldl (fun acc q => bump (bump acc q.1) q.2) acc).length = n from h l _ (by simp)
  intro l
  induction l with
  | nil => intro acc h; exact h
  | cons q l ih => intro acc h; exact ih _ (by rw [bump_length, bump_length, h])
def Small (acc : List Int) (m : Nat) : Prop := ∀ (i : Nat) (x : Int), acc[i]? = some x → 0 ≤ x ∧ x ≤ m
theorem small_zero (n m : Nat) : Small (List.replicate n 0) m := by
  intro i x h
  rw [List.getElem?_replicate] at h
  split at h
  · simp at h; omega
  · cases h
theorem small_set {acc : List Int} {m a : Nat} {u : Int} (h : Small acc m) (ha : acc[a]? = some u) : Small (acc.set a (u + 1)) (m + 1) := by
  intro i x hx
  have hu := h a u ha
  rw [List.getElem?_set] at hx
  split at hx
  · split at hx
    · simp at hx; omega
    · cases hx
  · have := h i x hx; omega
def resNumbersOfFriends (p : Int) (l : PL) : List Int × Bool := if isP p l then (numsOf p.toNat l, true) else ([], false)
theorem resNumbersOfFriends_len (p : Int) (l : PL) : (resNumbersOfFriends p l).1.length ≤ 1048576 := by
  unfold resNumbersOfFriends
  split
  · rename_i h
    have := isP_range h
    rw [numsOf_length]
    omega
  · simp

/-- what one pair does to the row of numbers (the walk writes a store into an old block ahead of a new block) -/
theorem numbers_round {w : World} {B e g n cap a b : Nat} {acc : List Int} {u v : Int} (hown : w.ownsRow B e 1 (.slice (some ⟨g, 0, none⟩) n cap) n (icells acc)) (hu : acc[a]? = some u) (hv : acc[b]? = some v) (hab : a ≠ b) (o : Obj) :
    (w.alloc o).cell? ⟨g, a, none⟩ = some (.int .i64 u) ∧ (w.alloc o).frozen? ⟨g, a, none⟩ = false ∧
      ((w.setCell ⟨g, a, none⟩ (.int .i64 (u + 1))).alloc o).cell? ⟨g, b, none⟩ = some (.int .i64 v) ∧ ((w.setCell ⟨g, a, none⟩ (.int .i64 (u + 1))).alloc o).frozen? ⟨g, b, none⟩ = false ∧
      (((w.setCell ⟨g, a, none⟩ (.int .i64 (u + 1))).setCell ⟨g, b, none⟩ (.int .i64 (v + 1))).alloc o).ownsRow B e 1 (.slice (some ⟨g, 0, none⟩) n cap) n (icells (bump (bump acc a) b)) := by
  have h1 := hown.alloc o
  have h2 := own_setInt hown a (u + 1)
  have h2' := h2.alloc o
  have hv2 : (acc.set a (u + 1))[b]? = some v := by rw [List.getElem?_set_ne hab]; exact hv
  have h3 := own_setInt h2 b (v + 1)
  refine ⟨own_intAt h1 hu, h1.frozenAt _, own_intAt h2' hv2, h2'.frozenAt _, ?_⟩
  rw [bump_at hu, bump_at hv2]
  exact h3.alloc o

end Go.Proofs.Ytepoabbkalhifaa
/-
  THE PARTS OF A PARTY: 'impl.allPeople' and 'impl.firstOnes', by their contracts.
-/
namespace Go.Proofs.Ytepoabbkalhifaa
open Go.RowKit

/-- 0, 1, .. below k, and 0 from there on -/
def pplTo (n k : Nat) : List Int := (List.range n).map fun j => if j < k then (j : Int) else 0
def people (n : Nat) : List Int := pplTo n n
theorem pplTo_length (n k : Nat) : (pplTo n k).length = n := by simp [pplTo]
theorem pplTo_at {n k j : Nat} (h : j < n) : (pplTo n k)[j]? = some (if j < k then (j : Int) else 0) := by simp [pplTo, h]
theorem pplTo_zero (n : Nat) : pplTo n 0 = List.replicate n 0 := by
  apply List.ext_getElem (by simp [pplTo])
  intro j h1 h2
  simp [pplTo]
theorem pplTo_set (n k : Nat) : (pplTo n k).set k (k : Int) = pplTo n (k + 1) := by
  apply List.ext_getElem (by simp [pplTo])
  intro j h1 h2
  rw [List.getElem_set]
  by_cases h : k = j
  · subst h; simp [pplTo]
  · rw [if_neg h]
    simp only [pplTo, List.getElem_map, List.getElem_range]
    by_cases h3 : j < k
    · rw [if_pos h3, if_pos (by omega)]
    · rw [if_neg h3, if_neg (by omega)]
theorem people_at {n j : Nat} (h : j < n) : (people n)[j]? = some (j : Int) := by unfold people; rw [pplTo_at h, if_pos h]
theorem people_length (n : Nat) : (people n).length = n := pplTo_length n n

/-- the first k of a list, hi turned into lo -/
def relTo (acc : List Int) (hi lo : Int) (k : Nat) : List Int := acc.mapIdx fun j f => if j < k ∧ f = hi then lo else f
theorem relTo_length (acc : List Int) (hi lo : Int) (k : Nat) : (relTo acc hi lo k).length = acc.length := by simp [relTo]
theorem relTo_zero (acc : List Int) (hi lo : Int) : relTo acc hi lo 0 = acc := by
  apply List.ext_getElem (by simp [relTo])
  intro j h1 h2
  simp [relTo]
theorem relTo_at {acc : List Int} {k : Nat} {f : Int} (hi lo : Int) (h : acc[k]? = some f) : (relTo acc hi lo k)[k]? = some f := by
  unfold relTo
  rw [List.getElem?_mapIdx, h]
  simp
theorem relTo_hit {acc : List Int} {k : Nat} {hi lo : Int} (h : acc[k]? = some hi) : (relTo acc hi lo k).set k lo = relTo acc hi lo (k + 1) := by
  have hk := (List.getElem?_eq_some_iff.1 h)
  apply List.ext_getElem (by simp [relTo])
  intro j h1 h2
  rw [List.getElem_set]
  simp only [relTo, List.getElem_mapIdx]
  by_cases e : k = j
  · subst e
    rw [if_pos rfl, if_pos ⟨by omega, hk.2⟩]
  · rw [if_neg e]
    by_cases h3 : j < k
    · simp only [h3, true_and, show j < k + 1 by omega]
    · rw [if_neg (by omega), if_neg (by omega)]
theorem relTo_miss {acc : List Int} {k : Nat} {f hi lo : Int} (h : acc[k]? = some f) (hne : f ≠ hi) : relTo acc hi lo k = relTo acc hi lo (k + 1) := by
  have hk := (List.getElem?_eq_some_iff.1 h)
  apply List.ext_getElem (by simp [relTo])
  intro j h1 h2
  simp only [relTo, List.getElem_mapIdx]
  by_cases e : k = j
  · subst e
    rw [if_neg (by omega), if_neg (fun x => hne (hk.2 ▸ x.2))]
  · by_cases h3 : j < k
    · simp only [h3, true_and, show j < k + 1 by omega]
    · rw [if_neg (by omega), if_neg (by omega)]
/-- a pair makes one part of two: the greater first one becomes the less -/
def joinI (acc : List Int) (q : Int × Int) : List Int := relTo acc (max (acc.getD q.1.toNat 0) (acc.getD q.2.toNat 0)) (min (acc.getD q.1.toNat 0) (acc.getD q.2.toNat 0)) acc.length
def firstI (n : Nat) (l : PL) : List Int := l.foldl joinI (people n)
theorem firstI_snoc (n : Nat) (l : PL) (q : Int × Int) : firstI n (l ++ [q]) = joinI (firstI n l) q := by simp [firstI, List.foldl_append]
theorem firstI_length (n : Nat) (l : PL) : (firstI n l).length = n := by
  unfold firstI
  suffices h : ∀ (l : PL) (acc : List Int), acc.length = n → (l.foldl joinI acc).length = n from h l _ (people_length n)
  intro l
  induction l with
  | nil => intro acc h; exact h
  | cons q l ih => intro acc h; exact ih _ (by rw [joinI, relTo_length, h])
theorem joinI_at {acc : List Int} {n a b : Nat} {x y : Int} (hn : acc.length = n) (hx : acc[a]? = some x) (hy : acc[b]? = some y) : joinI acc (a, b) = relTo acc (max x y) (min x y) n := by
  simp [joinI, List.getD_eq_getElem?_getD, hx, hy, hn]

end Go.Proofs.Ytepoabbkalhifaa
/-
  THE PARTS OF A PARTY, pure: the label that 'firstOnes' gives to each person tells its part.
-/
namespace Go.Proofs.Ytepoabbkalhifaa
open Go.RowKit

theorem snocRec {α : Type} {P : List α → Prop} (nil : P []) (append_singleton : ∀ l r, P l → P (l ++ [r])) (l : List α) : P l := by
  have h : ∀ m : List α, P m.reverse := by
    intro m
    induction m with
    | nil => exact nil
    | cons a m ih => rw [List.reverse_cons]; exact append_singleton _ _ ih
  have := h l.reverse
  rwa [List.reverse_reverse] at this
/-- the label of a person -/
def lab (n : Nat) (l : PL) (c : Nat) : Int := (firstI n l).getD c 0
theorem lab_nil {n c : Nat} (hc : c < n) : lab n [] c = c := by
  unfold lab
  rw [List.getD_eq_getElem?_getD, show firstI n [] = people n from rfl, people_at hc]
  rfl
theorem lab_snoc {n c : Nat} (l : PL) (q : Int × Int) (hc : c < n) :
    lab n (l ++ [q]) c = if lab n l c = max (lab n l q.1.toNat) (lab n l q.2.toNat) then min (lab n l q.1.toNat) (lab n l q.2.toNat) else lab n l c := by
  have hl : c < (firstI n l).length := by rw [firstI_length]; exact hc
  unfold lab
  rw [firstI_snoc, joinI]
  generalize max ((firstI n l).getD q.1.toNat 0) ((firstI n l).getD q.2.toNat 0) = hi
  generalize min ((firstI n l).getD q.1.toNat 0) ((firstI n l).getD q.2.toNat 0) = lo
  simp only [List.getD_eq_getElem?_getD, relTo, List.getElem?_mapIdx, List.getElem?_eq_getElem hl, Option.map_some, Option.getD_some, hl, true_and]
/-- a pair's two people have one label -/
theorem lab_pair {n : Nat} {l : PL} (h : ∀ q ∈ l, q.1.toNat < n ∧ q.2.toNat < n) : ∀ q ∈ l, lab n l q.1.toNat = lab n l q.2.toNat := by
  induction l using snocRec with
  | nil => intro q hq; cases hq
  | append_singleton l r ih =>
    intro q hq
    have hqn := h q hq
    rw [lab_snoc l r hqn.1, lab_snoc l r hqn.2]
    rcases List.mem_append.1 hq with hm | hm
    · rw [ih (fun s hs => h s (by simp [hs])) q hm]
    · have e : q = r := by simpa using hm
      subst e
      generalize lab n l q.1.toNat = x
      generalize lab n l q.2.toNat = y
      by_cases hxy : x ≤ y
      · by_cases h2 : x = y
        · rw [h2]
        · rw [if_neg (by omega), if_pos (by omega)]; omega
      · rw [if_pos (by omega), if_neg (by omega)]; omega
/-- the label of a person is one of its part, not later than it, and its own label -/
theorem lab_own {n : Nat} {l : PL} (h : ∀ q ∈ l, q.1.toNat < n ∧ q.2.toNat < n) : ∀ c, c < n → 0 ≤ lab n l c ∧ lab n l c ≤ c ∧ lab n l (lab n l c).toNat = lab n l c := by
  induction l using snocRec with
  | nil =>
    intro c hc
    rw [lab_nil hc]
    simp only [Int.toNat_natCast]
    exact ⟨by omega, by omega, lab_nil hc⟩
  | append_singleton l r ih =>
    have ih := ih (fun s hs => h s (by simp [hs]))
    have hr := h r (by simp)
    intro c hc
    have i1 := ih c hc
    have i2 := ih _ hr.1
    have i3 := ih _ hr.2
    rw [lab_snoc l r hc]
    have hm : ∀ m : Int, 0 ≤ m → m < n → lab n l m.toNat = m → lab n (l ++ [r]) m.toNat = if m = max (lab n l r.1.toNat) (lab n l r.2.toNat) then min (lab n l r.1.toNat) (lab n l r.2.toNat) else m := fun m h0 h1 he => by
      rw [lab_snoc l r (by omega), he]
    generalize lab n l c = f at *
    generalize lab n l r.1.toNat = x at *
    generalize lab n l r.2.toNat = y at *
    by_cases hf : f = max x y
    · rw [if_pos hf]
      have hlo : lab n l (min x y).toNat = min x y := by
        rcases Int.le_total x y with e | e
        · rw [Int.min_eq_left e]; exact i2.2.2
        · rw [Int.min_eq_right e]; exact i3.2.2
      refine ⟨by omega, by omega, ?_⟩
      rw [hm _ (by omega) (by omega) hlo]
      split <;> rfl
    · rw [if_neg hf]
      refine ⟨i1.1, i1.2.1, ?_⟩
      rw [hm _ i1.1 (by omega) i1.2.2, if_neg hf]
/-- a set that no pair leaves holds with a person all of its label -/
theorem lab_closed {n : Nat} {l : PL} {S : Nat → Prop} (h : ∀ q ∈ l, q.1.toNat < n ∧ q.2.toNat < n) (hS : ∀ q ∈ l, S q.1.toNat ↔ S q.2.toNat) : ∀ a c, a < n → c < n → lab n l a = lab n l c → (S a ↔ S c) := by
  induction l using snocRec with
  | nil =>
    intro a c ha hc e
    rw [lab_nil ha, lab_nil hc] at e
    rw [show a = c by omega]
  | append_singleton l r ih =>
    have ih := ih (fun s hs => h s (by simp [hs])) (fun s hs => hS s (by simp [hs]))
    have hr := h r (by simp)
    have hs := hS r (by simp)
    intro a c ha hc e
    rw [lab_snoc l r ha, lab_snoc l r hc] at e
    have k1 := ih a _ ha hr.1
    have k2 := ih a _ ha hr.2
    have k3 := ih c _ hc hr.1
    have k4 := ih c _ hc hr.2
    have k5 := ih a c ha hc
    generalize lab n l a = f at *
    generalize lab n l c = g at *
    generalize lab n l r.1.toNat = x at *
    generalize lab n l r.2.toNat = y at *
    by_cases hfg : f = g
    · exact k5 hfg
    · by_cases h1 : f = max x y
      · have h2 : g = min x y := by
          rw [if_pos h1] at e
          split at e <;> omega
        rcases Int.le_total x y with e2 | e2
        · rw [k2 (by omega), k3 (by omega), hs]
        · rw [k1 (by omega), k4 (by omega), hs]
      · rw [if_neg h1] at e
        have h2 : g = max x y := by
          split at e
          · assumption
          · exact absurd e hfg
        have h3 : f = min x y := by rw [if_pos h2] at e; exact e
        rcases Int.le_total x y with e2 | e2
        · rw [k1 (by omega), k4 (by omega), hs]
        · rw [k2 (by omega), k3 (by omega), hs]
end Go.Proofs.Ytepoabbkalhifaa
/-
  COLOURS GIVEN ONE AFTER THE OTHER, as plain lists: the least one that nobody tied has. Nothing here speaks of the program.
-/
namespace Go.Proofs.Ytepoabbkalhifaa
open Go.RowKit

def hasTo (t : Nat → Nat → Bool) (col : Nat → Int) (j a : Nat) (c : Int) : Bool := (List.range j).any fun b => t a b && decide (col b = c)
theorem hasTo_zero (t : Nat → Nat → Bool) (col : Nat → Int) (a : Nat) (c : Int) : hasTo t col 0 a c = false := rfl
theorem hasTo_succ (t : Nat → Nat → Bool) (col : Nat → Int) (j a : Nat) (c : Int) : hasTo t col (j + 1) a c = (hasTo t col j a c || (t a j && decide (col j = c))) := by simp [hasTo, List.range_succ, List.any_append]
def freeC (t : Nat → Nat → Bool) (col : Nat → Int) (n K a : Nat) : Nat := ((List.range K).find? fun c : Nat => !hasTo t col n a (c : Int)).getD K
theorem freeC_eq {t : Nat → Nat → Bool} {col : Nat → Int} {n K a c : Nat} (h1 : ∀ c', c' < c → hasTo t col n a (c' : Int) = true) (h2 : c < K → hasTo t col n a (c : Int) = false) (hc : c ≤ K) : freeC t col n K a = c := by
  unfold freeC
  by_cases hK : c < K
  · have e : (List.range K).find? (fun c : Nat => !hasTo t col n a (c : Int)) = some c := by
      rw [List.find?_eq_some_iff_getElem]
      refine ⟨by simp [h2 hK], c, by simpa using hK, by simp, fun j hj => ?_⟩
      simp [h1 j hj]
    rw [e]; rfl
  · have e : (List.range K).find? (fun c : Nat => !hasTo t col n a (c : Int)) = none := by
      rw [List.find?_eq_none]
      intro x hx
      have := List.mem_range.1 hx
      simp [h1 x (by omega)]
    rw [e]
    show K = c
    omega
def stepC (t : Nat → Nat → Bool) (n : Nat) (s : (Nat → Int) × Nat) (x : Int) : (Nat → Int) × Nat :=
  (upN s.1 x.toNat (freeC t s.1 n s.2 x.toNat : Int), if freeC t s.1 n s.2 x.toNat = s.2 then s.2 + 1 else s.2)
def runC (t : Nat → Nat → Bool) (n : Nat) (q : List Int) : (Nat → Int) × Nat := q.foldl (stepC t n) (fun _ => -1, 0)
theorem runC_snoc (t : Nat → Nat → Bool) (n : Nat) (q : List Int) (x : Int) : runC t n (q ++ [x]) = stepC t n (runC t n q) x := by simp [runC, List.foldl_append]
theorem freeC_le (t : Nat → Nat → Bool) (col : Nat → Int) (n K a : Nat) : freeC t col n K a ≤ K := by
  unfold freeC
  cases e : (List.range K).find? fun c : Nat => !hasTo t col n a (c : Int) with
  | none => exact Nat.le_refl _
  | some c => have := List.mem_range.1 (List.mem_of_find?_eq_some e); simp; omega
structure Coloured (q : List Int) (s : (Nat → Int) × Nat) : Prop where
  low : ∀ b, s.1 b = -1 ∨ 0 ≤ s.1 b ∧ s.1 b < s.2
  few : s.2 ≤ q.length
  all : ∀ x ∈ q, 0 ≤ s.1 x.toNat
theorem runC_good (t : Nat → Nat → Bool) (n : Nat) (q : List Int) : Coloured q (runC t n q) := by
  induction q using snocRec with
  | nil => exact ⟨fun b => .inl rfl, Nat.le_refl _, fun x hx => by cases hx⟩
  | append_singleton q x ih =>
    rw [runC_snoc]
    have hle := freeC_le t (runC t n q).1 n (runC t n q).2 x.toNat
    unfold stepC
    obtain ⟨F, hF⟩ : ∃ F, freeC t (runC t n q).1 n (runC t n q).2 x.toNat = F := ⟨_, rfl⟩
    rw [hF] at hle ⊢
    have h1 := ih.low
    have h2 := ih.few
    have h3 := ih.all
    refine ⟨fun b => ?_, ?_, fun y hy => ?_⟩
    · by_cases hb : b = x.toNat
      · subst hb
        right
        simp only [upN_self]
        split <;> omega
      · simp only [upN_ne _ _ hb]
        rcases h1 b with h | h
        · exact .inl h
        · right; split <;> omega
    · simp only [List.length_append, List.length_singleton]
      split <;> omega
    · by_cases hb : y.toNat = x.toNat
      · simp only [hb, upN_self]; omega
      · simp only [upN_ne _ _ hb]
        rcases List.mem_append.1 hy with h | h
        · exact h3 y h
        · simp at h; subst h; exact absurd rfl hb
theorem hasTo_over {t : Nat → Nat → Bool} {q : List Int} {s : (Nat → Int) × Nat} (h : Coloured q s) (n a : Nat) {c : Nat} (hc : s.2 ≤ c) : hasTo t s.1 n a (c : Int) = false := by
  unfold hasTo
  rw [List.any_eq_false]
  intro b _
  have := h.low b
  simp
  omega
def colsG (t : Nat → Nat → Bool) (n : Nat) (q : List Int) : List Int := (List.range n).map (runC t n q).1
/-- the program's list: those who have no colour yet have the first one -/
def posC (col : Nat → Int) (b : Nat) : Int := if col b < 0 then 0 else col b
theorem posC_up (col : Nat → Int) (a c : Nat) : upN (posC col) a (c : Int) = posC (upN col a (c : Int)) := by
  funext b
  unfold posC
  by_cases hb : b = a
  · subst hb; simp only [upN_self]; rw [if_neg (by omega)]
  · simp only [upN_ne _ _ hb]
theorem naming_nat {n : Nat} {q : List Int} (h : isNamingI n q = true) : ∀ b, b < n → (b : Int) ∈ q := fun b hb => naming_all h (i := b) (by omega)
theorem colsG_pos {t : Nat → Nat → Bool} {n : Nat} {q : List Int} (h : isNamingI n q = true) : (List.range n).map (posC (runC t n q).1) = colsG t n q := by
  unfold colsG
  refine List.map_congr_left fun b hb => ?_
  have hm := naming_nat h b (List.mem_range.1 hb)
  have := (runC_good t n q).all _ hm
  rw [Int.toNat_natCast] at this
  unfold posC
  rw [if_neg (by omega)]
def resGreedyColouring (p : Int) (l : PL) (q : List Int) : List Int × Bool := if isP p l && isNamingI p q then (colsG (adj l) p.toNat q, true) else ([], false)
theorem resGreedyColouring_len (p : Int) (l : PL) (q : List Int) : (resGreedyColouring p l q).1.length ≤ 1048576 := by
  unfold resGreedyColouring
  split
  · rename_i h
    have := isP_range (show isP p l = true by rw [Bool.and_eq_true] at h; exact h.1)
    simp [colsG]
    omega
  · simp
theorem map_range_at {α : Type} (f : Nat → α) {n k : Nat} (h : k < n) : ((List.range n).map f)[k]? = some (f k) := by simp [h]
end Go.Proofs.Ytepoabbkalhifaa
/-
  'GreedyColouring' of the model, by its contract.
-/
namespace Go.Proofs.Ytepoabbkalhifaa
open Go.RowKit

set_option maxHeartbeats 4000000 in
set_option maxRecDepth 100000 in
theorem grOrder_any (n : Nat) (q : List Int) (B : Option Addr) (d : Nat) (w : World) (hn : n ≤ 12) (hq : q.length ≤ 1048576) (hd : q.length ≤ d) (hB : CRead w w.heap.size B (icells q)) :
    Calls Try.prog 92 #[.int .i64 n, .slice B q.length d] w fun e w' => e = .returned (.bool (isNamingI n q)) ∧ w = w' := by
  obtain ⟨r, hr⟩ : ∃ r, isNamingI n q = r := ⟨_, rfl⟩
  rw [hr]
  have Hr := Lib.hid hr
  by_cases hlen : (q.length : Int) = n
  · have hb : ((q.length : Int) == (n : Int)) = true := beq_iff_eq.2 hlen
    have hb2 : ((q.length : Int) != (n : Int)) = false := by simp [hlen]
    have hln : q.length = n := by omega
    cases hall : l1AllB q 0 ((n : Int) - 1) with
    | false =>
      have hf : r = false := by
        rw [← hr]
        cases e : isNamingI n q with
        | false => rfl
        | true =>
          obtain ⟨_, h2, _⟩ := isNamingI_parts e
          unfold l1AllB at hall
          rw [List.all_eq_false] at hall
          obtain ⟨x, hx, hx2⟩ := hall
          have := h2 x hx
          simp at hx2
          omega
      subst hf
      have Hall := Lib.hid hall
      clear hr hall hlen hln
      go_enter Try.func92, Try.ntmps92
      go_wp2_with fail
      refine (l1All_any q B d 0 ((n : Int) - 1) _ hq hB).mono ?_
      rw [Hall.out]
      rintro e w2 ⟨rfl, rfl⟩
      go_wp2
      go_ret
      exact ⟨rfl, rfl⟩
    | true =>
      have hmem : ∀ x ∈ q, 0 ≤ x ∧ x < n := fun x hx => by
        unfold l1AllB at hall
        have := List.all_eq_true.1 hall x hx
        simp at this
        omega
      have Hall := Lib.hid hall
      have Hmem := Lib.hid hmem
      have Hlen := Lib.hid hlen
      clear hr hall hmem hlen hln
      go_enter Try.func92, Try.ntmps92
      go_wp2_with fail
      refine (l1All_any q B d 0 ((n : Int) - 1) _ hq hB).mono ?_
      rw [Hall.out]
      rintro e w2 ⟨rfl, rfl⟩
      go_wp2
      go_loop [20] (fun i => ∃ k : Nat, k ≤ q.length ∧ i = .int .i64 k ∧ ∀ (j : Nat) (x : Int), j < k → q[j]? = some x → x ∉ q.take j) (fun i => q.length - (intOf i).toNat)
      case atStart => exact ⟨0, Nat.zero_le _, rfl, fun j x hj => by omega⟩
      case round =>
        obtain ⟨k, hk, rfl, hg⟩ := hrel
        have Hg := Lib.hid hg
        clear hg
        by_cases hlt : k < q.length
        · obtain ⟨x, hx⟩ := getSome q k hlt
          obtain ⟨b, off, rfl, hbb, u0⟩ := hB.int hx
          have hki : (k : Int) < (q.length : Int) := by omega
          have hkd : (k : Int) ≤ (d : Int) := by omega
          have hkd2 : k ≤ d := by omega
          have hlk : (q.take k).length = k := by rw [List.length_take]; omega
          have call := l1Has_any (q.take k) x (some ⟨b, off, none⟩) d w (by omega) (hB.front k)
          rw [hlk] at call
          have Call := Lib.hid call
          have Hx := Lib.hid hx
          clear hx call hlk
          cases hh : hasI (q.take k) x with
          | true =>
            have hf : r = false := by rw [← Hr.out]; exact isNamingI_dup Hx.out (hasI_mem.1 hh)
            subst hf
            have Hh := Lib.hid hh
            clear hh
            go_wp2_with fail
            refine Call.out.mono ?_
            rw [Hh.out]
            rintro e w5 ⟨rfl, rfl⟩
            go_wp2
            go_ret
            exact ⟨rfl, rfl⟩
          | false =>
            have Hnm := Lib.hid (show x ∉ q.take k from fun hm => by rw [hasI_mem.2 hm] at hh; cases hh)
            have Hh := Lib.hid hh
            clear hh
            go_wp2_with fail
            refine Call.out.mono ?_
            rw [Hh.out]
            rintro e w5 ⟨rfl, rfl⟩
            go_wp2
            go_round
            case rel => exact ⟨k + 1, by omega, by go_num, fun j y hj hy => by
                          by_cases e : j = k
                          · subst e
                            rw [Hx.out] at hy
                            rw [← Option.some.inj hy]
                            exact Hnm.out
                          · exact Hg.out j y (by omega) hy⟩
            case measure => simp [intOf]; omega
        · have hkl : k = q.length := by omega
          have hge : ¬ ((k : Int) < (q.length : Int)) := by omega
          have ht : r = true := by
            rw [← Hr.out]
            exact isNamingI_of Hlen.out fun j x hj hx => ⟨Hmem.out x (List.mem_of_getElem? hx), Hg.out j x (by omega) hx⟩
          subst ht
          go_wp2
          go_ret
          exact ⟨rfl, rfl⟩
  · have hb : ((q.length : Int) == (n : Int)) = false := by simp only [beq_eq_false_iff_ne, ne_eq]; exact hlen
    have hb2 : ((q.length : Int) != (n : Int)) = true := by simp [hlen]
    have hf : r = false := by rw [← hr]; exact isNamingI_len hlen
    subst hf
    clear hr hlen
    go_enter Try.func92, Try.ntmps92
    go_wp2
    go_ret
    exact ⟨rfl, rfl⟩
end Go.Proofs.Ytepoabbkalhifaa
