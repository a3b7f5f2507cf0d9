/-
  Texts put together for the claim of 'GrowGroup' (pack 6): GrowI, Ints, LawGrowGroup, Said, OpenL, Head, Facts, Door.
-/
import Derived.Test.YtnpljmipicjacaaDoorGrowGroupP1
import Derived.Test.YtnpljmipicjacaaDoorGrowGroupP2
import Derived.Test.YtnpljmipicjacaaDoorGrowGroupP4
import Derived.Test.YtnpljmipicjacaaDoorGrowGroupP5
import Derived.Deep.RegionHeld3
import Derived.BigQuiet
import Derived.Test.YtnpljmipicjacaaDoorRows
import Derived.ProofKit
import Derived.OpenShut
import Derived.Deep.SlicePairs
import Derived.Lib.SmallJoins
import Derived.Deep.Slices
import Derived.Test.YtnpljmipicjacaaDoorTie
import Derived.Test.YtnpljmipicjacaaDoorCards
import Derived.Lib.LaidTab
import Derived.LaidHandle
import Derived.SevenTiedAt
/-
  'GrowGroup' of the program, by its contract: crowds as numbers of sixteen bits.
-/
namespace Go.Proofs.YtnpljmipicjacaaDoor
open Go.RowKit

def crowdN (q : List Int) : Nat := q.foldl (fun J x => J ||| 2 ^ x.toNat) 0
theorem crowdN_snoc (q : List Int) (x : Int) : crowdN (q ++ [x]) = crowdN q ||| 2 ^ x.toNat := by simp [crowdN, List.foldl_append]
theorem crowdN_bits : ∀ (q : List Int), (∀ x ∈ q, 0 ≤ x ∧ x < 16) → BitsOf (crowdN q) q := by
  intro q
  induction q using snocRec with
  | nil => intro _; exact BitsOf.nil
  | append_singleton q x ih =>
    intro h
    have hx := h x (by simp)
    rw [crowdN_snoc]
    refine (ih fun y hy => h y (List.mem_append_left _ hy)).put (by omega) fun y => ?_
    rw [List.mem_append, List.mem_singleton, Int.toNat_of_nonneg hx.1]
    exact Or.comm
/-- a crowd that grows, as the program's number -/
def growJ (T : Nat → Nat) (J : Nat) : Nat → Nat
  | 0 => J
  | k + 1 => if growJ T J k &&& (65535 - T k) = 0 then growJ T J k ||| 2 ^ k else growJ T J k
theorem growJ_bits {T : Nat → Nat} {t : Nat → Nat → Bool} (hT : TiesOf T t) (ht : ∀ a, t a a = false) {n : Nat} (hn : n ≤ 12) {J : Nat} {q : List Int} (hq : IsUp n q) (hJ : BitsOf J q) : ∀ k, k ≤ n → BitsOf (growJ T J k) (growI t q k) := by
  intro k
  induction k with
  | zero => intro _; exact hJ
  | succ k ih =>
    intro hk
    have i := ih (by omega)
    have hu := growI_up ht hq k (by omega)
    have hd := i.knows hu (by omega) (hT.lt k (by omega)) (t := t) (a := k) (fun b hb => hT.bit k b (by omega) hb)
    rw [growI_succ]
    unfold growJ growS
    rw [← hd]
    by_cases h0 : growJ T J k &&& (65535 - T k) = 0
    · rw [if_pos h0, decide_eq_true h0, if_pos rfl]
      exact i.put (by omega) fun y => putI_mem
    · rw [if_neg h0, decide_eq_false h0, if_neg (by simp)]
      exact i
theorem growJ_lt {T : Nat → Nat} {J : Nat} (hJ : J < 65536) : ∀ k, k ≤ 12 → growJ T J k < 65536 := by
  intro k
  induction k with
  | zero => intro _; exact hJ
  | succ k ih =>
    intro hk
    have := ih (by omega)
    unfold growJ
    split
    · exact or_lt this (by omega)
    · exact this
theorem drop_least {J a : Nat} {cs : List Nat} (h : IsSet J (a :: cs)) : IsSet (J &&& (J - 1)) cs := by
  have hp := h.pos
  have hs := h.small
  obtain ⟨m, hm, hk⟩ := Lib.ctzFrom_spec 16 J (by omega) hs
  have e : Lib.ctz 16 J = Lib.ctzFrom 16 J := by simp [Lib.ctz, hp]
  rw [← e, h.least] at hm hk
  have hp2 : 0 < 2 ^ a := Nat.two_pow_pos a
  have hJ1 : J - 1 = 2 ^ a * (2 * m) + (2 ^ a - 1) := by
    have : 2 ^ a * (2 * m + 1) = 2 ^ a * (2 * m) + 2 ^ a := by rw [Nat.mul_add, Nat.mul_one]
    omega
  have hlo : 2 ^ a - 1 < 2 ^ a := by omega
  have hbit : ∀ b, (J &&& (J - 1)).testBit b = (J.testBit b && decide (b ≠ a)) := by
    intro b
    rw [Nat.testBit_and]
    cases eb : J.testBit b with
    | false => rfl
    | true =>
      rw [Bool.true_and, hJ1, Nat.testBit_two_pow_mul_add _ hlo]
      rw [hm, Nat.testBit_two_pow_mul] at eb
      simp only [Bool.and_eq_true, decide_eq_true_eq] at eb
      rw [if_neg (by omega)]
      by_cases hba : b = a
      · subst hba; simp
      · obtain ⟨i, hi⟩ : ∃ i, b - a = i + 1 := ⟨b - a - 1, by omega⟩
        rw [hi] at eb ⊢
        rw [Nat.testBit_succ] at eb ⊢
        have e1 : (2 * m + 1) / 2 = m := by omega
        have e2 : 2 * m / 2 = m := by omega
        rw [e1] at eb
        rw [e2, eb.2]
        simp [hba]
  have ht := h.tail
  refine ⟨ht.up, ht.lt, fun b => ?_⟩
  rw [hbit, Bool.and_eq_true, h.mem, List.mem_cons, decide_eq_true_eq]
  have hap := (List.pairwise_cons.1 h.up).1
  constructor
  · rintro ⟨h1 | h1, h2⟩
    · exact absurd h1 h2
    · exact h1
  · intro hb
    have := hap b hb
    exact ⟨.inr hb, by omega⟩
theorem off_lt {x T : Nat} (hx : x < 65536) : x &&& (65535 - T) < 65536 := Nat.lt_of_le_of_lt Nat.and_le_left hx

set_option maxHeartbeats 2000000 in
set_option maxRecDepth 100000 in
theorem crowdOf_any (q : List Int) (B : Option Addr) (d : Nat) (w : World) (hm : ∀ x ∈ q, 0 ≤ x ∧ x < 12) (hq : q.length ≤ 1048576) (hB : CRead w w.heap.size B (icells q)) :
    Calls Tryd.prog 47 #[.slice B q.length d] w fun e w' => e = .returned (.int .u16 (crowdN q : Nat)) ∧ w = w' := by
  have hbits : ∀ k, crowdN (q.take k) < 65536 := fun k => (crowdN_bits (q.take k) fun x hx => by have := hm x (List.mem_of_mem_take hx); omega).1
  have Hm := Lib.hid hm
  have Hbits := Lib.hid hbits
  clear hm hbits
  go_enter Tryd.func47, Tryd.ntmps47
  go_wp2
  go_loop [3, 8] (fun v i => ∃ k : Nat, k ≤ q.length ∧ i = .int .i64 k ∧ v = .int .u16 (crowdN (q.take k) : Nat)) (fun _ i => q.length - (intOf i).toNat)
  case atStart => exact ⟨0, Nat.zero_le _, by go_num, by simp [crowdN]⟩
  case round =>
    obtain ⟨k, hk, rfl, rfl⟩ := hrel
    have hlt16 := Hbits.out k
    by_cases hlt : k < q.length
    · obtain ⟨x, hx⟩ := getSome q k hlt
      have hx0 := Hm.out x (List.mem_of_getElem? hx)
      obtain ⟨a, rfl⟩ : ∃ a : Nat, x = a := ⟨x.toNat, by omega⟩
      obtain ⟨b, off, rfl, hbb, c0⟩ := hB.int hx
      have hki : (k : Int) < (q.length : Int) := by omega
      have hnx : crowdN (q.take (k + 1)) = crowdN (q.take k) ||| 2 ^ a := by
        rw [List.take_add_one, hx, Option.toList_some, crowdN_snoc, Int.toNat_natCast]
      have hor := or_bit hlt16 (show a < 16 by omega)
      have hor2 := or_bit2 hlt16 (show a < 16 by omega)
      obtain ⟨C, hC⟩ : ∃ C, crowdN (q.take k) = C := ⟨_, rfl⟩
      rw [hC] at hor hor2 hlt16 hnx ⊢
      have Hnx := Lib.hid hnx
      have Hor := Lib.hid hor
      have Hor2 := Lib.hid hor2
      have ha0 : ¬ ((a : Int) < 0) := by omega
      clear hx hnx hC hor hor2
      go_wp2_with (first | rw [Hor.out] | rw [Hor2.out])
      go_round
      case rel => exact ⟨k + 1, by omega, by go_num, by rw [Hnx.out]⟩
      case measure => simp [intOf]; omega
    · have hkl : k = q.length := by omega
      have hge : ¬ ((k : Int) < (q.length : Int)) := by omega
      have He := Lib.hid (show crowdN (q.take k) = crowdN q by rw [hkl, List.take_length])
      clear hkl
      go_wp2
      go_ret
      exact ⟨by rw [He.out]; rfl, rfl⟩
set_option maxHeartbeats 2000000 in
set_option maxRecDepth 100000 in
theorem peopleOf_any {J : Nat} {cs : List Nat} (hset : IsSet J cs) (w : World) (htab : TabW w) :
    Calls Tryd.prog 44 #[.int .u16 J] w fun e w' => ∃ A c, e = .returned (.slice A cs.length c) ∧ w'.ownsRow w.heap.size 3 1 (.slice A cs.length c) cs.length (icells (cs.map fun b : Nat => (b : Int))) ∧ Below w.heap.size w w' := by
  obtain ⟨i0, hi, hz0, hz1, hz2⟩ := info_parts Tryd.infoInt
  have hlen : cs.length ≤ 16 := by
    have h := List.Nodup.length_le_of_subset (l₁ := cs) (l₂ := List.range 16) (hset.up.imp fun h => Nat.ne_of_lt h) (fun b hb => List.mem_range.2 (hset.lt b hb))
    simpa using h
  have HTab := Lib.hid htab
  have Hset := Lib.hid hset
  clear htab hset
  go_enter Tryd.func44, Tryd.ntmps44
  go_wp2
  go_loopw [0, 3] (fun g v wr => ∃ (k J' : Nat) (A : Option Addr) (c : Nat), k ≤ cs.length ∧ g = .int .u16 J' ∧ IsSet J' (cs.drop k) ∧ v = .slice A k c ∧ wr.ownsRow w.heap.size 3 1 (.slice A k c) k (icells ((cs.take k).map fun b : Nat => (b : Int))) ∧ Below w.heap.size w wr) (fun _ v _ => cs.length - sliceLen v)
  case atStart => exact ⟨0, J, none, 0, Nat.zero_le _, rfl, Hset.out, rfl, World.ownsRow_nil _ _ _ _, Below.refl _ _⟩
  case round =>
    obtain ⟨k, J', A, c, hk, rfl, hs, rfl, own, hb⟩ := hrel
    have s0 := hb.size
    by_cases hlt : k < cs.length
    · obtain ⟨a, ha⟩ := getSome cs k hlt
      have hdr : cs.drop k = a :: cs.drop (k + 1) := by
        rw [List.drop_eq_getElem_cons hlt]
        rw [List.getElem?_eq_getElem hlt] at ha
        rw [Option.some.inj ha]
      rw [hdr] at hs
      have hj := hs.pos
      have hsm := hs.small
      have hne : ((J' : Int) == 0) = false := by simp only [beq_eq_false_iff_ne, ne_eq]; omega
      have hne2 : ¬ ((J' : Int) = 0) := by omega
      have hnx := drop_least hs
      have hand : bits .and .u16 (J' : Int) ((J' : Int) - 1) = ((J' &&& (J' - 1) : Nat) : Int) := by
        rw [show (J' : Int) - 1 = ((J' - 1 : Nat) : Int) by omega]
        exact u16_and_nat J' (J' - 1) hsm (by omega)
      have htk : (cs.take (k + 1)).map (fun b : Nat => (b : Int)) = (cs.take k).map (fun b : Nat => (b : Int)) ++ [(a : Int)] := by
        rw [List.take_add_one, ha]; simp
      have call := tz16_any hs wr (HTab.out.below hb HTab.out.pos)
      have Call := Lib.hid call
      have Hand := Lib.hid hand
      have Htk := Lib.hid htk
      have Hnx := Lib.hid hnx
      have Own := Lib.hid own
      have Hb := Lib.hid hb
      clear ha hdr hs hj call hand htk hnx own hb
      go_wp2_with fail
      refine Call.out.mono ?_
      rintro e w1 ⟨rfl, rfl⟩
      go_wp2_with (at_builtin; refine wpList_append_own _ rfl _ _ 25 rfl w.heap.size 3 i0 _ 1 8 Tryd.underlying25 hi hz0 hz1 hz2 rfl (by decide) _ _ _ rfl (Own.out.alloc _) ⟨wr.heap.size, 0, none⟩ 1 1 [.int .i64 a] rfl rfl (one_cell (by simp)) (one_one rfl) (by unfold maxLen; omega) (by omega) (by simp; omega) ?_; intro v3 w3 own3 gr3 _; obtain ⟨A3, c3, rfl, _⟩ := own_shape own3)
      have hb3 : Below w.heap.size w w3 := (Hb.out.alloc (by omega) _).grown gr3 (by simp; omega) (fun k hk => (Own.out.lt k hk).1)
      rw [Hand.out]
      go_roundw
      case rel => exact ⟨k + 1, _, A3, c3, by omega, rfl, Hnx.out, by go_num, by rw [Htk.out, icells_append]; exact own3, hb3⟩
      case measure => simp [sliceLen]; omega
    · have hkl : k = cs.length := by omega
      subst hkl
      rw [List.drop_length] at hs
      have hz := hs.zero
      subst hz
      rw [List.take_length] at own
      have Own := Lib.hid own
      clear own
      go_wp2
      go_ret
      exact ⟨A, c, rfl, Own.out, hb⟩
set_option maxHeartbeats 2000000 in
set_option maxRecDepth 100000 in
theorem joins_any (T : Nat → Nat) (hT : ∀ i, i < 12 → T i < 65536) (J a bg bt : Nat) (ha : a < 12) (hJ : J < 65536) (W : World) (cg : W.cell? ⟨bg, 0, none⟩ = some (.int .u16 J)) (row : W.rowIs bt 63 12 (fun j => .int .u16 (T j))) :
    Calls Tryd.prog 70 #[.int .i64 a, .pointer (some ⟨bg, 0, none⟩), .pointer (some ⟨bt, 0, none⟩)] W fun e w' => e = .returned (.bool (decide (J &&& (65535 - T a) = 0))) ∧ Below W.heap.size W w' := by
  have ct := row.cell ha
  have hai : (a : Int) < 12 := by omega
  have hTa := hT a ha
  have hoff := u16_andNot_nat J (T a) hJ hTa
  have hlt := off_lt (T := T a) hJ
  have hor : ((J &&& (65535 - T a) : Nat) : Int) = 0 ∨ ((J &&& (65535 - T a) : Nat) : Int) ≠ 0 := by omega
  have heq : (((J &&& (65535 - T a) : Nat) : Int) == 0) = decide (J &&& (65535 - T a) = 0) := by
    by_cases h : J &&& (65535 - T a) = 0
    · rw [h]; rfl
    · rw [decide_eq_false h, beq_eq_false_iff_ne]; omega
  have Hoff := Lib.hid hoff
  have Heq := Lib.hid heq
  clear hor hoff heq
  go_enter Tryd.func70, Tryd.ntmps70
  go_wp2
  go_quiet (fail)
  rw [Hoff.out, Heq.out]
  go_wp2
  go_ret
  exact ⟨rfl, ⟨rfl, rfl, rfl, Nat.le_refl _, fun _ _ => rfl⟩⟩
set_option maxHeartbeats 4000000 in
set_option maxRecDepth 100000 in
theorem grown_any (T : Nat → Nat) (hT : ∀ i, i < 12 → T i < 65536) (J n : Nat) (hn : n ≤ 12) (hJ : J < 65536) (w : World) :
    Calls Tryd.prog 45 #[.agg (tcells T), .int .i64 n, .int .u16 J] w fun e w' => e = .returned (.int .u16 (growJ T J n : Nat)) ∧ Below w.heap.size w w' := by
  obtain ⟨W, hW⟩ : ∃ W, (w.alloc (Obj.cells (tcells T) 63)).alloc (Obj.cells #[.int .u16 J] 60) = W := ⟨_, rfl⟩
  have kW : Below w.heap.size w W := by rw [← hW]; go_grown
  have zW : W.heap.size = w.heap.size + 2 := by rw [← hW]; simp
  have row0 : W.rowIs w.heap.size 63 12 (fun j => .int .u16 (T j)) := by rw [← hW]; exact (rowIs_u16 w T _).alloc _
  have c0 : W.cell? ⟨w.heap.size + 1, 0, none⟩ = some (.int .u16 (growJ T J 0 : Nat)) := by rw [← hW]; simp [growJ]
  have f0 : W.frozen? ⟨w.heap.size + 1, 0, none⟩ = false := by rw [← hW]; simp
  have hlt := growJ_lt (T := T) hJ
  have hst : ∀ k, growJ T J (k + 1) = if growJ T J k &&& (65535 - T k) = 0 then growJ T J k ||| 2 ^ k else growJ T J k := fun k => rfl
  have HW := Lib.hid hW
  have KW := Lib.hid kW
  have Row0 := Lib.hid row0
  have Hlt := Lib.hid hlt
  have Hst := Lib.hid hst
  have HT := Lib.hid hT
  have C0 := Lib.hid c0
  have F0 := Lib.hid f0
  unfold tcells at HW ⊢
  clear hW kW row0 hlt hst hT c0 f0
  go_enter Tryd.func45, Tryd.ntmps45
  go_wp2_with fail
  rw [HW.out]
  go_loopw [11] (fun i wr => ∃ k : Nat, k ≤ n ∧ i = .int .i64 k ∧ wr.cell? ⟨w.heap.size + 1, 0, none⟩ = some (.int .u16 (growJ T J k : Nat)) ∧ wr.frozen? ⟨w.heap.size + 1, 0, none⟩ = false ∧ Below (w.heap.size + 1) W wr) (fun i _ => n - (intOf i).toNat)
  case atStart => exact ⟨0, Nat.zero_le _, rfl, C0.out, F0.out, Below.refl _ _⟩
  case round =>
    obtain ⟨k, hk, rfl, cg, fg, hb⟩ := hrel
    have s0 := hb.size
    by_cases hlt : k < n
    · have hki : (k : Int) < n := by omega
      have hlt0 := Hlt.out k (by omega)
      have hlt1 := Hlt.out (k + 1) (by omega)
      have hst := Hst.out k
      obtain ⟨C, hC⟩ : ∃ C, growJ T J k = C := ⟨_, rfl⟩
      obtain ⟨D, hD⟩ : ∃ D, growJ T J (k + 1) = D := ⟨_, rfl⟩
      rw [hC] at cg hlt0 hst
      rw [hD] at hlt1 hst
      have rowr := Row0.out.of_block (hb.block _ (show w.heap.size < w.heap.size + 1 by omega))
      have call := joins_any T HT.out C (w.heap.size + 1) w.heap.size (a := k) (by omega) hlt0 wr cg rowr
      have Call := Lib.hid call
      have HD := Lib.hid hD
      clear call rowr hC hD
      by_cases hj : C &&& (65535 - T k) = 0
      · rw [if_pos hj] at hst
        have hor := or_bit hlt0 (show k < 16 by omega)
        have hor2 := or_bit2 hlt0 (show k < 16 by omega)
        rw [← hst] at hor hor2
        have call := Call.out
        rw [decide_eq_true hj] at call
        have Call2 := Lib.hid call
        have Hor := Lib.hid hor
        have Hor2 := Lib.hid hor2
        have hk0 : ¬ ((k : Int) < 0) := by omega
        clear call hst hor hor2 hj Call
        go_wp2_with fail
        refine Call2.out.mono ?_
        rintro e w1 ⟨rfl, hb1⟩
        have c1 := carry hb1 cg (by omega)
        have f1 := (hb1.frozen (p := ⟨w.heap.size + 1, 0, none⟩) (by simp; omega)).trans fg
        have k1 := hb.trans (hb1.mono (by omega))
        have s1 := hb1.size
        clear cg fg
        have K1 := Lib.hid k1
        clear k1 hb hb1
        go_wp2
        go_region
        go_wp2
        go_roundw
        case rel =>
          refine ⟨k + 1, by omega, by go_num, ?_, ?_, (K1.out.setCell (p := ⟨w.heap.size + 1, 0, none⟩) (Nat.le_refl _) _).drew⟩
          · rw [HD.out, ← Hor2.out]; exact World.cell?_setCell_same' _ _ _ (by rw [c1]; rfl)
          · first | exact (World.frozen?_setCell _ _ _ _).trans f1 | simpa using f1
        case measure => simp [intOf]; omega
      · rw [if_neg hj] at hst
        have call := Call.out
        rw [decide_eq_false hj] at call
        have Call2 := Lib.hid call
        have Hst2 := Lib.hid hst
        clear call hst hj Call
        go_wp2_with fail
        refine Call2.out.mono ?_
        rintro e w1 ⟨rfl, hb1⟩
        have c1 := carry hb1 cg (by omega)
        have f1 := (hb1.frozen (p := ⟨w.heap.size + 1, 0, none⟩) (by simp; omega)).trans fg
        have k1 := hb.trans (hb1.mono (by omega))
        clear cg fg
        have K1 := Lib.hid k1
        clear k1 hb hb1
        go_wp2
        go_roundw
        case rel => exact ⟨k + 1, by omega, by go_num, by rw [HD.out, Hst2.out]; exact c1, f1, K1.out⟩
        case measure => simp [intOf]; omega
    · have hkn : k = n := by omega
      subst hkn
      have hge : ¬ ((k : Int) < k) := by omega
      have kk := KW.out.trans (hb.mono (by omega))
      go_wp2
      go_ret
      exact ⟨rfl, kk⟩
set_option maxHeartbeats 4000000 in
set_option maxRecDepth 100000 in
theorem implGrowGroup_any (p : Int) (l : PL) (A : Option Addr) (c : Nat) (q : List Int) (B : Option Addr) (d : Nat) (w : World) (hl : l.length ≤ 1048576) (hA : CRead w w.heap.size A (pcells l)) (hq : q.length ≤ 1048576) (hB : CRead w w.heap.size B (icells q)) (htab : TabW w) :
    Calls Tryd.prog 14 #[.agg #[.int .i64 p, .slice A l.length c], .slice B q.length d] w (GotIntsOk w (resGrowGroup p l q).1 (resGrowGroup p l q).2) := by
  have RA : CRead (w.alloc (Obj.cells #[.int .i64 p, .slice A l.length c] 31)) (w.alloc (Obj.cells #[.int .i64 p, .slice A l.length c] 31)).heap.size A (pcells l) := (hA.below (B' := w.heap.size) (by go_grown) (Nat.le_refl _)).more (by go_size)
  have RB : CRead (w.alloc (Obj.cells #[.int .i64 p, .slice A l.length c] 31)) (w.alloc (Obj.cells #[.int .i64 p, .slice A l.length c] 31)).heap.size B (icells q) := (hB.below (B' := w.heap.size) (by go_grown) (Nat.le_refl _)).more (by go_size)
  have HTab := Lib.hid htab
  clear htab
  cases hg : (isP p l && isGroupI p l q) with
  | false =>
    have e : resGrowGroup p l q = ([], false) := by simp [resGrowGroup, hg]
    rw [e]
    cases hp : isP p l with
    | false =>
      have e2 : resIsGroup p l q = (false, false) := by simp [resIsGroup, hp]
      have E2 := Lib.hid e2
      clear hg e e2 hp
      go_enter Tryd.func14, Tryd.ntmps14
      go_wp2_with fail
      refine (implIsGroup_any _ _ _ _ _ _ _ _ hl RA hq RB).mono ?_
      rw [E2.out]
      rintro e w2 ⟨rfl, hb2⟩
      simp only [World.size_alloc] at hb2
      go_wp2
      go_ret2
      exact ⟨none, 0, rfl, World.ownsRow_nil _ _ _ _, Below.trans (b := _) (by go_grown) (hb2.mono (by omega))⟩
    | true =>
      have hgg : isGroupI p l q = false := by rw [hp] at hg; simpa using hg
      have e2 : resIsGroup p l q = (false, true) := by simp [resIsGroup, hp, hgg]
      have E2 := Lib.hid e2
      clear hg e e2 hp hgg
      go_enter Tryd.func14, Tryd.ntmps14
      go_wp2_with fail
      refine (implIsGroup_any _ _ _ _ _ _ _ _ hl RA hq RB).mono ?_
      rw [E2.out]
      rintro e w2 ⟨rfl, hb2⟩
      simp only [World.size_alloc] at hb2
      go_wp2
      go_ret2
      exact ⟨none, 0, rfl, World.ownsRow_nil _ _ _ _, Below.trans (b := _) (by go_grown) (hb2.mono (by omega))⟩
  | true =>
    have hg2 := hg
    rw [Bool.and_eq_true] at hg2
    obtain ⟨hp, hgr⟩ := hg2
    have hn := isP_range hp
    obtain ⟨n, rfl⟩ : ∃ n : Nat, p = n := ⟨p.toNat, by omega⟩
    have hn12 : n ≤ 12 := by omega
    have hup := group_up hgr
    rw [Int.toNat_natCast] at hup
    have hself := adj_self hp
    have e2 : resIsGroup n l q = (true, true) := by simp [resIsGroup, hp, hgr]
    have e : resGrowGroup n l q = (growI (adj l) q n, true) := by simp [resGrowGroup, hg]
    rw [e]
    have hT := friendsT_of hp
    have hb0 := crowdN_bits q fun x hx => by have := hup.lt x hx; omega
    have hbn := growJ_bits hT hself hn12 hup hb0 n (Nat.le_refl _)
    have hupn := growI_up hself hup n (Nat.le_refl _)
    have hsetn := hupn.set (by omega) hbn.2
    have h1 := fun (X : World) (hX : CRead X X.heap.size B (icells q)) => crowdOf_any q B d X (fun x hx => by have := hup.lt x hx; omega) hq hX
    have h2 := fun (X : World) => grown_any (friendsT l) hT.lt (crowdN q) n hn12 hb0.1 X
    have h3 := fun (X : World) (hX : TabW X) => peopleOf_any hsetn X hX
    simp only [hupn.back, List.length_map] at h3
    obtain ⟨C, hC⟩ : ∃ C, crowdN q = C := ⟨_, rfl⟩
    simp only [hC] at h1 h2 h3
    obtain ⟨D, hD⟩ : ∃ D, growJ (friendsT l) C n = D := ⟨_, rfl⟩
    simp only [hD] at h2 h3
    obtain ⟨R, hR⟩ : ∃ R, growI (adj l) q n = R := ⟨_, rfl⟩
    simp only [hR] at h3 ⊢
    have H1 := Lib.hid h1
    have H2 := Lib.hid h2
    have H3 := Lib.hid h3
    have E2 := Lib.hid e2
    have Hp := Lib.hid hp
    clear hp hg e e2 hgr hup hself hT hb0 hbn hupn hsetn h1 h2 h3 hC hD hR
    go_enter Tryd.func14, Tryd.ntmps14
    go_wp2_with fail
    refine (implIsGroup_any _ _ _ _ _ _ _ _ hl RA hq RB).mono ?_
    rw [E2.out]
    rintro e w2 ⟨rfl, hb2⟩
    have s2 := hb2.size
    simp only [World.size_alloc] at s2
    have k2 : Below w.heap.size w w2 := Below.trans (b := _) (by go_grown) (hb2.mono (by simp))
    have c0 : w2.cell? ⟨w.heap.size, 0, none⟩ = some (.int .i64 n) := carry hb2 (by simp) (by simp)
    have c1 : w2.cell? ⟨w.heap.size, 1, none⟩ = some (.slice A l.length c) := carry hb2 (by simp) (by simp)
    have hpos := HTab.out.pos
    clear hb2
    go_wp2
    go_region_held3 (fun w' => w'.cell? ⟨w.heap.size, 0, none⟩ = some (.int .i64 n) ∧ w'.cell? ⟨w.heap.size, 1, none⟩ = some (.slice A l.length c)) (first | exact ⟨c0, c1⟩ | exact ⟨y0, y1⟩ | exact ⟨z0, z1⟩ | exact ⟨x0, x1⟩) ((first
      | (go_at_call 46; refine (friendsIn_any _ l A c _ Hp.out ((hA.below k2.drew (Nat.le_refl _)).more k2.size)).mono ?_; rintro e w3 ⟨rfl, _, hb3⟩; have g3 : Below w2.heap.size w2 w3 := (Below.refl _ _).drew.trans hb3; have y0 := carry g3 c0 (by omega); have y1 := carry g3 c1 (by omega); have s3 := g3.size; have k3 := k2.trans (g3.mono k2.size))
      | (go_at_call 47; refine (H1.out _ (by first | exact (hB.below k3 (Nat.le_refl _)).more k3.size | exact (hB.below k2.drew (Nat.le_refl _)).more k2.size)).mono ?_; rintro e w' ⟨rfl, rfl⟩)
      | (go_at_call 45; refine (H2.out w3).mono ?_; rintro e w4 ⟨rfl, hb4⟩; have z0 := carry hb4 y0 (by omega); have z1 := carry hb4 y1 (by omega); have s4 := hb4.size; have k4 := k3.trans (hb4.mono k3.size))
      | (go_at_call 44; refine (H3.out w4 (HTab.out.below k4 hpos)).mono ?_; rintro e w5 ⟨A5, c5, rfl, own5, hb5⟩; have x0 := carry hb5 z0 (by omega); have x1 := carry hb5 z1 (by omega); have k5 := k4.trans (hb5.mono k4.size))))
    all_goals
      have own' := own_lower own5 k4.size
      clear own5
      go_wp2
      go_ret2
      exact ⟨A5, c5, rfl, own', k5⟩
end Go.Proofs.YtnpljmipicjacaaDoor
/-
  THE LAWS' COPY OF A LIST OF NUMBERS, by its contract.
-/
namespace Go.Proofs.YtnpljmipicjacaaDoor
open Go.RowKit

set_option maxHeartbeats 1000000 in
set_option maxRecDepth 100000 in
theorem toIntS_any (l : List Int) (A : Option Addr) (c : Nat) (w : World) (hl : l.length ≤ 1048576) (hA : CRead w w.heap.size A (icells l)) :
    Calls Tryd.prog 13 #[.slice A l.length c] w fun e w' =>
      e = .returned (.slice (some ⟨w.heap.size, 0, none⟩) l.length l.length) ∧ w'.ownsRow w.heap.size 3 1 (.slice (some ⟨w.heap.size, 0, none⟩) l.length l.length) l.length (icells l) ∧ Below w.heap.size w w' := by
  obtain ⟨i0, hi, hz0, hz1, hz2⟩ := info_parts Tryd.infoInt
  generalize hn : l.length = n at *
  have Hn := Lib.hid hn
  clear hn
  generalize hg : w.heap.size = g at *
  have Hg := Lib.hid hg
  clear hg
  go_enter Tryd.func13, Tryd.ntmps13
  go_wp2_with (at_make; refine wpList_make_full _ rfl _ _ 25 rfl g 3 i0 _ 1 Tryd.underlying25 hi hz0 hz1 _ _ _ _ n rfl rfl (by omega) (by omega) (by rw [hz2]; omega) (by unfold maxLen; omega) (by rw [Hg.out]; exact Nat.le_refl _) ?_; rw [Hg.out]; intro w1 hown1 hgr1)
  have hs1 : g < w1.heap.size := (own_lt hown1).2
  have hb1 : Below g w w1 := (Below.refl _ _).grown hgr1 (by rw [Hg.out]; exact Nat.le_refl _) (by simp)
  rw [show Value.cells (.int .i64 0) = #[.int .i64 0] from rfl, made_ints] at hown1
  go_loopw [4] (fun i wr => ∃ k : Nat, k ≤ n ∧ i = .int .i64 k ∧ wr.ownsRow g 3 1 (.slice (some ⟨g, 0, none⟩) n n) n (icells (l.take k ++ List.replicate (n - k) 0)) ∧ Below g w wr) (fun i _ => n - (intOf i).toNat)
  case atStart => exact ⟨0, Nat.zero_le _, rfl, by simpa using hown1, hb1⟩
  case round =>
    obtain ⟨k, hk, rfl, hown, hb⟩ := hrel
    have hs := own_lt hown
    by_cases hlt : k < n
    · obtain ⟨x, hx⟩ := getSome l k (by rw [Hn.out]; exact hlt)
      obtain ⟨b, off, rfl, hbb, c0⟩ := (hA.below hb (Nat.le_refl _)).int hx
      have hlt' : (k : Int) < n := by omega
      have f0 := hown.frozenAt k
      have hz : (l.take k ++ List.replicate (n - k) 0)[k]? = some 0 := by
        rw [List.getElem?_append_right (by simp; omega)]
        have h1 : min k l.length = k := Nat.min_eq_left (by rw [Hn.out]; exact hk)
        simp only [List.length_take, h1, Nat.sub_self]
        rw [List.getElem?_replicate, if_pos (by omega)]
      have d0 := own_intAt hown hz
      clear hz
      have Hx := Lib.hid hx
      clear hx
      go_wp2
      go_roundw
      case rel =>
        refine ⟨k + 1, by omega, by go_num, ?_, hb.setCell (p := ⟨g, k, none⟩) (Nat.le_refl _) _⟩
        have h2 := own_setInt hown k x
        rwa [take_set_replicate l 0 n k x Hn.out Hx.out] at h2
      case measure => simp [intOf]; omega
    · have hkl : k = n := by omega
      subst hkl
      have hge : ¬ ((k : Int) < k) := by omega
      go_wp2
      go_ret
      refine ⟨rfl, ?_, hb⟩
      rwa [Nat.sub_self, List.replicate_zero, List.append_nil, List.take_of_length_le (by rw [Hn.out]; exact Nat.le_refl _)] at hown
theorem toIntS_got (l : List Int) (A : Option Addr) (c : Nat) (w : World) (hl : l.length ≤ 1048576) (hA : CRead w w.heap.size A (icells l)) :
    Calls Tryd.prog 13 #[.slice A l.length c] w fun e w' => ∃ A' c', e = .returned (.slice A' l.length c') ∧ w'.ownsRow w.heap.size 3 1 (.slice A' l.length c') l.length (icells l) ∧ Below w.heap.size w w' :=
  (toIntS_any l A c w hl hA).mono fun _ _ h => ⟨_, _, h⟩
end Go.Proofs.YtnpljmipicjacaaDoor
/-
  'laws.FnExactGrowGroup' returns true, whatever its arguments: out of the contracts of the model's function and of the program's.
-/
namespace Go.Proofs.YtnpljmipicjacaaDoor
open Go.RowKit

set_option maxHeartbeats 4000000 in
set_option maxRecDepth 100000 in
theorem lawGrowGroup_any (p0 : Int) (l0 : PL) (A0 : Option Addr) (c0 : Nat) (q1 : List Int) (A1 : Option Addr) (c1 : Nat) (W : World) (hl0 : l0.length ≤ maxLen) (hA0 : CRead W W.heap.size A0 (pcells l0)) (hl1 : q1.length ≤ maxLen) (hA1 : CRead W W.heap.size A1 (icells q1)) (htab : TabW W) :
    Calls Tryd.prog 3 #[.agg #[.int .i64 p0, .slice A0 l0.length c0], .slice A1 q1.length c1] W fun e w' => e = .returned (.bool true) ∧ Below W.heap.size W w' := by
  have hone : (0 : Int) ≤ 1 ∧ (1 : Int) ≤ 16777216 := by omega
  have HTab := Lib.hid htab
  clear htab
  by_cases hq1 : (1048576 : Int) < (q1.length : Int)
  · unfold maxLen at *
    go_enter Tryd.func3, Tryd.ntmps3
    go_wp2
    go_ret
    exact ⟨rfl, by go_grown⟩
  have hn1 : q1.length ≤ 1048576 := by omega
  by_cases hz0 : szI (1048576) l0.length < 0
  · go_enter Tryd.func3, Tryd.ntmps3
    go_wp2_with fail
    refine (szParty_any _ _ _ _ _ hl0 (by omega) (by omega) _).mono ?_
    rintro e w1 ⟨rfl, hb1⟩
    simp only [World.size_alloc] at hb1
    have g1 : Below W.heap.size W w1 := Below.trans (b := _) (by go_grown) (hb1.mono (by omega))
    have s1 := hb1.size
    simp only [World.size_alloc] at s1
    have f1_0 : w1.cell? ⟨W.heap.size, 0, none⟩ = some (.int .i64 p0) := carry hb1 (by simp) (by omega)
    have f1_1 : w1.cell? ⟨W.heap.size, 1, none⟩ = some (.slice A0 l0.length c0) := carry hb1 (by simp) (by omega)
    have k1 : Below W.heap.size W w1 := g1
    go_wp2
    go_ret
    exact ⟨rfl, k1⟩
  have hn0 : l0.length ≤ 1048576 := by have h1 := szI_len _ _ hz0; have h2 := szI_hi (1048576) l0.length (by omega); omega
  have hz0' : 0 ≤ szI (1048576) l0.length := by omega
  have hz0'' : szI (1048576) l0.length ≤ 1048576 := by have h2 := szI_hi (1048576) l0.length (by omega); omega
  obtain ⟨⟨rm, rok⟩, hres⟩ : ∃ r, resGrowGroup p0 l0 q1 = r := ⟨_, rfl⟩
  have hrn : rm.length ≤ 1048576 := by have h := resGrowGroup_len p0 l0 q1; rw [hres] at h; exact h
  have hrl : rm.length ≤ maxLen := by unfold maxLen; omega
  have Hres := Lib.hid hres
  clear hres
  go_enter Tryd.func3, Tryd.ntmps3
  go_wp2_with fail
  refine (szParty_any _ _ _ _ _ hl0 (by omega) (by omega) _).mono ?_
  rintro e w1 ⟨rfl, hb1⟩
  simp only [World.size_alloc] at hb1
  have g1 : Below W.heap.size W w1 := Below.trans (b := _) (by go_grown) (hb1.mono (by omega))
  have s1 := hb1.size
  simp only [World.size_alloc] at s1
  have f1_0 : w1.cell? ⟨W.heap.size, 0, none⟩ = some (.int .i64 p0) := carry hb1 (by simp) (by omega)
  have f1_1 : w1.cell? ⟨W.heap.size, 1, none⟩ = some (.slice A0 l0.length c0) := carry hb1 (by simp) (by omega)
  have k1 : Below W.heap.size W w1 := g1
  go_wp2_with fail
  refine (toParty_any p0 l0 A0 c0 _ hn0 ((hA0.below k1 (Nat.le_refl _)).more k1.size)).mono ?_
  rintro e w2 ⟨T2, d2, rfl, n2, hb2⟩
  have g2 : Below w1.heap.size w1 w2 := hb2
  have s2 := hb2.size
  have f2_0 := carry g2 f1_0 (by omega)
  have f2_1 := carry g2 f1_1 (by omega)
  have k2 := k1.trans (g2.mono k1.size)
  clear f1_0 f1_1
  have r2 : Lies (.slice T2 l0.length d2) (w1.heap.size) w2.heap.size := own_lies n2
  go_wp2_with fail
  refine (toIntS_got q1 A1 c1 _ hn1 ((hA1.below k2 (Nat.le_refl _)).more k2.size)).mono ?_
  rintro e w3 ⟨T3, d3, rfl, n3, hb3⟩
  have g3 : Below w2.heap.size w2 w3 := hb3
  have s3 := hb3.size
  have f3_0 := carry g3 f2_0 (by omega)
  have f3_1 := carry g3 f2_1 (by omega)
  have o3_0 := own_below n2 g3 (Nat.le_refl _)
  have k3 := k2.trans (g3.mono k2.size)
  clear f2_0 f2_1 n2
  have r3 : Lies (.slice T3 q1.length d3) (w2.heap.size) w3.heap.size := own_lies n3
  go_wp2_with fail
  refine (specGrowGroup_any p0 l0 _ _ q1 _ _ _ hn0 (CRead.of_own o3_0) hn1 (CRead.of_own n3) (own_cap n3) (own_zero n3)).mono ?_
  rw [Hres.out]
  rintro e w4 ⟨T4, d4, rfl, n4, hb4⟩
  have g4 : Below w3.heap.size w3 w4 := hb4
  have s4 := hb4.size
  have f4_0 := carry g4 f3_0 (by omega)
  have f4_1 := carry g4 f3_1 (by omega)
  have o4_0 := own_below o3_0 g4 (Nat.le_refl _)
  have o4_1 := own_below n3 g4 (Nat.le_refl _)
  have k4 := k3.trans (g4.mono k3.size)
  clear f3_0 f3_1 o3_0 n3
  have r4 : Lies (.slice T4 rm.length d4) (w3.heap.size) w4.heap.size := own_lies n4
  clear o4_0 r2
  clear o4_1 r3
  go_wp2_with fail
  refine (toParty_any p0 l0 A0 c0 _ hn0 ((hA0.below k4 (Nat.le_refl _)).more k4.size)).mono ?_
  rintro e w5 ⟨T5, d5, rfl, n5, hb5⟩
  have g5 : Below w4.heap.size w4 w5 := hb5
  have s5 := hb5.size
  have f5_0 := carry g5 f4_0 (by omega)
  have f5_1 := carry g5 f4_1 (by omega)
  have o5_0 := own_below n4 g5 (Nat.le_refl _)
  have k5 := k4.trans (g5.mono k4.size)
  clear f4_0 f4_1 n4
  have r5 : Lies (.slice T5 l0.length d5) (w4.heap.size) w5.heap.size := own_lies n5
  have q6_0 : (w5.alloc (Obj.cells #[.int .i64 p0, .slice T5 l0.length d5] 31)).cell? ⟨W.heap.size, 0, none⟩ = some (.int .i64 p0) := (World.cell?_alloc_lt _ _ _ (show W.heap.size < w5.heap.size by omega)).trans f5_0
  have q6_1 : (w5.alloc (Obj.cells #[.int .i64 p0, .slice T5 l0.length d5] 31)).cell? ⟨W.heap.size, 1, none⟩ = some (.slice A0 l0.length c0) := (World.cell?_alloc_lt _ _ _ (show W.heap.size < w5.heap.size by omega)).trans f5_1
  go_wp2_with fail
  refine (toIntS_got q1 A1 c1 _ hn1 ((hA1.below (B' := W.heap.size) (Below.trans k5 (by go_grown)) (Nat.le_refl _)).more (by go_size))).mono ?_
  rintro e w7 ⟨T7, d7, rfl, n7, hb7⟩
  simp only [World.size_alloc] at n7
  simp only [World.size_alloc] at hb7
  have g7 : Below w5.heap.size w5 w7 := Below.trans (b := _) (by go_grown) (hb7.mono (by omega))
  have s7 := hb7.size
  simp only [World.size_alloc] at s7
  have f7_0 := carry g7 f5_0 (by omega)
  have f7_1 := carry g7 f5_1 (by omega)
  have f7_2 : w7.cell? ⟨w5.heap.size, 0, none⟩ = some (.int .i64 p0) := carry hb7 (by simp) (by omega)
  have f7_3 : w7.cell? ⟨w5.heap.size, 1, none⟩ = some (.slice T5 l0.length d5) := carry hb7 (by simp) (by omega)
  have o7_0 := own_below o5_0 g7 (Nat.le_refl _)
  have o7_1 := own_below n5 g7 (Nat.le_refl _)
  have k7 := k5.trans (g7.mono k5.size)
  clear f5_0 f5_1 o5_0 n5 q6_0 q6_1
  have r7 : Lies (.slice T7 q1.length d7) (w5.heap.size + 1) w7.heap.size := own_lies n7
  go_wp2_with fail
  refine (implGrowGroup_any p0 l0 _ _ q1 _ _ _ hn0 (CRead.of_own o7_1) hn1 (CRead.of_own n7) (by first | exact HTab.out.below (k7.alloc k7.size _) HTab.out.pos | exact HTab.out.below k7 HTab.out.pos)).mono ?_
  rw [Hres.out]
  rintro e w8 ⟨T8, d8, rfl, n8, hb8⟩
  have g8 : Below w7.heap.size w7 w8 := hb8
  have s8 := hb8.size
  have f8_0 := carry g8 f7_0 (by omega)
  have f8_1 := carry g8 f7_1 (by omega)
  have f8_2 := carry g8 f7_2 (by omega)
  have f8_3 := carry g8 f7_3 (by omega)
  have o8_0 := own_below o7_0 g8 (Nat.le_refl _)
  have o8_1 := own_below o7_1 g8 (Nat.le_refl _)
  have o8_2 := own_below n7 g8 (Nat.le_refl _)
  have k8 := k7.trans (g8.mono k7.size)
  clear f7_0 f7_1 f7_2 f7_3 o7_0 o7_1 n7
  have r8 : Lies (.slice T8 rm.length d8) (w7.heap.size) w8.heap.size := own_lies n8
  go_wp2_with fail
  refine (eqIntS_any rm rm _ _ _ _ _ hrl hrl (CRead.of_own n8) (CRead.of_own o8_0)).mono ?_
  rw [decide_eq_true rfl]
  rintro e w9 ⟨rfl, hb9⟩
  have g9 : Below w8.heap.size w8 w9 := hb9
  have s9 := hb9.size
  have f9_0 := carry g9 f8_0 (by omega)
  have f9_1 := carry g9 f8_1 (by omega)
  have f9_2 := carry g9 f8_2 (by omega)
  have f9_3 := carry g9 f8_3 (by omega)
  have o9_0 := own_below o8_0 g9 (Nat.le_refl _)
  have o9_1 := own_below o8_1 g9 (Nat.le_refl _)
  have o9_2 := own_below o8_2 g9 (Nat.le_refl _)
  have o9_3 := own_below n8 g9 (Nat.le_refl _)
  have k9 := k8.trans (g9.mono k8.size)
  clear f8_0 f8_1 f8_2 f8_3 o8_0 o8_1 o8_2 n8
  go_wp2
  go_region_held3 (fun w' => w'.cell? ⟨W.heap.size, 0, none⟩ = some (.int .i64 p0) ∧ w'.cell? ⟨W.heap.size, 1, none⟩ = some (.slice A0 l0.length c0) ∧ w'.cell? ⟨w5.heap.size, 0, none⟩ = some (.int .i64 p0) ∧ w'.cell? ⟨w5.heap.size, 1, none⟩ = some (.slice T5 l0.length d5)) (first | exact ⟨f9_0, f9_1, f9_2, f9_3⟩ | exact ⟨f10_0, f10_1, f10_2, f10_3⟩ | exact ⟨f11_0, f11_1, f11_2, f11_3⟩) ((first | (go_at_call 12; refine (toParty_any p0 l0 A0 c0 _ hn0 ((hA0.below k9.drew (Nat.le_refl _)).more k9.size)).mono ?_; rintro e w10 ⟨T10, d10, rfl, n10, hb10⟩; have g10 : Below w9.heap.size w9 w10 := (Below.refl _ _).drew.trans hb10; have s10 := g10.size; have f10_0 := carry g10 f9_0 (by omega); have f10_1 := carry g10 f9_1 (by omega); have f10_2 := carry g10 f9_2 (by omega); have f10_3 := carry g10 f9_3 (by omega); have o10_0 := own_below o9_0 g10 (Nat.le_refl _); have o10_1 := own_below o9_1 g10 (Nat.le_refl _); have o10_2 := own_below o9_2 g10 (Nat.le_refl _); have o10_3 := own_below o9_3 g10 (Nat.le_refl _); have k10 := k9.trans (g10.mono k9.size)) | (go_at_call 16; refine (eqParty_any p0 p0 l0 l0 _ _ _ _ _ hl0 hl0 (CRead.of_own o10_1) (CRead.of_own n10)).mono ?_; rw [decide_eq_true ⟨rfl, rfl⟩]; rintro e w11 ⟨rfl, hb11⟩; have g11 : Below w10.heap.size w10 w11 := hb11; have s11 := g11.size; have f11_0 := carry g11 f10_0 (by omega); have f11_1 := carry g11 f10_1 (by omega); have f11_2 := carry g11 f10_2 (by omega); have f11_3 := carry g11 f10_3 (by omega); have o11_0 := own_below o10_0 g11 (Nat.le_refl _); have o11_1 := own_below o10_1 g11 (Nat.le_refl _); have o11_2 := own_below o10_2 g11 (Nat.le_refl _); have o11_3 := own_below o10_3 g11 (Nat.le_refl _); have k11 := k10.trans (g11.mono k10.size))))
  clear f9_0 f9_1 f9_2 f9_3 o9_0 o9_1 o9_2 o9_3 f10_0 f10_1 f10_2 f10_3 o10_0 o10_1 o10_2 o10_3 n10
  go_wp2_with fail
  refine (toIntS_got q1 A1 c1 _ hn1 ((hA1.below k11 (Nat.le_refl _)).more k11.size)).mono ?_
  rintro e w12 ⟨T12, d12, rfl, n12, hb12⟩
  have g12 : Below w11.heap.size w11 w12 := hb12
  have s12 := hb12.size
  have f12_0 := carry g12 f11_0 (by omega)
  have f12_1 := carry g12 f11_1 (by omega)
  have f12_2 := carry g12 f11_2 (by omega)
  have f12_3 := carry g12 f11_3 (by omega)
  have o12_0 := own_below o11_0 g12 (Nat.le_refl _)
  have o12_1 := own_below o11_1 g12 (Nat.le_refl _)
  have o12_2 := own_below o11_2 g12 (Nat.le_refl _)
  have o12_3 := own_below o11_3 g12 (Nat.le_refl _)
  have k12 := k11.trans (g12.mono k11.size)
  clear f11_0 f11_1 f11_2 f11_3 o11_0 o11_1 o11_2 o11_3
  have r12 : Lies (.slice T12 q1.length d12) (w11.heap.size) w12.heap.size := own_lies n12
  go_wp2_with fail
  refine (eqIntS_any q1 q1 _ _ _ _ _ hl1 hl1 (CRead.of_own o12_2) (CRead.of_own n12)).mono ?_
  rw [decide_eq_true rfl]
  rintro e w13 ⟨rfl, hb13⟩
  have g13 : Below w12.heap.size w12 w13 := hb13
  have s13 := hb13.size
  have f13_0 := carry g13 f12_0 (by omega)
  have f13_1 := carry g13 f12_1 (by omega)
  have f13_2 := carry g13 f12_2 (by omega)
  have f13_3 := carry g13 f12_3 (by omega)
  have o13_0 := own_below o12_0 g13 (Nat.le_refl _)
  have o13_1 := own_below o12_1 g13 (Nat.le_refl _)
  have o13_2 := own_below o12_2 g13 (Nat.le_refl _)
  have o13_3 := own_below o12_3 g13 (Nat.le_refl _)
  have o13_4 := own_below n12 g13 (Nat.le_refl _)
  have k13 := k12.trans (g13.mono k12.size)
  clear f12_0 f12_1 f12_2 f12_3 o12_0 o12_1 o12_2 o12_3 n12
  clear o13_4 r12
  go_wp2_with fail
  refine (markParty_any p0 l0 _ _ _ (1) _ _ rfl hn0 (by omega) o13_1).mono ?_
  rintro e w14 ⟨rfl, n14, hg14⟩
  have s14 := hg14.size
  have f14_0 := carryG hg14 r5 f13_0 (by omega)
  have f14_1 := carryG hg14 r5 f13_1 (by omega)
  have f14_2 := carryG hg14 r5 f13_2 (by omega)
  have f14_3 := carryG hg14 r5 f13_3 (by omega)
  have o14_0 := keptG hg14 r5 o13_0 r4 (by omega)
  have o14_2 := keptG hg14 r5 o13_2 r7 (by omega)
  have o14_3 := keptG hg14 r5 o13_3 r8 (by omega)
  have k14 := belowG k13 hg14 r5 k13.size (by omega)
  clear f13_0 f13_1 f13_2 f13_3 o13_0 o13_1 o13_2 o13_3
  go_wp2_with fail
  refine (markIntS_any q1 _ _ _ (1 + 2 * (l0.length : Int)) _ _ rfl hn1 (by omega) o14_2).mono ?_
  rintro e w15 ⟨rfl, n15, hg15⟩
  have s15 := hg15.size
  have f15_0 := carryG hg15 r7 f14_0 (by omega)
  have f15_1 := carryG hg15 r7 f14_1 (by omega)
  have f15_2 := carryG hg15 r7 f14_2 (by omega)
  have f15_3 := carryG hg15 r7 f14_3 (by omega)
  have o15_0 := keptG hg15 r7 o14_0 r4 (by omega)
  have o15_1 := keptG hg15 r7 n14 r5 (by omega)
  have o15_3 := keptG hg15 r7 o14_3 r8 (by omega)
  have k15 := belowG k14 hg15 r7 k14.size (by omega)
  clear f14_0 f14_1 f14_2 f14_3 o14_0 n14 o14_2 o14_3
  have hmk : ¬ (1 + 2 * (l0.length : Int) + (q1.length : Int) < 0) := by omega
  go_wp2_with fail
  refine (eqIntS_any rm rm _ _ _ _ _ hrl hrl (CRead.of_own o15_3) (CRead.of_own o15_0)).mono ?_
  rw [decide_eq_true rfl]
  rintro e w16 ⟨rfl, hb16⟩
  have g16 : Below w15.heap.size w15 w16 := hb16
  have s16 := hb16.size
  have f16_0 := carry g16 f15_0 (by omega)
  have f16_1 := carry g16 f15_1 (by omega)
  have f16_2 := carry g16 f15_2 (by omega)
  have f16_3 := carry g16 f15_3 (by omega)
  have o16_0 := own_below o15_0 g16 (Nat.le_refl _)
  have o16_1 := own_below o15_1 g16 (Nat.le_refl _)
  have o16_2 := own_below n15 g16 (Nat.le_refl _)
  have o16_3 := own_below o15_3 g16 (Nat.le_refl _)
  have k16 := k15.trans (g16.mono k15.size)
  clear f15_0 f15_1 f15_2 f15_3 o15_0 o15_1 n15 o15_3
  clear o16_1 r5
  clear o16_2 r7
  go_wp2_with fail
  refine (markIntS_any rm _ _ _ 1 _ _ rfl hrn hone o16_3).mono ?_
  rintro e w17 ⟨rfl, n17, hg17⟩
  have s17 := hg17.size
  have f17_0 := carryG hg17 r8 f16_0 (by omega)
  have f17_1 := carryG hg17 r8 f16_1 (by omega)
  have f17_2 := carryG hg17 r8 f16_2 (by omega)
  have f17_3 := carryG hg17 r8 f16_3 (by omega)
  have o17_0 := keptG hg17 r8 o16_0 r4 (by omega)
  have k17 := belowG k16 hg17 r8 k16.size (by omega)
  clear f16_0 f16_1 f16_2 f16_3 o16_0 o16_3
  have hmr : ¬ (1 + (rm.length : Int) < 0) := by omega
  go_wp2_with fail
  refine (heldIntS_any _ _ _ 1 _ hrn hone (CRead.of_own n17)).mono ?_
  rintro e w18 ⟨rfl, h18⟩
  subst h18
  go_wp2_with fail
  refine (toParty_any p0 l0 A0 c0 _ hn0 ((hA0.below k17 (Nat.le_refl _)).more k17.size)).mono ?_
  rintro e w19 ⟨T19, d19, rfl, n19, hb19⟩
  have g19 : Below w17.heap.size w17 w19 := hb19
  have s19 := hb19.size
  have f19_0 := carry g19 f17_0 (by omega)
  have f19_1 := carry g19 f17_1 (by omega)
  have f19_2 := carry g19 f17_2 (by omega)
  have f19_3 := carry g19 f17_3 (by omega)
  have o19_0 := own_below o17_0 g19 (Nat.le_refl _)
  have o19_1 := own_below n17 g19 (Nat.le_refl _)
  have k19 := k17.trans (g19.mono k17.size)
  clear f17_0 f17_1 f17_2 f17_3 o17_0 n17
  have r19 : Lies (.slice T19 l0.length d19) (w17.heap.size) w19.heap.size := own_lies n19
  go_wp2_with fail
  refine (toIntS_got q1 A1 c1 _ hn1 ((hA1.below k19 (Nat.le_refl _)).more k19.size)).mono ?_
  rintro e w20 ⟨T20, d20, rfl, n20, hb20⟩
  have g20 : Below w19.heap.size w19 w20 := hb20
  have s20 := hb20.size
  have f20_0 := carry g20 f19_0 (by omega)
  have f20_1 := carry g20 f19_1 (by omega)
  have f20_2 := carry g20 f19_2 (by omega)
  have f20_3 := carry g20 f19_3 (by omega)
  have o20_0 := own_below o19_0 g20 (Nat.le_refl _)
  have o20_1 := own_below o19_1 g20 (Nat.le_refl _)
  have o20_2 := own_below n19 g20 (Nat.le_refl _)
  have k20 := k19.trans (g20.mono k19.size)
  clear f19_0 f19_1 f19_2 f19_3 o19_0 o19_1 n19
  have r20 : Lies (.slice T20 q1.length d20) (w19.heap.size) w20.heap.size := own_lies n20
  go_wp2_with fail
  refine (implGrowGroup_any p0 l0 _ _ q1 _ _ _ hn0 (CRead.of_own o20_2) hn1 (CRead.of_own n20) (by first | exact HTab.out.below (k20.alloc k20.size _) HTab.out.pos | exact HTab.out.below k20 HTab.out.pos)).mono ?_
  rw [Hres.out]
  rintro e w21 ⟨T21, d21, rfl, n21, hb21⟩
  have g21 : Below w20.heap.size w20 w21 := hb21
  have s21 := hb21.size
  have f21_0 := carry g21 f20_0 (by omega)
  have f21_1 := carry g21 f20_1 (by omega)
  have f21_2 := carry g21 f20_2 (by omega)
  have f21_3 := carry g21 f20_3 (by omega)
  have o21_0 := own_below o20_0 g21 (Nat.le_refl _)
  have o21_1 := own_below o20_1 g21 (Nat.le_refl _)
  have o21_2 := own_below o20_2 g21 (Nat.le_refl _)
  have o21_3 := own_below n20 g21 (Nat.le_refl _)
  have k21 := k20.trans (g21.mono k20.size)
  clear f20_0 f20_1 f20_2 f20_3 o20_0 o20_1 o20_2 n20
  have r21 : Lies (.slice T21 rm.length d21) (w20.heap.size) w21.heap.size := own_lies n21
  clear o21_2 r19
  clear o21_3 r20
  go_wp2_with fail
  refine (eqIntS_any rm rm _ _ _ _ _ hrl hrl (CRead.of_own n21) (CRead.of_own o21_0)).mono ?_
  rw [decide_eq_true rfl]
  rintro e w22 ⟨rfl, hb22⟩
  have g22 : Below w21.heap.size w21 w22 := hb22
  have s22 := hb22.size
  have f22_0 := carry g22 f21_0 (by omega)
  have f22_1 := carry g22 f21_1 (by omega)
  have f22_2 := carry g22 f21_2 (by omega)
  have f22_3 := carry g22 f21_3 (by omega)
  have o22_0 := own_below o21_0 g22 (Nat.le_refl _)
  have o22_1 := own_below o21_1 g22 (Nat.le_refl _)
  have o22_2 := own_below n21 g22 (Nat.le_refl _)
  have k22 := k21.trans (g22.mono k21.size)
  clear f21_0 f21_1 f21_2 f21_3 o21_0 o21_1 n21
  go_wp2_with fail
  refine (heldIntS_any _ _ _ 1 _ hrn hone (CRead.of_own o22_1)).mono ?_
  rintro e w23 ⟨rfl, h23⟩
  subst h23
  go_wp2
  go_ret
  exact ⟨rfl, k22⟩
end Go.Proofs.YtnpljmipicjacaaDoor
/-
  FROM A LAW's WALK TO ITS STATEMENT: arguments opened (numbers, lists of numbers, parties), and what every law's post asks.
-/
namespace Go.Proofs.YtnpljmipicjacaaDoor
open Go.ChangeShapes Go.WideShapes Go.ChangeAt Go.RowKit Go.Deep

theorem Tryd.own : ownKnob Tryd.prog.godebug = none := by kernel_rfl
theorem Tryd.laidOut : laidOutB Tryd.prog = true := by kernel_rfl
theorem Tryd.cellsPair : Tryd.prog.cellsOf 87 = 2 := by kernel_rfl
theorem Tryd.cellsParty : Tryd.prog.cellsOf 24 = 2 := by kernel_rfl
theorem Tryd.cellsInt : Tryd.prog.cellsOf 3 = 1 := by kernel_rfl

section
variable {H : Type} {enc : TypeId × Value → H} {P : Program}
theorem below_trodAll (hl : laidOutB P = true) : ∀ (ts : List TypeId), (ts.all fun t => P.readableRec t && decide (t < P.types.size)) = true → ∀ {vs : List Value} {ds : List (DataW H)} {ps : List MemPlace} {W W' : World},
    DataW.TrodAll enc P W 0 (fun _ => true) true ts vs ds ps → Below W.heap.size W W' → (∀ x ∈ ps, x.block < W.heap.size) → DataW.TrodAll enc P W' 0 (fun b => decide (b < W.heap.size)) true ts vs ds ps
  | [], _, vs, ds, ps, W, W', h, _, _ => by
    obtain ⟨rfl, rfl, rfl⟩ := trodAll_nil h
    exact trodAll_mk0
  | t :: ts, hr, vs, ds, ps, W, W', h, hb, hlt => by
    obtain ⟨v, vs', d, ds', p, q, rfl, rfl, rfl, h0, h1⟩ := trodAll_cons h
    simp only [List.all_cons, Bool.and_eq_true, decide_eq_true_eq] at hr
    refine trodAll_cons_mk (Below.trod hl hr.1.1 hr.1.2 h0 hb (fun x hx => hlt x (List.mem_append_left _ hx))) (below_trodAll hl ts (by simpa using hr.2) h1 hb (fun x hx => hlt x (List.mem_append_right _ hx)))

theorem law_post {f : Func} {s : ChangeSpec} {W W' : World} {args : Array Value} {ds gs : List (DataW H)} {before : List MemPlace} {tb : TypeId} (hl : laidOutB P = true)
    (hr : (f.params.toList.all fun t => P.readableRec t && decide (t < P.types.size)) = true) (hres : f.resultTypes = #[tb]) (htb : P.underlying tb = some .bool) (hsv : s.vars = [])
    (hspec : s.fn H (ds ++ gs) = { results := [.lit (.bool true)], args := ds })
    (hW : DataW.Whole enc P f.params.toList s.vars false W args.toList ds gs before) (hb : Below W.heap.size W W') : s.post enc P f false true false false W args (.bool true) W' := by
  have hW' := hW
  obtain ⟨p, q, hA, hV, rfl, _, _⟩ := hW
  rw [hsv] at hV
  obtain ⟨rfl, rfl⟩ := trodVars_none hV
  have hlt : ∀ x ∈ p, x.block < W.heap.size := fun x hx => by simpa using hW'.lt x (by simpa using hx)
  refine ⟨ds, _, _, [] ++ [], p, [], hW', ?_, ?_, ?_, hb.frame _, fun h => by cases h⟩
  · rw [hspec, hres]
    exact trodAll_mk1 (shut_bool htb _)
  · rw [hspec]
    exact below_trodAll hl _ hr hA hb hlt
  · rw [hspec, hsv]
    rfl
end

section
variable {H : Type} {enc : TypeId × Value → H} {W : World}
set_option maxRecDepth 100000 in
/-- A party that came in. -/
theorem open_party {v : Value} {d : DataW H} {p : List MemPlace} {r : Reach} {b0 : Nat} (hv : Value.okWide Tryd.prog W r b0 24 v) (h : DataW.Trod enc Tryd.prog W 0 (fun _ => true) true 24 v d p) :
    ∃ (x : Int) (l : PL) (A : Option Addr) (c : Nat), v = .agg #[.int .i64 x, .slice A l.length c] ∧ l.length ≤ maxLen ∧ CRead W W.heap.size A (pcells l) := by
  obtain ⟨v0, v1, y0, y1, n, rfl, _, _, h0, h1⟩ := Joins.open_agg2 Tryd.underlying24 (by kernel_rfl) Tryd.cellsParty hv h
  obtain ⟨x, hx, _, _⟩ := DataW.trod_int Tryd.underlying3 h0
  simp only [List.cons.injEq, and_true] at hx
  subst hx
  rcases open_slice_pairs Tryd.underlying22 Tryd.underlying87 Tryd.cellsPair rfl rfl (by kernel_rfl) (by kernel_rfl) h1 with ⟨hcs, _⟩ | ⟨a, len, cap, m, n', V0, V1, D0, D1, P0, P1, hcs, _, hlc, hcm, hm, _, hall⟩
  · simp only [List.cons.injEq, and_true] at hcs
    subst hcs
    exact ⟨x, [], none, 0, rfl, Nat.zero_le _, CRead.nil⟩
  · simp only [List.cons.injEq, and_true] at hcs
    subst hcs
    have hm' : m = cap := by simpa using hm
    subst hm'
    have each : ∀ i, i < len → ∃ a0 a1 : Int, W.cell? (a.add (i * 2)) = some (.int .i64 a0) ∧ W.cell? (a.add (i * 2 + 1)) = some (.int .i64 a1) := by
      intro i hi
      obtain ⟨c0, c1, t0, t1⟩ := hall i (by omega)
      obtain ⟨a0, e0, _, _⟩ := DataW.trod_int Tryd.underlying3 t0
      obtain ⟨a1, e1, _, _⟩ := DataW.trod_int Tryd.underlying3 t1
      simp only [List.cons.injEq, and_true] at e0 e1
      exact ⟨a0, a1, by rw [c0, e0], by rw [c1, e1]⟩
    let num : Option Value → Int := fun | some (.int _ z) => z | _ => 0
    let l : PL := (List.range len).map fun i => (num (W.cell? (a.add (i * 2))), num (W.cell? (a.add (i * 2 + 1))))
    have hll : l.length = len := by simp [l]
    refine ⟨x, l, some a, m, by rw [hll], by rw [hll]; omega, ?_⟩
    intro j u hu
    have hjl : j < (pcells l).length := (List.getElem?_eq_some_iff.1 hu).1
    rw [pcells_length, hll] at hjl
    have hi : j / 2 < len := by omega
    obtain ⟨a0, a1, c0, c1⟩ := each (j / 2) hi
    have hl : l[j / 2]? = some (a0, a1) := by simp [l, hi, c0, c1, num]
    obtain ⟨z0, _, cz, _⟩ := each 0 (by omega)
    have hspot : a.spot = none := by simpa [Addr.add] using World.cell?_spot cz
    obtain ⟨b, off, sp⟩ := a
    simp only at hspot
    subst hspot
    have hb : b < W.heap.size := by
      have := World.block_lt_of_cell? W _ cz
      simpa [Addr.add] using this
    refine ⟨b, off, rfl, hb, ?_⟩
    rw [add_plain] at c0 c1
    rcases Nat.mod_two_eq_zero_or_one j with h2 | h2
    · have e : j = j / 2 * 2 := by omega
      have e2 := pcells_fst hl
      rw [← e] at e2 c0
      rw [hu] at e2
      rw [c0, e2]
    · have e : j = j / 2 * 2 + 1 := by omega
      have e2 := pcells_snd hl
      rw [← e] at e2 c1
      rw [hu] at e2
      rw [c1, e2]
end
end Go.Proofs.YtnpljmipicjacaaDoor
/-
  A LIST OF NUMBERS THAT CAME IN, opened.
-/
namespace Go.Proofs.YtnpljmipicjacaaDoor
open Go.ChangeShapes Go.WideShapes Go.ChangeAt Go.RowKit Go.Deep

section
variable {H : Type} {enc : TypeId × Value → H} {W : World}
set_option maxRecDepth 100000 in
/-- A list of numbers that came in. -/
theorem open_list {v : Value} {d : DataW H} {p : List MemPlace} {r : Reach} {b0 : Nat} (hv : Value.okWide Tryd.prog W r b0 25 v) (h : DataW.Trod enc Tryd.prog W 0 (fun _ => true) true 25 v d p) :
    ∃ (l : List Int) (A : Option Addr) (c : Nat), v = .slice A l.length c ∧ l.length ≤ maxLen ∧ CRead W W.heap.size A (icells l) := by
  obtain ⟨a0, len0, cap0, rfl⟩ := okWide_slice Tryd.underlying25 hv
  obtain ⟨fuel, hf⟩ := h
  rcases open_slice1 Tryd.underlying25 Tryd.cellsInt hf with ⟨hcs, _⟩ | ⟨a, len, cap, m, n, V, D, Pl, hcs, _, hlc, hcm, hm, _, hall⟩
  · simp [Value.cells] at hcs
    obtain ⟨rfl, rfl, rfl⟩ := hcs
    exact ⟨[], none, 0, rfl, Nat.zero_le _, CRead.nil⟩
  · simp [Value.cells] at hcs
    obtain ⟨rfl, rfl, rfl⟩ := hcs
    have hm' : m = cap0 := by simpa using hm
    subst hm'
    have each : ∀ i, i < len0 → ∃ x : Int, W.cell? (a.add i) = some (.int .i64 x) := by
      intro i hi
      obtain ⟨c0, t0⟩ := hall i (by omega)
      obtain ⟨x, e0, _, _⟩ := DataW.trod_int Tryd.underlying3 t0
      simp only [List.cons.injEq, and_true] at e0
      exact ⟨x, by rw [c0, e0]⟩
    let num : Option Value → Int := fun | some (.int _ z) => z | _ => 0
    let l : List Int := (List.range len0).map fun i => num (W.cell? (a.add i))
    have hll : l.length = len0 := by simp [l]
    refine ⟨l, some a, m, by rw [hll], by rw [hll]; omega, ?_⟩
    intro j u hu
    have hjl : j < (icells l).length := (List.getElem?_eq_some_iff.1 hu).1
    rw [icells_length, hll] at hjl
    obtain ⟨x, cx⟩ := each j hjl
    have hl : l[j]? = some x := by simp [l, hjl, cx, num]
    obtain ⟨z0, cz⟩ := each 0 (by omega)
    have hspot : a.spot = none := by simpa [Addr.add] using World.cell?_spot cz
    obtain ⟨b, off, sp⟩ := a
    simp only at hspot
    subst hspot
    have hb : b < W.heap.size := by
      have := World.block_lt_of_cell? W _ cz
      simpa [Addr.add] using this
    refine ⟨b, off, rfl, hb, ?_⟩
    rw [add_plain] at cx
    have e2 := icells_at hl
    rw [hu] at e2
    rw [cx, e2]
end
end Go.Proofs.YtnpljmipicjacaaDoor
/-
  THE PROGRAM's HEAD, LOOKED AT ONCE: which make it is, and that a call may enter it. (The head's text is long: the kernel must not read it twice.)
-/
namespace Go.Proofs.YtnpljmipicjacaaDoor

theorem make_of {P : Program} {rest : List (List Char)} (h : behindMainWord (wordsSigns P.initOrder.toList) = "cut".toList :: rest) : P.make = some .cut := by
  unfold Program.make
  rw [h]
  rfl
theorem strip_cut (rest : List (List Char)) : stripLifts liftWords ("cut".toList :: rest) = ([], "cut".toList :: rest) := rfl
theorem lifts_of {P : Program} {rest : List (List Char)} (h : behindMainWord (wordsSigns P.initOrder.toList) = "cut".toList :: rest) : P.headLifts = [] := by
  unfold Program.headLifts
  rw [h, strip_cut]
  rfl
theorem final_of {P : Program} {rest : List (List Char)} (h : behindMainWord (wordsSigns P.initOrder.toList) = "cut".toList :: rest) : P.liftsFinal = false := by
  unfold Program.liftsFinal
  rw [lifts_of h, h]
  rfl
theorem enter_of {P : Program} {rest : List (List Char)} (h : behindMainWord (wordsSigns P.initOrder.toList) = "cut".toList :: rest) (h1 : P.laysLater = false) (h2 : P.bearsReflect = false) (h3 : P.doorFits [] = true) : P.mayEnter = true := by
  unfold Program.mayEnter
  rw [h]
  show (_ || _ || _) = true
  rw [strip_cut, h1, h2, h3]
  rfl
end Go.Proofs.YtnpljmipicjacaaDoor
/-
  THE PROGRAM's CLOSED FACTS, EACH ONCE; and how a row's facts are put together out of them.
-/
namespace Go.Proofs.YtnpljmipicjacaaDoor
open Go.ChangeShapes Go.WideShapes Go.ChangeAt Go.RowKit

def headSigns : List Char := ([104, 97, 114, 110, 101, 115, 115, 32, 51, 51, 56, 52, 55, 54, 51, 53, 98, 101, 100, 53, 98, 101, 54, 57, 55, 55, 51, 98, 51, 49, 99, 56, 52, 56, 97, 98, 100, 98, 50, 98, 54, 97, 101, 50, 55, 51, 100, 101, 55, 49, 97, 54, 51, 97, 55, 100, 100, 50, 55, 48, 56, 100, 97, 54, 100, 50, 98, 98, 98, 52, 50, 50, 32, 99, 117, 116, 32, 97, 116, 32, 108, 111, 111, 112, 46, 101, 120, 97, 109, 112, 108, 101, 47, 103, 48, 49, 50, 53, 55, 47, 108, 97, 119, 115, 46, 70, 110, 69, 120, 97, 99, 116, 71, 114, 111, 119, 71, 114, 111, 117, 112, 32, 108, 111, 111, 112, 46, 101, 120, 97, 109, 112, 108, 101, 47, 103, 48, 49, 50, 53, 55, 47, 108, 97, 119, 115, 46, 70, 110, 69, 120, 97, 99, 116, 67, 111, 117, 110, 116, 84, 104, 114, 101, 101, 115, 32, 108, 111, 111, 112, 46, 101, 120, 97, 109, 112, 108, 101, 47, 103, 48, 49, 50, 53, 55, 47, 108, 97, 119, 115, 46, 70, 110, 69, 120, 97, 99, 116, 70, 114, 105, 101, 110, 100, 84, 104, 114, 101, 101, 115, 32, 108, 111, 111, 112, 46, 101, 120, 97, 109, 112, 108, 101, 47, 103, 48, 49, 50, 53, 55, 47, 108, 97, 119, 115, 46, 70, 110, 69, 120, 97, 99, 116, 71, 114, 101, 97, 116, 101, 115, 116, 71, 114, 111, 117, 112, 32, 108, 111, 111, 112, 46, 101, 120, 97, 109, 112, 108, 101, 47, 103, 48, 49, 50, 53, 55, 47, 108, 97, 119, 115, 46, 70, 110, 69, 120, 97, 99, 116, 71, 114, 101, 97, 116, 101, 115, 116, 83, 116, 114, 97, 110, 103, 101, 32, 108, 111, 111, 112, 46, 101, 120, 97, 109, 112, 108, 101, 47, 103, 48, 49, 50, 53, 55, 47, 108, 97, 119, 115, 46, 70, 110, 69, 120, 97, 99, 116, 65, 108, 108, 71, 114, 111, 117, 112, 115, 32, 108, 111, 111, 112, 46, 101, 120, 97, 109, 112, 108, 101, 47, 103, 48, 49, 50, 53, 55, 47, 108, 97, 119, 115, 46, 70, 110, 69, 120, 97, 99, 116, 65, 108, 108, 65, 112, 97, 114, 116] : List Nat).map Char.ofNat
set_option maxRecDepth 100000 in
theorem Tryd.initOrder_is : Tryd.prog.initOrder = String.ofList headSigns := by kernel_rfl
theorem Tryd.initOrder_signs : Tryd.prog.initOrder.toList = headSigns := by rw [Tryd.initOrder_is]; exact String.toList_ofList
set_option maxRecDepth 100000 in
theorem head_words : (behindMainWord (wordsSigns headSigns)).take 1 = ["cut".toList] := by kernel_rfl
theorem Tryd.words : ∃ rest, behindMainWord (wordsSigns Tryd.prog.initOrder.toList) = "cut".toList :: rest := by
  rw [Tryd.initOrder_signs]
  have h := List.take_append_drop 1 (behindMainWord (wordsSigns headSigns))
  rw [head_words] at h
  exact ⟨_, h.symm⟩
theorem Tryd.make : Tryd.prog.make = some .cut := by obtain ⟨_, h⟩ := Tryd.words; exact make_of h
theorem Tryd.liftsFinal : Tryd.prog.liftsFinal = false := by obtain ⟨_, h⟩ := Tryd.words; exact final_of h
theorem Tryd.laysLater : Tryd.prog.laysLater = false := by kernel_rfl
theorem Tryd.bearsReflect : Tryd.prog.bearsReflect = false := by kernel_rfl
theorem Tryd.doorFits : Tryd.prog.doorFits [] = true := by kernel_rfl
theorem Tryd.mayEnter : Tryd.prog.mayEnter = true := by obtain ⟨_, h⟩ := Tryd.words; exact enter_of h Tryd.laysLater Tryd.bearsReflect Tryd.doorFits
theorem Tryd.mapsRowed : mapsRowed Tryd.prog = true := by kernel_rfl
theorem Tryd.stops : (Tryd.prog.stops == []) = true := by kernel_rfl
theorem Tryd.stopKnobs : (Tryd.prog.stopKnobs == []) = true := by kernel_rfl
theorem Tryd.plainKeys : Tryd.prog.plainKeys = true := by kernel_rfl
theorem Tryd.stopsHeard : Tryd.prog.stopsHeard = true := by kernel_rfl

/-- What the types of one law give: closed facts on its parameters and its result. -/
def typeFacts (P : Program) (fn : Func) (s : ChangeSpec) (c : OpenClaim) : Bool :=
  fn.params.all (P.readableRec ·) && namedTie P c.named s.vars && (c.stops == []) && (c.knobs == []) &&
  (c.maps == (fn.params.toList ++ s.plain.varTypes P).any (P.mapsRec ·)) && (c.ifaces == (fn.params.toList ++ s.plain.varTypes P).any (P.ifacesRec ·)) && (c.mapsOut == P.mapsAmong fn.resultTypes.toList) &&
  (c.loops == (fn.params.toList ++ s.plain.varTypes P).any (P.loopsFrom ·)) && (c.wideKeys == (fn.params.toList ++ s.plain.varTypes P ++ fn.resultTypes.toList).any (P.wideKeysFrom ·)) &&
  s.vars.all (P.varReadable ·) && fn.resultTypes.all (fun t => P.readableRec t && decide (t < P.types.size)) && (c.ifacesOut == fn.resultTypes.toList.any (P.ifacesRec ·)) && (c.loopsOut == fn.resultTypes.toList.any (P.loopsFrom ·)) && c.shortTexts.isNone &&
  (c.kinds == (if c.domain.isEmpty then [] else fn.params.toList.map fun t => match P.underlying t with | some (.int k) => some k | _ => none)) && (c.pinned == c.pinnedBy) &&
  (c.veiled == (fn.params.toList ++ s.plain.varTypes P ++ fn.resultTypes.toList).any (P.veiledRec ·)) && c.veiledFits P fn.params.toList (fn.params.toList ++ s.plain.varTypes P ++ fn.resultTypes.toList)
theorem joined_all {P : Program} {f : FuncId} {fn : Func} {s : ChangeSpec} {c : OpenClaim} (k1 : c.wf (OpenSpec.ofChange s) = true) (kt : typeFacts P fn s c = true)
    (k10 : (c.inPlace == P.inPlace f) = true) (k11 : (c.unfollowed == P.unfollowed f) = true) (k12 : (c.recurses == P.recurses f) = true) (k13 : (c.named == P.varsNamed f) = true)
    (e2 : laidOutB P = true) (e3 : mapsRowed P = true) (e7 : (P.stops == []) = true) (e9 : (P.stopKnobs == []) = true) (e22 : (c.plainKeys == P.plainKeys) = true) (e23 : P.stopsHeard = true) (e24 : P.mayEnter = true)
    (e24b : (c.lifted == P.liftsFinal) = true) (e24c : (P.make == some c.make) = true) : joinedFacts P f fn s c = true := by
  unfold typeFacts at kt
  unfold joinedFacts
  simp only [Bool.and_eq_true] at kt ⊢
  obtain ⟨⟨⟨⟨⟨⟨⟨⟨⟨⟨⟨⟨⟨⟨⟨⟨⟨t1, t2⟩, t3⟩, t4⟩, t5⟩, t6⟩, t7⟩, t8⟩, t9⟩, t10⟩, t11⟩, t12⟩, t13⟩, t14⟩, t15⟩, t16⟩, t17⟩, t18⟩ := kt
  exact ⟨⟨⟨⟨⟨⟨⟨⟨⟨⟨⟨⟨⟨⟨⟨⟨⟨⟨⟨⟨⟨⟨⟨⟨⟨⟨⟨⟨⟨⟨⟨k1, e2⟩, e3⟩, t1⟩, t2⟩, t3⟩, e7⟩, t4⟩, e9⟩, k10⟩, k11⟩, k12⟩, k13⟩, t5⟩, t6⟩, t7⟩, t8⟩, t9⟩, t10⟩, t11⟩, t12⟩, t13⟩, e22⟩, t14⟩, e23⟩, e24⟩, e24b⟩, e24c⟩, t15⟩, t16⟩, t17⟩, t18⟩
theorem joined_of {f : FuncId} {fn : Func} {s : ChangeSpec} {c : OpenClaim} (k1 : c.wf (OpenSpec.ofChange s) = true) (kt : typeFacts Tryd.prog fn s c = true)
    (k10 : (c.inPlace == Tryd.prog.inPlace f) = true) (k11 : (c.unfollowed == Tryd.prog.unfollowed f) = true) (k12 : (c.recurses == Tryd.prog.recurses f) = true) (k13 : (c.named == Tryd.prog.varsNamed f) = true)
    (k22 : c.plainKeys = true) (k24b : c.lifted = false) (k24c : c.make = .cut) : joinedFacts Tryd.prog f fn s c = true :=
  joined_all k1 kt k10 k11 k12 k13 Tryd.laidOut Tryd.mapsRowed Tryd.stops Tryd.stopKnobs (by rw [k22, Tryd.plainKeys]; rfl) Tryd.stopsHeard Tryd.mayEnter (by rw [k24b, Tryd.liftsFinal]; rfl) (by rw [k24c, Tryd.make]; rfl)
end Go.Proofs.YtnpljmipicjacaaDoor
/-
  THE DOOR SEAT's CONDITION: the library's table lies in its variable: what a walk reads of it, and a world that meets it.
-/
namespace Go.Proofs.YtnpljmipicjacaaDoor
open Go.RowKit

def tabInts : List Int := Lib.deBruijn32tab.map fun n : Nat => (n : Int)
theorem Tryd.tabGlobal : Tryd.prog.globalNamed "math/bits.deBruijn32tab" = some 0 := by kernel_rfl
theorem Tryd.tabType : (Tryd.prog.globals[0]?).map (·.type) = some 106 := by kernel_rfl
theorem Tryd.tabCells : Tryd.prog.cellsOf 106 = 32 := by kernel_rfl
theorem Tryd.byteCells : Tryd.prog.cellsOf 5 = 1 := by kernel_rfl
theorem tabInts_at : ∀ i : Fin 32, tabInts.getD i.val 0 = ((Lib.deBruijn32tab.getD i.val 0 : Nat) : Int) := by decide
theorem tab_of_laid {W : World} (h : laidMetH Tryd.prog [("math/bits.deBruijn32tab", Rows.laid_math_bits_deBruijn32tab)] W) : TabW W := by
  have h' : laidMet Tryd.prog (("math/bits.deBruijn32tab", Lib.tabData .u8 tabInts) :: []) W := h
  have ht := Lib.tabIs_of_head Tryd.tabGlobal Tryd.tabType Tryd.underlying106 Tryd.underlying5 Tryd.byteCells Tryd.tabCells h'
  intro j hj
  rw [ht.cell Tryd.tabGlobal j (by simpa [tabInts, Lib.deBruijn32tab] using hj), tabInts_at ⟨j, hj⟩]

/-- A world that meets the condition. -/
noncomputable def laidWorld (os : Os) : World :=
  let w0 := World.holding Tryd.prog os ⟨#[], #[], []⟩
  { w0 with heap := w0.heap.modify 0 fun
      | .cells _ t frozen => .cells (tabInts.map fun z => Value.int .u8 z).toArray t frozen
      | o => o }
theorem laidWorld_met (os : Os) (args : Array Value) : laidMetH Tryd.prog [("math/bits.deBruijn32tab", Rows.laid_math_bits_deBruijn32tab)] ((laidWorld os).forCall (fun _ _ => 0) ⟨#[], args, []⟩).memory :=
  laidMetH_of_parts (laidMet_of_run' 8 (by kernel_rfl) (by kernel_rfl)) (by kernel_rfl)
end Go.Proofs.YtnpljmipicjacaaDoor
