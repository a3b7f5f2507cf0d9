/-
  Texts put together for the claim of 'WidestDistance' (pack 4): PeopleOf, Ties2, Has, Own, LRows, ChooseP, Ways, GroupP, GroupS, TrG, CountG, Threes, ThreesAt, DistI, DistO.
-/
import Derived.Test.YthpapkfpcijpoaaDoorWidestDistanceP1
import Derived.Test.YthpapkfpcijpoaaDoorWidestDistanceP2
import Derived.Test.YthpapkfpcijpoaaDoorWidestDistanceP3
import Derived.BigQuiet
import Derived.ArgAppend
import Derived.Laws.AppendOwnNone
/-
  'impl.peopleOf', by its contract: a number of sixteen bits as a rising list.
-/
namespace Go.Proofs.YthpapkfpcijpoaaDoor
open Go.RowKit

theorem drop_least {J a : Nat} {cs : List Nat} (h : IsSet J (a :: cs)) : IsSet (J &&& (J - 1)) cs := by
  have hp := h.pos
  have hs := h.small
  obtain ⟨m, hm, hk⟩ := Lib.ctzFrom_spec 16 J (by omega) hs
  have e : Lib.ctz 16 J = Lib.ctzFrom 16 J := by simp [Lib.ctz, hp]
  rw [← e, h.least] at hm hk
  have hp2 : 0 < 2 ^ a := Nat.two_pow_pos a
  have hJ1 : J - 1 = 2 ^ a * (2 * m) + (2 ^ a - 1) := by
    have : 2 ^ a * (2 * m + 1) = 2 ^ a * (2 * m) + 2 ^ a := by rw [Nat.mul_add, Nat.mul_one]
    omega
  have hlo : 2 ^ a - 1 < 2 ^ a := by omega
  have hbit : ∀ b, (J &&& (J - 1)).testBit b = (J.testBit b && decide (b ≠ a)) := by
    intro b
    rw [Nat.testBit_and]
    cases eb : J.testBit b with
    | false => rfl
    | true =>
      rw [Bool.true_and, hJ1, Nat.testBit_two_pow_mul_add _ hlo]
      rw [hm, Nat.testBit_two_pow_mul] at eb
      simp only [Bool.and_eq_true, decide_eq_true_eq] at eb
      rw [if_neg (by omega)]
      by_cases hba : b = a
      · subst hba; simp
      · obtain ⟨i, hi⟩ : ∃ i, b - a = i + 1 := ⟨b - a - 1, by omega⟩
        rw [hi] at eb ⊢
        rw [Nat.testBit_succ] at eb ⊢
        have e1 : (2 * m + 1) / 2 = m := by omega
        have e2 : 2 * m / 2 = m := by omega
        rw [e1] at eb
        rw [e2, eb.2]
        simp [hba]
  have ht := h.tail
  refine ⟨ht.up, ht.lt, fun b => ?_⟩
  rw [hbit, Bool.and_eq_true, h.mem, List.mem_cons, decide_eq_true_eq]
  have hap := (List.pairwise_cons.1 h.up).1
  constructor
  · rintro ⟨h1 | h1, h2⟩
    · exact absurd h1 h2
    · exact h1
  · intro hb
    have := hap b hb
    exact ⟨.inr hb, by omega⟩
set_option maxHeartbeats 2000000 in
set_option maxRecDepth 100000 in
theorem peopleOf_any {J : Nat} {cs : List Nat} (hset : IsSet J cs) (w : World) (htab : TabW w) :
    Calls Tryd.prog 45 #[.int .u16 J] w fun e w' => ∃ A c, e = .returned (.slice A cs.length c) ∧ w'.ownsRow w.heap.size 3 1 (.slice A cs.length c) cs.length (icells (cs.map fun b : Nat => (b : Int))) ∧ Below w.heap.size w w' := by
  obtain ⟨i0, hi, hz0, hz1, hz2⟩ := info_parts Tryd.infoInt
  have hlen : cs.length ≤ 16 := by
    have h := List.Nodup.length_le_of_subset (l₁ := cs) (l₂ := List.range 16) (hset.up.imp fun h => Nat.ne_of_lt h) (fun b hb => List.mem_range.2 (hset.lt b hb))
    simpa using h
  have HTab := Lib.hid htab
  have Hset := Lib.hid hset
  clear htab hset
  go_enter Tryd.func45, Tryd.ntmps45
  go_wp2
  go_loopw [0, 3] (fun g v wr => ∃ (k J' : Nat) (A : Option Addr) (c : Nat), k ≤ cs.length ∧ g = .int .u16 J' ∧ IsSet J' (cs.drop k) ∧ v = .slice A k c ∧ wr.ownsRow w.heap.size 3 1 (.slice A k c) k (icells ((cs.take k).map fun b : Nat => (b : Int))) ∧ Below w.heap.size w wr) (fun _ v _ => cs.length - sliceLen v)
  case atStart => exact ⟨0, J, none, 0, Nat.zero_le _, rfl, Hset.out, rfl, World.ownsRow_nil _ _ _ _, Below.refl _ _⟩
  case round =>
    obtain ⟨k, J', A, c, hk, rfl, hs, rfl, own, hb⟩ := hrel
    have s0 := hb.size
    by_cases hlt : k < cs.length
    · obtain ⟨a, ha⟩ := getSome cs k hlt
      have hdr : cs.drop k = a :: cs.drop (k + 1) := by
        rw [List.drop_eq_getElem_cons hlt]
        rw [List.getElem?_eq_getElem hlt] at ha
        rw [Option.some.inj ha]
      rw [hdr] at hs
      have hj := hs.pos
      have hsm := hs.small
      have hne : ((J' : Int) == 0) = false := by simp only [beq_eq_false_iff_ne, ne_eq]; omega
      have hne2 : ¬ ((J' : Int) = 0) := by omega
      have hnx := drop_least hs
      have hand : bits .and .u16 (J' : Int) ((J' : Int) - 1) = ((J' &&& (J' - 1) : Nat) : Int) := by
        rw [show (J' : Int) - 1 = ((J' - 1 : Nat) : Int) by omega]
        exact u16_and_nat J' (J' - 1) hsm (by omega)
      have htk : (cs.take (k + 1)).map (fun b : Nat => (b : Int)) = (cs.take k).map (fun b : Nat => (b : Int)) ++ [(a : Int)] := by
        rw [List.take_add_one, ha]; simp
      have call := tz16_any hs wr (HTab.out.below hb HTab.out.pos)
      have Call := Lib.hid call
      have Hand := Lib.hid hand
      have Htk := Lib.hid htk
      have Hnx := Lib.hid hnx
      have Own := Lib.hid own
      have Hb := Lib.hid hb
      clear ha hdr hs hj call hand htk hnx own hb
      go_wp2_with fail
      refine Call.out.mono ?_
      rintro e w1 ⟨rfl, rfl⟩
      go_wp2_with (at_builtin; refine wpList_append_own _ rfl _ _ 26 rfl w.heap.size 3 i0 _ 1 8 Tryd.underlying26 hi hz0 hz1 hz2 rfl (by decide) _ _ _ rfl (Own.out.alloc _) ⟨wr.heap.size, 0, none⟩ 1 1 [.int .i64 a] rfl rfl (one_cell (by simp)) (one_one rfl) (by unfold maxLen; omega) (by omega) (by simp; omega) ?_; intro v3 w3 own3 gr3 _; obtain ⟨A3, c3, rfl, _⟩ := own_shape own3)
      have hb3 : Below w.heap.size w w3 := (Hb.out.alloc (by omega) _).grown gr3 (by simp; omega) (fun k hk => (Own.out.lt k hk).1)
      rw [Hand.out]
      go_roundw
      case rel => exact ⟨k + 1, _, A3, c3, by omega, rfl, Hnx.out, by go_num, by rw [Htk.out, icells_append]; exact own3, hb3⟩
      case measure => simp [sliceLen]; omega
    · have hkl : k = cs.length := by omega
      subst hkl
      rw [List.drop_length] at hs
      have hz := hs.zero
      subst hz
      rw [List.take_length] at own
      have Own := Lib.hid own
      clear own
      go_wp2
      go_ret
      exact ⟨A, c, rfl, Own.out, hb⟩
end Go.Proofs.YthpapkfpcijpoaaDoor
/-
  TIES MADE OF A PARTY's PAIRS ('friendsIn'); everybody. Written by wip/tools/gen_ties2.py.
-/
namespace Go.Proofs.YthpapkfpcijpoaaDoor
open Go.RowKit

theorem TiesOf.none : TiesOf (fun _ => 0) (adj []) := ⟨fun a b _ _ => by rw [Nat.zero_testBit]; rfl, fun a _ => by omega⟩
theorem TiesOf.congr {T : Nat → Nat} {t t' : Nat → Nat → Bool} (h : TiesOf T t) (e : ∀ a b, a < 12 → b < 16 → t a b = t' a b) : TiesOf T t' := ⟨fun a b ha hb => (h.bit a b ha hb).trans (e a b ha hb), h.lt⟩
theorem TiesOf.with {T : Nat → Nat} {t : Nat → Nat → Bool} (h : TiesOf T t) {a b : Nat} (ha : a < 12) (hb : b < 12) (hab : a ≠ b) : TiesOf (withT T a b) (upd (upd t a b true) b a true) := by
  have e1 : ∀ i, withT T a b i = if i = b then T b ||| 2 ^ a else if i = a then T a ||| 2 ^ b else T i := fun i => by
    unfold withT updN
    by_cases h1 : i = b
    · rw [if_pos h1, if_pos h1, if_neg (by omega)]
    · rw [if_neg h1, if_neg h1]
  refine ⟨fun i j hi hj => ?_, fun i hi => ?_⟩
  · rw [e1]
    unfold upd
    by_cases h1 : i = b
    · rw [if_pos h1, Nat.testBit_or, Nat.testBit_two_pow, h.bit b j hb hj]
      by_cases h2 : j = a
      · simp [h1, h2]
      · have h3 : ¬ (a = j) := fun e => h2 e.symm
        have h4 : ¬ (b = a) := fun e => hab e.symm
        simp [h1, h2, h3, h4]
    · rw [if_neg h1]
      by_cases h2 : i = a
      · rw [if_pos h2, Nat.testBit_or, Nat.testBit_two_pow, h.bit a j ha hj]
        by_cases h3 : j = b
        · simp [h2, h3, hab]
        · have h4 : ¬ (b = j) := fun e => h3 e.symm
          simp [h2, h3, h4, hab]
      · rw [if_neg h2, h.bit i j hi hj]
        simp [h1, h2]
  · rw [e1]
    split
    · exact or_lt (h.lt b hb) (by omega)
    · split
      · exact or_lt (h.lt a ha) (by omega)
      · exact h.lt i hi
theorem people_bits : ∀ n : Fin 13, ((2 : Int) ^ n.val % 65536 - 1) % 65536 = ((2 ^ n.val - 1 : Nat) : Int) := by decide

/-- the ties of a list of pairs -/
def friendsT (l : PL) : Nat → Nat := l.foldl (fun T q => withT T q.1.toNat q.2.toNat) fun _ => 0
theorem friendsT_snoc (l : PL) (a b : Nat) : friendsT (l ++ [((a : Int), (b : Int))]) = withT (friendsT l) a b := by simp [friendsT]

set_option maxHeartbeats 4000000 in
set_option maxRecDepth 100000 in
theorem friendsIn_any (p : Int) (l : PL) (A : Option Addr) (c : Nat) (w : World) (hp : isP p l = true) (hA : CRead w w.heap.size A (pcells l)) :
    Calls Tryd.prog 44 #[.agg #[.int .i64 p, .slice A l.length c]] w fun e w' => e = .returned (.agg (tcells (friendsT l))) ∧ TiesOf (friendsT l) (adj l) ∧ Below w.heap.size w w' := by
  have hn := isP_range hp
  have hlen : l.length ≤ 66 := by have h1 := isP_length hp; have h2 := people_sq hn.1 hn.2; omega
  obtain ⟨W, hW⟩ : ∃ W, ((w.alloc (Obj.cells #[.int .i64 p, .slice A l.length c] 31)).alloc (Obj.cells #[.int .u16 0, .int .u16 0, .int .u16 0, .int .u16 0, .int .u16 0, .int .u16 0, .int .u16 0, .int .u16 0, .int .u16 0, .int .u16 0, .int .u16 0, .int .u16 0] 66)).alloc (Obj.cells #[.int .u16 0, .int .u16 0, .int .u16 0, .int .u16 0, .int .u16 0, .int .u16 0, .int .u16 0, .int .u16 0, .int .u16 0, .int .u16 0, .int .u16 0, .int .u16 0] 66) = W := ⟨_, rfl⟩
  have kW : Below w.heap.size w W := by rw [← hW]; go_grown
  have zW : W.heap.size = w.heap.size + 3 := by rw [← hW]; simp
  have p1 : W.cell? ⟨w.heap.size, 1, none⟩ = some (.slice A l.length c) := by rw [← hW]; exact (World.cell?_alloc_lt _ _ _ (by simp; omega)).trans ((World.cell?_alloc_lt _ _ _ (by simp)).trans (by simp))
  have rowR : W.rowIs (w.heap.size + 1) 66 12 (fun _ => .int .u16 0) := by
    rw [← hW]
    have := rowIs_u16 (w.alloc (Obj.cells #[.int .i64 p, .slice A l.length c] 31)) (fun _ => 0) 66
    simp only [World.size_alloc] at this
    exact this.alloc _
  have rowF : W.rowIs (w.heap.size + 2) 66 12 (fun _ => .int .u16 0) := by
    rw [← hW]
    have := rowIs_u16 ((w.alloc (Obj.cells #[.int .i64 p, .slice A l.length c] 31)).alloc (Obj.cells #[.int .u16 0, .int .u16 0, .int .u16 0, .int .u16 0, .int .u16 0, .int .u16 0, .int .u16 0, .int .u16 0, .int .u16 0, .int .u16 0, .int .u16 0, .int .u16 0] 66)) (fun _ => 0) 66
    simp only [World.size_alloc] at this
    exact this
  have Hp := Lib.hid hp
  have RF := Lib.hid rowF
  have RR := Lib.hid rowR
  have P1 := Lib.hid p1
  have HW := Lib.hid hW
  have KW := Lib.hid kW
  clear hp rowF rowR hW kW
  go_enter Tryd.func44, Tryd.ntmps44
  go_upto_region 2 with fail
  rw [HW.out]
  go_wp2_with fail
  clear p1
  go_loopw [9] (fun i wr => ∃ (m : Nat) (T : Nat → Nat), m ≤ l.length ∧ i = .int .i64 m ∧ TiesOf T (adj (l.take m)) ∧ T = friendsT (l.take m) ∧ wr.rowIs (w.heap.size + 2) 66 12 (fun j => .int .u16 (T j)) ∧ Below (w.heap.size + 2) W wr) (fun i _ => l.length - (intOf i).toNat)
  case atStart => exact ⟨0, fun _ => 0, Nat.zero_le _, rfl, TiesOf.none, rfl, RF.out, Below.refl _ _⟩
  case round =>
    obtain ⟨m, T, hm, rfl, hT, hTf, rowF, hb⟩ := hrel
    have HTf := Lib.hid hTf
    clear hTf
    have s0 := hb.size
    by_cases hlt : m < l.length
    · obtain ⟨⟨x, y⟩, hx⟩ := getSome l m hlt
      obtain ⟨h0, h1, h2⟩ := goodAt_pair (isP_good Hp.out hlt) hx
      obtain ⟨a, rfl⟩ : ∃ a : Nat, x = a := ⟨x.toNat, by omega⟩
      obtain ⟨b, rfl⟩ : ∃ b : Nat, y = b := ⟨y.toNat, by omega⟩
      have kr : Below w.heap.size w wr := KW.out.trans (hb.mono (by omega))
      obtain ⟨bb, off, rfl, hbb, c0, c1⟩ := (hA.below kr (Nat.le_refl _)).pair hx
      have hmi : (m : Int) < (l.length : Int) := by omega
      have HT := Lib.hid hT
      have Hx := Lib.hid hx
      have HB := Lib.hid hb
      have HF := Lib.hid rowF
      clear hT hx hb
      go_upto_region 5 with fail
      obtain ⟨X, hX⟩ : ∃ X, wr.alloc (Obj.cells #[.int .i64 (a : Int), .int .i64 (b : Int)] 85) = X := ⟨_, rfl⟩
      rw [hX]
      have rowX : X.rowIs (w.heap.size + 2) 66 12 (fun j => .int .u16 (T j)) := by rw [← hX]; exact rowF.alloc _
      have zX : X.heap.size = wr.heap.size + 1 := by rw [← hX]; simp
      have x0 : X.cell? ⟨wr.heap.size, 0, none⟩ = some (.int .i64 a) := by rw [← hX]; simp
      have x1 : X.cell? ⟨wr.heap.size, 1, none⟩ = some (.int .i64 b) := by rw [← hX]; simp
      have kX : Below (w.heap.size + 2) W X := by rw [← hX]; exact HB.out.alloc (by omega) _
      clear hX c0 c1 rowF
      have r0 := rowX.cell (i := 0) (by omega)
      have r1 := rowX.cell (i := 1) (by omega)
      have r2 := rowX.cell (i := 2) (by omega)
      have r3 := rowX.cell (i := 3) (by omega)
      have r4 := rowX.cell (i := 4) (by omega)
      have r5 := rowX.cell (i := 5) (by omega)
      have r6 := rowX.cell (i := 6) (by omega)
      have r7 := rowX.cell (i := 7) (by omega)
      have r8 := rowX.cell (i := 8) (by omega)
      have r9 := rowX.cell (i := 9) (by omega)
      have r10 := rowX.cell (i := 10) (by omega)
      have r11 := rowX.cell (i := 11) (by omega)
      have call := tiesWith_any T a b (by omega) (by omega) HT.out.lt X
      unfold tcells at call
      have Call := Lib.hid call
      clear call
      go_wp2_with fail
      refine Call.out.mono ?_
      rintro e w2 ⟨rfl, hb2⟩
      have row2 := rowX.of_block (hb2.block _ rowX.lt)
      have s2 := hb2.size
      have hTw := HT.out.with (a := a) (b := b) (by omega) (by omega) (by omega)
      rw [← adj_snoc] at hTw
      have hTf2 : withT T a b = friendsT (l.take m ++ [((a : Int), (b : Int))]) := by rw [friendsT_snoc, HTf.out]
      generalize withT T a b = T' at *
      have HTf2 := Lib.hid hTf2
      clear hTf2
      have k2 : Below (w.heap.size + 2) W w2 := kX.trans (hb2.mono (by omega))
      clear r0 r1 r2 r3 r4 r5 r6 r7 r8 r9 r10 r11
      have r0 := row2.cell (i := 0) (by omega)
      have r1 := row2.cell (i := 1) (by omega)
      have r2 := row2.cell (i := 2) (by omega)
      have r3 := row2.cell (i := 3) (by omega)
      have r4 := row2.cell (i := 4) (by omega)
      have r5 := row2.cell (i := 5) (by omega)
      have r6 := row2.cell (i := 6) (by omega)
      have r7 := row2.cell (i := 7) (by omega)
      have r8 := row2.cell (i := 8) (by omega)
      have r9 := row2.cell (i := 9) (by omega)
      have r10 := row2.cell (i := 10) (by omega)
      have r11 := row2.cell (i := 11) (by omega)
      have e0 := row2.frozen 0
      have e1 := row2.frozen 1
      have e2 := row2.frozen 2
      have e3 := row2.frozen 3
      have e4 := row2.frozen 4
      have e5 := row2.frozen 5
      have e6 := row2.frozen 6
      have e7 := row2.frozen 7
      have e8 := row2.frozen 8
      have e9 := row2.frozen 9
      have e10 := row2.frozen 10
      have e11 := row2.frozen 11
      have row3 : ((((((((((((w2.setCell ⟨w.heap.size + 2, 0, none⟩ (.int .u16 (T' 0))).setCell ⟨w.heap.size + 2, 1, none⟩ (.int .u16 (T' 1))).setCell ⟨w.heap.size + 2, 2, none⟩ (.int .u16 (T' 2))).setCell ⟨w.heap.size + 2, 3, none⟩ (.int .u16 (T' 3))).setCell ⟨w.heap.size + 2, 4, none⟩ (.int .u16 (T' 4))).setCell ⟨w.heap.size + 2, 5, none⟩ (.int .u16 (T' 5))).setCell ⟨w.heap.size + 2, 6, none⟩ (.int .u16 (T' 6))).setCell ⟨w.heap.size + 2, 7, none⟩ (.int .u16 (T' 7))).setCell ⟨w.heap.size + 2, 8, none⟩ (.int .u16 (T' 8))).setCell ⟨w.heap.size + 2, 9, none⟩ (.int .u16 (T' 9))).setCell ⟨w.heap.size + 2, 10, none⟩ (.int .u16 (T' 10))).setCell ⟨w.heap.size + 2, 11, none⟩ (.int .u16 (T' 11))).rowIs (w.heap.size + 2) 66 12 (fun j => .int .u16 (T' j)) := ((((((((((((row2.set 0 (.int .u16 (T' 0))).set 1 (.int .u16 (T' 1))).set 2 (.int .u16 (T' 2))).set 3 (.int .u16 (T' 3))).set 4 (.int .u16 (T' 4))).set 5 (.int .u16 (T' 5))).set 6 (.int .u16 (T' 6))).set 7 (.int .u16 (T' 7))).set 8 (.int .u16 (T' 8))).set 9 (.int .u16 (T' 9))).set 10 (.int .u16 (T' 10))).set 11 (.int .u16 (T' 11))).congr fun j hj => by
        match j, hj with
        | 0, _ => rfl
        | 1, _ => rfl
        | 2, _ => rfl
        | 3, _ => rfl
        | 4, _ => rfl
        | 5, _ => rfl
        | 6, _ => rfl
        | 7, _ => rfl
        | 8, _ => rfl
        | 9, _ => rfl
        | 10, _ => rfl
        | 11, _ => rfl
      have k3 := ((((((((((((k2.setCell (p := ⟨w.heap.size + 2, 0, none⟩) (Nat.le_refl _) (.int .u16 (T' 0))).setCell (p := ⟨w.heap.size + 2, 1, none⟩) (Nat.le_refl _) (.int .u16 (T' 1))).setCell (p := ⟨w.heap.size + 2, 2, none⟩) (Nat.le_refl _) (.int .u16 (T' 2))).setCell (p := ⟨w.heap.size + 2, 3, none⟩) (Nat.le_refl _) (.int .u16 (T' 3))).setCell (p := ⟨w.heap.size + 2, 4, none⟩) (Nat.le_refl _) (.int .u16 (T' 4))).setCell (p := ⟨w.heap.size + 2, 5, none⟩) (Nat.le_refl _) (.int .u16 (T' 5))).setCell (p := ⟨w.heap.size + 2, 6, none⟩) (Nat.le_refl _) (.int .u16 (T' 6))).setCell (p := ⟨w.heap.size + 2, 7, none⟩) (Nat.le_refl _) (.int .u16 (T' 7))).setCell (p := ⟨w.heap.size + 2, 8, none⟩) (Nat.le_refl _) (.int .u16 (T' 8))).setCell (p := ⟨w.heap.size + 2, 9, none⟩) (Nat.le_refl _) (.int .u16 (T' 9))).setCell (p := ⟨w.heap.size + 2, 10, none⟩) (Nat.le_refl _) (.int .u16 (T' 10))).setCell (p := ⟨w.heap.size + 2, 11, none⟩) (Nat.le_refl _) (.int .u16 (T' 11)))
      have ROW3 := Lib.hid row3
      have K3 := Lib.hid k3
      have HTw := Lib.hid hTw
      clear row2 row3 k3 hTw rowX k2 kX
      go_wp2
      go_roundw
      case rel => exact ⟨m + 1, T', by omega, by go_num, by rw [List.take_add_one, Hx.out, Option.toList_some]; exact HTw.out, by rw [List.take_add_one, Hx.out, Option.toList_some]; exact HTf2.out, ROW3.out, K3.out⟩
      case measure => simp [intOf]; omega
    · have hml : m = l.length := by omega
      subst hml
      have hge : ¬ ((l.length : Int) < (l.length : Int)) := by omega
      rw [List.take_length] at hT
      have HT := Lib.hid hT
      have rowR := RR.out.of_block (hb.block _ (by omega))
      have kr : Below w.heap.size w wr := KW.out.trans (hb.mono (by omega))
      clear hT hb
      have r0 := rowF.cell (i := 0) (by omega)
      have r1 := rowF.cell (i := 1) (by omega)
      have r2 := rowF.cell (i := 2) (by omega)
      have r3 := rowF.cell (i := 3) (by omega)
      have r4 := rowF.cell (i := 4) (by omega)
      have r5 := rowF.cell (i := 5) (by omega)
      have r6 := rowF.cell (i := 6) (by omega)
      have r7 := rowF.cell (i := 7) (by omega)
      have r8 := rowF.cell (i := 8) (by omega)
      have r9 := rowF.cell (i := 9) (by omega)
      have r10 := rowF.cell (i := 10) (by omega)
      have r11 := rowF.cell (i := 11) (by omega)
      have g0 := rowR.cell (i := 0) (by omega)
      have g1 := rowR.cell (i := 1) (by omega)
      have g2 := rowR.cell (i := 2) (by omega)
      have g3 := rowR.cell (i := 3) (by omega)
      have g4 := rowR.cell (i := 4) (by omega)
      have g5 := rowR.cell (i := 5) (by omega)
      have g6 := rowR.cell (i := 6) (by omega)
      have g7 := rowR.cell (i := 7) (by omega)
      have g8 := rowR.cell (i := 8) (by omega)
      have g9 := rowR.cell (i := 9) (by omega)
      have g10 := rowR.cell (i := 10) (by omega)
      have g11 := rowR.cell (i := 11) (by omega)
      have e0 := rowR.frozen 0
      have e1 := rowR.frozen 1
      have e2 := rowR.frozen 2
      have e3 := rowR.frozen 3
      have e4 := rowR.frozen 4
      have e5 := rowR.frozen 5
      have e6 := rowR.frozen 6
      have e7 := rowR.frozen 7
      have e8 := rowR.frozen 8
      have e9 := rowR.frozen 9
      have e10 := rowR.frozen 10
      have e11 := rowR.frozen 11
      have KR := Lib.hid kr
      clear rowF rowR kr
      go_wp2
      refine bodyPost_ret (v := .agg #[.int .u16 (T 0), .int .u16 (T 1), .int .u16 (T 2), .int .u16 (T 3), .int .u16 (T 4), .int .u16 (T 5), .int .u16 (T 6), .int .u16 (T 7), .int .u16 (T 8), .int .u16 (T 9), .int .u16 (T 10), .int .u16 (T 11)]) (by simp [results, Tryd.results44, go_sem, g0, g1, g2, g3, g4, g5, g6, g7, g8, g9, g10, g11]) rfl ?_
      have hfin := HTf.out
      rw [List.take_length] at hfin
      rw [← hfin]
      exact ⟨rfl, HT.out, ((((((((((((KR.out.setCell (p := ⟨w.heap.size + 1, 0, none⟩) (by simp) _).setCell (p := ⟨w.heap.size + 1, 1, none⟩) (by simp) _).setCell (p := ⟨w.heap.size + 1, 2, none⟩) (by simp) _).setCell (p := ⟨w.heap.size + 1, 3, none⟩) (by simp) _).setCell (p := ⟨w.heap.size + 1, 4, none⟩) (by simp) _).setCell (p := ⟨w.heap.size + 1, 5, none⟩) (by simp) _).setCell (p := ⟨w.heap.size + 1, 6, none⟩) (by simp) _).setCell (p := ⟨w.heap.size + 1, 7, none⟩) (by simp) _).setCell (p := ⟨w.heap.size + 1, 8, none⟩) (by simp) _).setCell (p := ⟨w.heap.size + 1, 9, none⟩) (by simp) _).setCell (p := ⟨w.heap.size + 1, 10, none⟩) (by simp) _).setCell (p := ⟨w.heap.size + 1, 11, none⟩) (by simp) _)⟩
end Go.Proofs.YthpapkfpcijpoaaDoor
/-
  WHETHER A NUMBER IS IN A LIST: the model's look; a list's front.
-/
namespace Go.Proofs.YthpapkfpcijpoaaDoor
open Go.RowKit

theorem icells_getD {l : List Int} {j : Nat} (h : j < l.length) : (icells l)[j]? = some (.int .i64 (l.getD j 0)) := by
  simp [icells, List.getD_eq_getElem?_getD, List.getElem?_eq_getElem h]
theorem CRead.ints {w : World} {B : Nat} {A : Option Addr} {q : List Int} (h : CRead w B A (icells q)) (hq : 0 < q.length) : ∃ b off, A = some ⟨b, off, none⟩ ∧ b < B ∧ ∀ j, j < q.length → w.cell? ⟨b, off + j, none⟩ = some (.int .i64 (q.getD j 0)) := by
  obtain ⟨b, off, rfl, hb, _⟩ := h 0 _ (icells_getD hq)
  refine ⟨b, off, rfl, hb, fun j hj => ?_⟩
  obtain ⟨b', off', e, _, hc⟩ := h j _ (icells_getD hj)
  simp only [Option.some.injEq, Addr.mk.injEq, and_true] at e
  obtain ⟨rfl, rfl⟩ := e
  exact hc

theorem CRead.front {w : World} {B : Nat} {A : Option Addr} {q : List Int} (h : CRead w B A (icells q)) (k : Nat) : CRead w B A (icells (q.take k)) := fun j u hu => by
  refine h j u ?_
  unfold icells at hu ⊢
  rw [List.map_take, List.getElem?_take] at hu
  split at hu
  · exact hu
  · cases hu


/-- whether a number is in a list -/
def hasI (q : List Int) (x : Int) : Bool := q.contains x
theorem hasI_mem {q : List Int} {x : Int} : hasI q x = true ↔ x ∈ q := List.contains_iff_mem
end Go.Proofs.YthpapkfpcijpoaaDoor
/-
  'spec.l1Own': a copy of a list of numbers, by its contract.
-/
namespace Go.Proofs.YthpapkfpcijpoaaDoor
open Go.RowKit

end Go.Proofs.YthpapkfpcijpoaaDoor
/-
  LISTS OF NUMBERS UNDER ONE SLICE, each row in a block of the call's own; 'spec.l1Own' of any list; 'spec.trGroups' as a plain list.
-/
namespace Go.Proofs.YthpapkfpcijpoaaDoor
open Go.RowKit

structure LRows (w : World) (B : Nat) (v : Value) (LL : List (List Int)) (hs : List Value) : Prop where
  own : w.ownsRow B 26 1 v LL.length hs
  row : ∀ (i : Nat) (l : List Int), LL[i]? = some l → ∃ A c, hs[i]? = some (Value.slice A l.length c) ∧ w.ownsRow B 3 1 (Value.slice A l.length c) l.length (icells l)
  nil : LL = [] → v = Value.slice none 0 0
section
variable {w w' : World} {B B' : Nat} {v v' v2 : Value} {LL L2 : List (List Int)} {hs hs2 : List Value}
theorem LRows.none (w : World) (B : Nat) : LRows w B (Value.slice Option.none 0 0) [] [] := ⟨World.ownsRow_nil _ _ _ _, fun i l h => by simp at h, fun _ => rfl⟩
theorem LRows.below (h : LRows w B v LL hs) (hb : Below w.heap.size w w') : LRows w' B v LL hs :=
  ⟨own_below h.own hb (Nat.le_refl _), fun i l hi => by obtain ⟨A, c, e, o⟩ := h.row i l hi; exact ⟨A, c, e, own_below o hb (Nat.le_refl _)⟩, h.nil⟩
theorem LRows.lower (h : LRows w B v LL hs) (hB : B' ≤ B) : LRows w B' v LL hs :=
  ⟨own_lower h.own hB, fun i l hi => by obtain ⟨A, c, e, o⟩ := h.row i l hi; exact ⟨A, c, e, own_lower o hB⟩, h.nil⟩
theorem LRows.length (h : LRows w B v LL hs) : hs.length = LL.length := by have := h.own.1; omega
theorem LRows.one (h : LRows w B v LL hs) : ∀ u ∈ hs, u.oneCell' = true := by
  intro u hu
  obtain ⟨i, hi, rfl⟩ := List.getElem_of_mem hu
  have hl := h.length
  obtain ⟨A, c, e, _⟩ := h.row i LL[i] (List.getElem?_eq_getElem (by omega))
  rw [List.getElem?_eq_getElem hi] at e
  simp only [Option.some.injEq] at e
  rw [e]
  rfl
theorem blocks_apart {e e' : TypeId} {size size' n m : Nat} {xs ys : List Value} (h : w.ownsRow B e size v n xs) (h' : w.ownsRow B' e' size' v' m ys) (hne : e ≠ e') : v'.ownBlock = .none ∨ v'.ownBlock ≠ v.ownBlock := by
  rcases h'.2 with ⟨rfl, _⟩ | ⟨g, cap, cur, rfl, _, hg, _⟩
  · exact .inl rfl
  · refine .inr fun e => ?_
    rcases h.2 with ⟨rfl, _⟩ | ⟨g2, cap2, cur2, rfl, _, hg2, _⟩
    · simp [Value.ownBlock] at e
    · have : g = g2 := by simpa [Value.ownBlock] using e
      subst this
      rw [hg] at hg2
      simp only [Option.some.injEq, Obj.cells.injEq] at hg2
      exact hne hg2.2.1.symm
/-- rows appended to rows -/
theorem LRows.append (h : LRows w B v LL hs) (h2 : LRows w B v2 L2 hs2) (hown : w'.ownsRow B 26 1 v' (LL.length + L2.length) (hs ++ hs2)) (hg : w.grownBy w' v.ownBlock) (hn : L2 ≠ []) : LRows w' B v' (LL ++ L2) (hs ++ hs2) := by
  have keep : ∀ A c l, w.ownsRow B 3 1 (.slice A l.length c) l.length (icells l) → w'.ownsRow B 3 1 (.slice A l.length c) l.length (icells l) := fun A c l o => o.kept hg (blocks_apart h.own o (show (26 : TypeId) ≠ 3 by decide))
  refine ⟨by rw [List.length_append]; exact hown, fun i l hi => ?_, fun e => ?_⟩
  · have hl := h.length
    by_cases hlt : i < LL.length
    · rw [List.getElem?_append_left hlt] at hi
      obtain ⟨A, c, e, o⟩ := h.row i l hi
      exact ⟨A, c, by rw [List.getElem?_append_left (by omega)]; exact e, keep A c l o⟩
    · rw [List.getElem?_append_right (by omega)] at hi
      obtain ⟨A, c, e, o⟩ := h2.row _ l hi
      exact ⟨A, c, by rw [List.getElem?_append_right (by omega), hl]; exact e, keep A c l o⟩
  · simp at e
    exact absurd e.2 hn
end
/-- A call came back with lists of numbers. -/
def GotLL (w : World) (LL : List (List Int)) (e : Ending) (w' : World) : Prop := ∃ A c hs, e = .returned (.slice A LL.length c) ∧ LRows w' w.heap.size (.slice A LL.length c) LL hs ∧ Below w.heap.size w w'


/-! ## The model's candidates -/
def fromQ (q : List Int) : Nat := match q.getLast? with | none => 0 | some x => x.toNat + 1
def candR (t : Nat → Nat → Bool) (n : Nat) (q : List Int) (a : Nat) : List Nat := (List.range' a (n - a)).filter fun b => q.all fun y => t b y.toNat
theorem candR_end (t : Nat → Nat → Bool) (n : Nat) (q : List Int) {a : Nat} (h : n ≤ a) : candR t n q a = [] := by unfold candR; rw [Nat.sub_eq_zero_of_le h]; rfl
theorem candR_no {t : Nat → Nat → Bool} {n : Nat} {q : List Int} {a : Nat} (h : a < n) (hk : (q.all fun y => t a y.toNat) = false) : candR t n q a = candR t n q (a + 1) := by
  unfold candR
  rw [show n - a = (n - (a + 1)) + 1 from by omega, List.range'_succ, List.filter_cons_of_neg (by simp [hk])]
theorem candR_yes {t : Nat → Nat → Bool} {n : Nat} {q : List Int} {a : Nat} (h : a < n) (hk : (q.all fun y => t a y.toNat) = true) : candR t n q a = a :: candR t n q (a + 1) := by
  unfold candR
  rw [show n - a = (n - (a + 1)) + 1 from by omega, List.range'_succ, List.filter_cons_of_pos (by simpa using hk)]
theorem candR_tied {t : Nat → Nat → Bool} (hs : ∀ i j, t i j = t j i) (n : Nat) (q : List Int) (a : Nat) : (candR t n q (a + 1)).filter (t a) = candR t n (q ++ [(a : Int)]) (fromQ (q ++ [(a : Int)])) := by
  unfold candR fromQ
  simp only [List.getLast?_append, List.getLast?_singleton, Option.some_or, Int.toNat_natCast]
  rw [List.filter_filter]
  refine List.filter_congr fun b _ => ?_
  rw [List.all_append]
  simp [hs a b, Bool.and_comm]
end Go.Proofs.YthpapkfpcijpoaaDoor
/-
  PEOPLE CHOSEN AND RENAMED, as plain lists and as tables. Nothing here speaks of the program.
-/
namespace Go.Proofs.YthpapkfpcijpoaaDoor
open Go.RowKit

def choiceAt (p : Int) (q : List Int) (i : Nat) : Bool :=
  match q[i]? with
  | none => true
  | some x => decide (0 ≤ x ∧ x < p) && (i == 0 || match q[i - 1]? with | none => true | some y => decide (y < x))
/-- an increasing list of some of p people -/
def isChoiceI (p : Int) (q : List Int) : Bool := (List.range q.length).all (choiceAt p q)
theorem isChoiceI_of {p : Int} {q : List Int} (h : ∀ i, i < q.length → choiceAt p q i = true) : isChoiceI p q = true := by
  simp only [isChoiceI, List.all_eq_true, List.mem_range]
  exact h
theorem isChoiceI_no {p : Int} {q : List Int} {i : Nat} (hi : i < q.length) (h : choiceAt p q i = false) : isChoiceI p q = false := by
  cases he : isChoiceI p q with
  | false => rfl
  | true =>
    simp only [isChoiceI, List.all_eq_true, List.mem_range] at he
    rw [he i hi] at h
    cases h
theorem isChoiceI_good {p : Int} {q : List Int} (h : isChoiceI p q = true) {i : Nat} (hi : i < q.length) : choiceAt p q i = true := by
  simp only [isChoiceI, List.all_eq_true, List.mem_range] at h
  exact h i hi
theorem choiceAt_man {p : Int} {q : List Int} {i : Nat} {x : Int} (h : choiceAt p q i = true) (hx : q[i]? = some x) : 0 ≤ x ∧ x < p := by
  simp only [choiceAt, hx, Bool.and_eq_true, decide_eq_true_eq] at h
  exact h.1
theorem choiceAt_less {p : Int} {q : List Int} {i : Nat} {x y : Int} (h : choiceAt p q (i + 1) = true) (hx : q[i]? = some x) (hy : q[i + 1]? = some y) : x < y := by
  simp only [choiceAt, hy, Nat.add_sub_cancel, hx, Bool.and_eq_true, Bool.or_eq_true, decide_eq_true_eq] at h
  rcases h.2 with h | h
  · simp at h
  · exact h
theorem choiceAt_zero {p : Int} {q : List Int} {k : Nat} {x : Int} (hk : k = 0) (hx : q[k]? = some x) (h : 0 ≤ x ∧ x < p) : choiceAt p q k = true := by
  subst hk
  simp [choiceAt, hx, h.1, h.2]
theorem choiceAt_later {p : Int} {q : List Int} {k : Nat} {x y : Int} (_hk : 0 < k) (hx : q[k - 1]? = some x) (hy : q[k]? = some y) (h : 0 ≤ y ∧ y < p) (hl : x < y) : choiceAt p q k = true := by
  simp [choiceAt, hx, hy, h.1, h.2, hl]
theorem choiceAt_bad {p : Int} {q : List Int} {k : Nat} {x : Int} (hx : q[k]? = some x) (h : ¬ (0 ≤ x ∧ x < p)) : choiceAt p q k = false := by
  simp only [choiceAt, hx, Bool.and_eq_false_iff, decide_eq_false_iff_not]
  exact .inl h
theorem choiceAt_stale {p : Int} {q : List Int} {k : Nat} {x y : Int} (hk : 0 < k) (hx : q[k - 1]? = some x) (hy : q[k]? = some y) (hl : ¬ x < y) : choiceAt p q k = false := by
  cases h : choiceAt p q k with
  | false => rfl
  | true =>
    obtain ⟨j, rfl⟩ : ∃ j, k = j + 1 := ⟨k - 1, by omega⟩
    exact absurd (choiceAt_less h hx hy) hl
theorem isChoiceI_sorted {p : Int} {q : List Int} (h : isChoiceI p q = true) : q.Pairwise (· < ·) := by
  rw [List.pairwise_iff_getElem]
  have step : ∀ (d i : Nat) (hi : i < q.length) (hj : i + d + 1 < q.length), q[i] < q[i + d + 1] := by
    intro d
    induction d with
    | zero => intro i hi hj; exact choiceAt_less (isChoiceI_good h hj) (List.getElem?_eq_getElem (by omega)) (List.getElem?_eq_getElem hj)
    | succ d ih =>
      intro i hi hj
      have h1 := ih i hi (by omega)
      have h2 := choiceAt_less (p := p) (q := q) (i := i + d + 1) (isChoiceI_good h (by omega)) (List.getElem?_eq_getElem (by omega)) (List.getElem?_eq_getElem (by omega))
      exact Int.lt_trans h1 h2
  intro i j hi hj hij
  have e : j = i + (j - i - 1) + 1 := by omega
  have := step (j - i - 1) i hi (by omega)
  simpa only [← e] using this
theorem isChoiceI_mem {p : Int} {q : List Int} (h : isChoiceI p q = true) : ∀ x ∈ q, 0 ≤ x ∧ x < p := by
  intro x hx
  obtain ⟨i, hi, rfl⟩ := List.getElem_of_mem hx
  exact choiceAt_man (isChoiceI_good h hi) (List.getElem?_eq_getElem hi)
theorem isChoiceI_long {p : Int} {q : List Int} (h : isChoiceI p q = true) : (q.length : Int) ≤ p ∨ q = [] := by
  have hs := isChoiceI_sorted h
  have low : ∀ (i : Nat) (x : Int), q[i]? = some x → (i : Int) ≤ x := by
    intro i
    induction i with
    | zero => intro x hx; exact (isChoiceI_mem h x (List.mem_of_getElem? hx)).1
    | succ i ih =>
      intro x hx
      have hl : i + 1 < q.length := (List.getElem?_eq_some_iff.1 hx).1
      obtain ⟨y, hy⟩ := getSome q i (by omega)
      have h1 := ih y hy
      have h2 := choiceAt_less (isChoiceI_good h hl) hy hx
      omega
  by_cases hl : q.length = 0
  · exact .inr (List.eq_nil_of_length_eq_zero hl)
  · obtain ⟨x, hx⟩ := getSome q (q.length - 1) (by omega)
    have h1 := low _ _ hx
    have h2 := (isChoiceI_mem h x (List.mem_of_getElem? hx)).2
    left
    omega

theorem countP_at : ∀ (q : List Int), q.Pairwise (· < ·) → ∀ (i : Nat) (x : Int), q[i]? = some x → q.countP (fun y => decide (y < x)) = i
  | [], _, i, x, h => by simp at h
  | a :: q, hs, 0, x, h => by
    simp only [List.getElem?_cons_zero, Option.some.injEq] at h
    subst h
    rw [List.pairwise_cons] at hs
    rw [List.countP_eq_zero]
    intro b hb
    rcases List.mem_cons.1 hb with rfl | hb
    · simp
    · have := hs.1 b hb
      simp only [decide_eq_true_eq]
      omega
  | a :: q, hs, i + 1, x, h => by
    rw [List.pairwise_cons] at hs
    have hx : q[i]? = some x := by simpa using h
    have := hs.1 x (List.mem_of_getElem? hx)
    rw [List.countP_cons_of_pos (by simpa using this), countP_at q hs.2 i x hx]

/-- how many of a list are less -/
def ltI (q : List Int) (x : Int) : Int := ((q.countP (· < x) : Nat) : Int)
theorem ltI_at {q : List Int} (hs : q.Pairwise (· < ·)) {i : Nat} {x : Int} (hx : q[i]? = some x) : ltI q x = i := by
  unfold ltI
  rw [countP_at q hs i x hx]
theorem ltI_mem {q : List Int} (hs : q.Pairwise (· < ·)) {x : Int} (hx : x ∈ q) : ∃ i : Nat, ltI q x = i ∧ q[i]? = some x := by
  obtain ⟨i, hi, rfl⟩ := List.getElem_of_mem hx
  exact ⟨i, ltI_at hs (List.getElem?_eq_getElem hi), List.getElem?_eq_getElem hi⟩
theorem ltI_le (q : List Int) (x : Int) : 0 ≤ ltI q x ∧ ltI q x ≤ q.length := by
  unfold ltI
  have := List.countP_le_length (p := fun y => decide (y < x)) (l := q)
  omega
/-- the pairs of the people chosen -/
def chooseP (l : PL) (q : List Int) : PL := l.filterMap fun r => if q.contains r.1 = true ∧ q.contains r.2 = true then some (ltI q r.1, ltI q r.2) else none
theorem chooseP_snoc (l : PL) (q : List Int) (x y : Int) : chooseP (l ++ [(x, y)]) q = chooseP l q ++ if q.contains x = true ∧ q.contains y = true then [(ltI q x, ltI q y)] else [] := by
  unfold chooseP
  rw [List.filterMap_append]
  congr 1
  by_cases h : q.contains x = true ∧ q.contains y = true
  · rw [if_pos h, List.filterMap_cons_some (by rw [if_pos h]), List.filterMap_nil]
  · rw [if_neg h, List.filterMap_cons_none (by rw [if_neg h]), List.filterMap_nil]
theorem chooseP_le (l : PL) (q : List Int) : (chooseP l q).length ≤ l.length := List.length_filterMap_le _ _
def gI (q : List Int) (i : Nat) : Nat := (q.getD i 0).toNat
def chosenT (l : PL) (q : List Int) (i j : Nat) : Bool := adj l (gI q i) (gI q j)
theorem gI_at {q : List Int} {i : Nat} {x : Int} (hx : q[i]? = some x) (h0 : 0 ≤ x) : ((gI q i : Nat) : Int) = x := by
  unfold gI
  rw [List.getD_eq_getElem?_getD, hx]
  simp only [Option.getD_some]
  omega
theorem mem_chooseP {l : PL} {q : List Int} {r : Int × Int} : r ∈ chooseP l q ↔ ∃ s ∈ l, s.1 ∈ q ∧ s.2 ∈ q ∧ r = (ltI q s.1, ltI q s.2) := by
  unfold chooseP
  rw [List.mem_filterMap]
  constructor
  · rintro ⟨s, hs, h⟩
    split at h
    · rename_i hc
      rw [List.contains_iff_mem, List.contains_iff_mem] at hc
      exact ⟨s, hs, hc.1, hc.2, by simpa using h.symm⟩
    · cases h
  · rintro ⟨s, hs, h1, h2, rfl⟩
    refine ⟨s, hs, ?_⟩
    rw [if_pos (by rw [List.contains_iff_mem, List.contains_iff_mem]; exact ⟨h1, h2⟩)]
theorem chooseP_list {p : Int} {l : PL} {q : List Int} (hp : isP p l = true) (hq : isChoiceI p q = true) : IsList q.length (chooseP l q) := by
  have hr := isP_range hp
  obtain ⟨_, _, hm, hs⟩ := isP_list hp
  have hqs := isChoiceI_sorted hq
  have hmono : ∀ x y, x ∈ q → y ∈ q → x < y → ltI q x < ltI q y := by
    intro x y hx hy hxy
    obtain ⟨i, ei, hi⟩ := ltI_mem hqs hx
    obtain ⟨j, ej, hj⟩ := ltI_mem hqs hy
    rw [ei, ej]
    have hil : i < q.length := (List.getElem?_eq_some_iff.1 hi).1
    have hjl : j < q.length := (List.getElem?_eq_some_iff.1 hj).1
    have e1 : q[i] = x := by rw [List.getElem?_eq_getElem hil] at hi; simpa using hi
    have e2 : q[j] = y := by rw [List.getElem?_eq_getElem hjl] at hj; simpa using hj
    rcases Nat.lt_trichotomy i j with h | h | h
    · omega
    · subst h; omega
    · have := (List.pairwise_iff_getElem.1 hqs) j i hjl hil h
      omega
  have hlen : (q.length : Int) ≤ 12 := by
    rcases isChoiceI_long hq with h | h
    · omega
    · simp [h]
  refine ⟨by omega, hlen, fun r hr => ?_, ?_⟩
  · obtain ⟨s, hsl, h1, h2, rfl⟩ := mem_chooseP.1 hr
    have h3 := hmono _ _ h1 h2 (hm s hsl).2.1
    obtain ⟨j, ej, hj⟩ := ltI_mem hqs h2
    have hjl : j < q.length := (List.getElem?_eq_some_iff.1 hj).1
    have := ltI_le q s.1
    simp only
    omega
  · unfold chooseP
    rw [List.pairwise_filterMap]
    refine List.Pairwise.imp (fun {a b} hlt u hu v hv => ?_) hs
    split at hu
    · split at hv
      · rename_i h1 h2
        rw [List.contains_iff_mem, List.contains_iff_mem] at h1 h2
        simp only [Option.some.injEq] at hu hv
        subst hu
        subst hv
        unfold plt at hlt ⊢
        rcases hlt with hlt | ⟨e, hlt⟩
        · exact .inl (hmono _ _ h1.1 h2.1 hlt)
        · exact .inr ⟨by simp only; rw [e], hmono _ _ h1.2 h2.2 hlt⟩
      · cases hv
    · cases hu
theorem tabP_choose {p : Int} {l : PL} {q : List Int} (hp : isP p l = true) (hq : isChoiceI p q = true) : tabP q.length (chosenT l q) = chooseP l q := by
  have hc := chooseP_list hp hq
  have hqs := isChoiceI_sorted hq
  obtain ⟨_, _, hm, hs⟩ := isP_list hp
  have hlen : q.length ≤ 12 := by have := hc.2.1; omega
  refine sorted_ext (filter_list hlen _).2.2.2 hc.2.2.2 fun r => ?_
  unfold tabP
  rw [List.mem_filter, mem_allP, mem_chooseP]
  constructor
  · rintro ⟨⟨h0, h1, h2⟩, ht⟩
    obtain ⟨x, hx⟩ := getSome q r.1.toNat (by omega)
    obtain ⟨y, hy⟩ := getSome q r.2.toNat (by omega)
    have hx0 := isChoiceI_mem hq x (List.mem_of_getElem? hx)
    have hy0 := isChoiceI_mem hq y (List.mem_of_getElem? hy)
    have ex := gI_at hx hx0.1
    have ey := gI_at hy hy0.1
    have hxy : x < y := by
      have hil : r.1.toNat < q.length := (List.getElem?_eq_some_iff.1 hx).1
      have hjl : r.2.toNat < q.length := (List.getElem?_eq_some_iff.1 hy).1
      have := (List.pairwise_iff_getElem.1 hqs) _ _ hil hjl (by omega)
      rw [List.getElem?_eq_getElem hil] at hx
      rw [List.getElem?_eq_getElem hjl] at hy
      simp only [Option.some.injEq] at hx hy
      rwa [hx, hy] at this
    have hmem : (x, y) ∈ l := by
      unfold chosenT adj at ht
      rw [ex, ey, Bool.or_eq_true, List.contains_iff_mem, List.contains_iff_mem] at ht
      rcases ht with ht | ht
      · exact ht
      · have := hm _ ht
        simp only at this
        omega
    refine ⟨(x, y), hmem, List.mem_of_getElem? hx, List.mem_of_getElem? hy, ?_⟩
    rw [ltI_at hqs hx, ltI_at hqs hy]
    exact Prod.ext (by simp; omega) (by simp; omega)
  · rintro ⟨s, hsl, h1, h2, rfl⟩
    have hin := hc.2.2.1 _ (mem_chooseP.2 ⟨s, hsl, h1, h2, rfl⟩)
    refine ⟨hin, ?_⟩
    obtain ⟨i, ei, hi⟩ := ltI_mem hqs h1
    obtain ⟨j, ej, hj⟩ := ltI_mem hqs h2
    have hs0 := hm s hsl
    simp only [ei, ej, Int.toNat_natCast]
    unfold chosenT adj
    rw [gI_at hi (by omega), gI_at hj (by omega), Bool.or_eq_true, List.contains_iff_mem]
    left
    exact hsl
end Go.Proofs.YthpapkfpcijpoaaDoor
/-
  WAYS TO CHOOSE: the program's 'waysToChoose' and the model's 'trChoose', by their contracts; 'GroupBound', 'LeastMustHave', 'LeastOneKind'.
-/
namespace Go.Proofs.YthpapkfpcijpoaaDoor
open Go.RowKit

/-- the product of the first steps, as the program takes them -/
def waysI (n : Int) : Nat → Int
  | 0 => 1
  | i + 1 => (waysI n i * (n - i)).tdiv (i + 1)
/-- as the model takes them -/
def stepsI (n k : Int) : Nat → Int
  | 0 => 1
  | i + 1 => (stepsI n k i * (n - k + (i + 1))).tdiv (i + 1)
def InWays (n : Int) (k : Nat) : Prop := (0 ≤ n ∧ n ≤ 12 ∧ k ≤ 12) ∨ (0 ≤ n ∧ n ≤ 132 ∧ k ≤ 2)
theorem waysI_all : (∀ n : Fin 13, ∀ k : Fin 13, 0 ≤ waysI (n.val : Int) k.val ∧ waysI (n.val : Int) k.val ≤ 10000) ∧ (∀ n : Fin 133, ∀ k : Fin 3, 0 ≤ waysI (n.val : Int) k.val ∧ waysI (n.val : Int) k.val ≤ 10000) := by
  constructor <;> decide +kernel
theorem waysI_bound {n : Int} {k : Nat} (h : InWays n k) : 0 ≤ waysI n k ∧ waysI n k ≤ 10000 := by
  rcases h with ⟨h0, h1, h2⟩ | ⟨h0, h1, h2⟩
  · have := waysI_all.1 ⟨n.toNat, by omega⟩ ⟨k, by omega⟩
    rwa [show ((n.toNat : Nat) : Int) = n from by omega] at this
  · have := waysI_all.2 ⟨n.toNat, by omega⟩ ⟨k, by omega⟩
    rwa [show ((n.toNat : Nat) : Int) = n from by omega] at this
theorem InWays.less {n : Int} {k i : Nat} (h : InWays n k) (hi : i ≤ k) : InWays n i := by unfold InWays at *; omega
theorem stepsI_all : (∀ n : Fin 13, ∀ k : Fin 13, k.val ≤ n.val → ∀ i : Fin 13, i.val ≤ k.val → 0 ≤ stepsI (n.val : Int) (k.val : Int) i.val ∧ stepsI (n.val : Int) (k.val : Int) i.val ≤ 10000) ∧ (∀ n : Fin 133, ∀ k : Fin 3, k.val ≤ n.val → ∀ i : Fin 3, i.val ≤ k.val → 0 ≤ stepsI (n.val : Int) (k.val : Int) i.val ∧ stepsI (n.val : Int) (k.val : Int) i.val ≤ 10000) := by
  constructor <;> decide +kernel
theorem stepsI_bound {n : Int} {k i : Nat} (h : InWays n k) (hk : (k : Int) ≤ n) (hi : i ≤ k) : 0 ≤ stepsI n k i ∧ stepsI n k i ≤ 10000 := by
  rcases h with ⟨h0, h1, h2⟩ | ⟨h0, h1, h2⟩
  · have := stepsI_all.1 ⟨n.toNat, by omega⟩ ⟨k, by omega⟩ (by show k ≤ n.toNat; omega) ⟨i, by omega⟩ hi
    rwa [show ((n.toNat : Nat) : Int) = n from by omega] at this
  · have := stepsI_all.2 ⟨n.toNat, by omega⟩ ⟨k, by omega⟩ (by show k ≤ n.toNat; omega) ⟨i, by omega⟩ hi
    rwa [show ((n.toNat : Nat) : Int) = n from by omega] at this
theorem ways_steps_all : (∀ n : Fin 13, ∀ k : Fin 13, waysI (n.val : Int) k.val = if k.val > n.val then 0 else stepsI (n.val : Int) (k.val : Int) k.val) ∧ (∀ n : Fin 133, ∀ k : Fin 3, waysI (n.val : Int) k.val = if k.val > n.val then 0 else stepsI (n.val : Int) (k.val : Int) k.val) := by
  constructor <;> decide +kernel
theorem ways_steps {n : Int} {k : Nat} (h : InWays n k) : waysI n k = if (k : Int) > n then 0 else stepsI n k k := by
  rcases h with ⟨h0, h1, h2⟩ | ⟨h0, h1, h2⟩
  · have := ways_steps_all.1 ⟨n.toNat, by omega⟩ ⟨k, by omega⟩
    rw [show ((n.toNat : Nat) : Int) = n from by omega] at this
    rw [this]
    by_cases hk : k > n.toNat
    · rw [if_pos hk, if_pos (by omega)]
    · rw [if_neg hk, if_neg (by omega)]
  · have := ways_steps_all.2 ⟨n.toNat, by omega⟩ ⟨k, by omega⟩
    rw [show ((n.toNat : Nat) : Int) = n from by omega] at this
    rw [this]
    by_cases hk : k > n.toNat
    · rw [if_pos hk, if_pos (by omega)]
    · rw [if_neg hk, if_neg (by omega)]
/-- what a step's product is within -/
theorem mul_within {a b : Int} (ha : 0 ≤ a ∧ a ≤ 10000) (hb : -200 ≤ b ∧ b ≤ 200) : -2000000 ≤ a * b ∧ a * b ≤ 2000000 := by
  constructor
  · have h1 : a * (-200) ≤ a * b := Int.mul_le_mul_of_nonneg_left hb.1 ha.1
    omega
  · have h1 : a * b ≤ a * 200 := Int.mul_le_mul_of_nonneg_left hb.2 ha.1
    omega
theorem wrap_small {x : Int} (h : -9223372036854775808 ≤ x ∧ x ≤ 9223372036854775807) : IntKind.i64.wrap x = x := by simp [IntKind.wrap, IntKind.bits, IntKind.signed]; omega

set_option maxHeartbeats 1000000 in
set_option maxRecDepth 100000 in
theorem waysToChoose_any (n : Int) (k : Nat) (w : World) (h : InWays n k) :
    Calls Tryd.prog 103 #[.int .i64 n, .int .i64 k] w fun e w' => e = .returned (.int .i64 (waysI n k)) ∧ w = w' := by
  have hk12 : k ≤ 12 := by unfold InWays at h; omega
  have hn0 : 0 ≤ n ∧ n ≤ 132 := by unfold InWays at h; omega
  obtain ⟨hn0, hn1⟩ := hn0
  have H := Lib.hid h
  clear h
  go_enter Tryd.func103, Tryd.ntmps103
  go_wp2
  go_loop [5, 8] (fun v i => ∃ (j : Nat) (u : Int), j ≤ k ∧ i = .int .i64 j ∧ v = .int .i64 u ∧ u = waysI n j) (fun _ i => k - (intOf i).toNat)
  case atStart => exact ⟨0, 1, Nat.zero_le _, rfl, rfl, rfl⟩
  case round =>
    obtain ⟨j, u, hj, rfl, rfl, hu⟩ := hrel
    have hub := waysI_bound (H.out.less hj)
    rw [← hu] at hub
    obtain ⟨hu0, hu1⟩ := hub
    have Hu := Lib.hid hu
    by_cases hlt : j < k
    · have hnx := waysI_bound (H.out.less hlt)
      have e : waysI n (j + 1) = (u * (n - j)).tdiv ((j : Int) + 1) := by rw [hu]; rfl
      rw [e] at hnx
      have He := Lib.hid e
      obtain ⟨hm0, hm1⟩ := mul_within (a := u) (b := n - j) ⟨hu0, hu1⟩ (by omega)
      have hw1 : IntKind.i64.wrap (u * (n - j)) = u * (n - j) := wrap_small (by omega)
      have hw2 : IntKind.i64.wrap ((u * (n - j)).tdiv ((j : Int) + 1)) = (u * (n - j)).tdiv ((j : Int) + 1) := wrap_small (by omega)
      have hji : (j : Int) < (k : Int) := by omega
      have hj1 : ¬ ((j : Int) + 1 = 0) := by omega
      clear hu e hnx
      go_wp2
      go_round
      case rel => exact ⟨j + 1, _, by omega, by go_num, rfl, He.out.symm⟩
      case measure => simp [intOf]; omega
    · have hjk : j = k := by omega
      have hge : ¬ ((j : Int) < (k : Int)) := by omega
      clear hu
      go_wp2
      go_ret
      exact ⟨by rw [Hu.out, hjk]; rfl, rfl⟩

end Go.Proofs.YthpapkfpcijpoaaDoor
/-
  GROUPS AS PLAIN LISTS: a list is a group just if all of its pairs are chosen. Nothing here speaks of the program.
-/
namespace Go.Proofs.YthpapkfpcijpoaaDoor
open Go.RowKit

/-- a person who is a friend of all of a list -/
def knowsI (l : PL) (q : List Int) (x : Int) : Bool := q.all fun y => adj l x.toNat y.toNat
def groupAt (p : Int) (l : PL) (q : List Int) (k : Nat) : Bool := choiceAt p q k && knowsI l (q.take k) (q.getD k 0)
def isGroupI (p : Int) (l : PL) (q : List Int) : Bool := (List.range q.length).all (groupAt p l q)
theorem isGroupI_of {p : Int} {l : PL} {q : List Int} (h : ∀ i, i < q.length → groupAt p l q i = true) : isGroupI p l q = true := by
  simp only [isGroupI, List.all_eq_true, List.mem_range]
  exact h
theorem isGroupI_no {p : Int} {l : PL} {q : List Int} {i : Nat} (hi : i < q.length) (h : groupAt p l q i = false) : isGroupI p l q = false := by
  cases he : isGroupI p l q with
  | false => rfl
  | true =>
    simp only [isGroupI, List.all_eq_true, List.mem_range] at he
    rw [he i hi] at h
    cases h
theorem allP_length : ∀ n : Fin 13, ((allP n.val).length : Int) = waysI n.val 2 := by decide +kernel
theorem allP_ways {n : Nat} (hn : n ≤ 12) : ((allP n).length : Int) = waysI n 2 := allP_length ⟨n, by omega⟩
theorem groups_all {p : Int} {l : PL} {q : List Int} (hp : isP p l = true) (hq : isChoiceI p q = true) : isGroupI p l q = decide (((chooseP l q).length : Int) = waysI q.length 2) := by
  have hlen : q.length ≤ 12 := by have := isP_range hp; rcases isChoiceI_long hq with h | h; (· omega); (· simp [h])
  have hall : ((chooseP l q).length : Int) = waysI q.length 2 ↔ ∀ i j, i < j → j < q.length → chosenT l q i j = true := by
    rw [← tabP_choose hp hq, ← allP_ways hlen]
    unfold tabP
    constructor
    · intro h
      have h2 := List.length_filter_eq_length_iff.1 (Int.ofNat_inj.1 h)
      intro i j hij hj
      have := h2 ((i : Int), (j : Int)) (mem_allP.2 ⟨by simp, by simp; omega, by simp; omega⟩)
      simpa using this
    · intro h
      congr 1
      rw [List.length_filter_eq_length_iff]
      intro r hr
      have h3 := mem_allP.1 hr
      exact h r.1.toNat r.2.toNat (by omega) (by omega)
  have hat : ∀ k, k < q.length → (groupAt p l q k = true ↔ ∀ i, i < k → chosenT l q i k = true) := by
    intro k hk
    unfold groupAt knowsI
    rw [isChoiceI_good hq hk, Bool.true_and, List.all_eq_true]
    constructor
    · intro h i hi
      obtain ⟨y, hy⟩ := getSome q i (by omega)
      have := h y (List.mem_of_getElem? (l := q.take k) (i := i) (by rw [List.getElem?_take, if_pos hi]; exact hy))
      unfold chosenT gI
      rw [adj_comm, show q.getD i 0 = y by rw [List.getD_eq_getElem?_getD, hy]; rfl]
      exact this
    · intro h y hy
      obtain ⟨i, hi, e⟩ := List.getElem_of_mem hy
      rw [List.length_take] at hi
      rw [List.getElem_take] at e
      have := h i (by omega)
      unfold chosenT gI at this
      rw [adj_comm, show q.getD i 0 = y by rw [List.getD_eq_getElem?_getD, List.getElem?_eq_getElem (by omega), e]; rfl] at this
      exact this
  by_cases h : ((chooseP l q).length : Int) = waysI q.length 2
  · rw [decide_eq_true h]
    exact isGroupI_of fun k hk => (hat k hk).2 fun i hi => hall.1 h i k hi hk
  · rw [decide_eq_false h]
    cases he : isGroupI p l q with
    | false => rfl
    | true =>
      refine absurd (hall.2 fun i j hij hj => ?_) h
      simp only [isGroupI, List.all_eq_true, List.mem_range] at he
      exact (hat j hj).1 (he j hj) i hij
theorem groups_not {p : Int} {l : PL} {q : List Int} (hq : isChoiceI p q = false) : isGroupI p l q = false := by
  simp only [isChoiceI, List.all_eq_false, List.mem_range] at hq
  obtain ⟨k, hk, h⟩ := hq
  exact isGroupI_no hk (by unfold groupAt; simp only [Bool.not_eq_true] at h; rw [h, Bool.false_and])
def resIsGroup (p : Int) (l : PL) (q : List Int) : Bool × Bool := if isP p l then (isGroupI p l q, true) else (false, false)
end Go.Proofs.YthpapkfpcijpoaaDoor
/-
  'IsGroup' of the model, by its contract.
-/
namespace Go.Proofs.YthpapkfpcijpoaaDoor
open Go.RowKit

theorem getD_is {q : List Int} {k : Nat} {x : Int} (h : q[k]? = some x) : q.getD k 0 = x := by rw [List.getD_eq_getElem?_getD, h]; rfl

end Go.Proofs.YthpapkfpcijpoaaDoor
/-
  THE MODEL's GROUPS OF A SIZE ('spec.trGroups'), by its contract: induction on how many are still to come.
-/
namespace Go.Proofs.YthpapkfpcijpoaaDoor
open Go.RowKit

theorem candR_set {t : Nat → Nat → Bool} {n : Nat} (hn : n ≤ 12) (q : List Int) (a : Nat) : (candR t n q a).length ≤ 12 := by
  unfold candR
  refine Nat.le_trans (List.length_filter_le _ _) ?_
  simp only [List.length_range']
  omega
theorem lists_candR {t : Nat → Nat → Bool} {n k : Nat} (hn : n ≤ 12) (q : List Int) (a : Nat) : (listsC t k q (candR t n q a)).length ≤ 4096 := by
  have h1 := listsC_length_le t k q (candR t n q a)
  have h2 : 2 ^ (candR t n q a).length ≤ 2 ^ 12 := Nat.pow_le_pow_right (by omega) (candR_set hn q a)
  omega
theorem Tryd.infoIntsG : (Tryd.prog.info? 26).map (fun i => (i.zero, i.size, i.bytes)) = some (some (.slice none 0 0), 1, 24) := by kernel_rfl

end Go.Proofs.YthpapkfpcijpoaaDoor
/-
  'CountGroups': the model's and the program's, by their contracts.
-/
namespace Go.Proofs.YthpapkfpcijpoaaDoor
open Go.RowKit

theorem friendsT_of {n : Int} {l : PL} (h : isP n l = true) : TiesOf (friendsT l) (adj l) := by
  have hn := isP_range h
  have hl := (isP_list h).2.2.1
  have key : ∀ m, m ≤ l.length → TiesOf (friendsT (l.take m)) (adj (l.take m)) := by
    intro m
    induction m with
    | zero => intro _; exact TiesOf.none
    | succ m ih =>
      intro hm
      obtain ⟨⟨x, y⟩, hx⟩ := getSome l m (by omega)
      have h0 := hl _ (List.mem_of_getElem? hx)
      simp only at h0
      obtain ⟨a, rfl⟩ : ∃ a : Nat, x = a := ⟨x.toNat, by omega⟩
      obtain ⟨b, rfl⟩ : ∃ b : Nat, y = b := ⟨y.toNat, by omega⟩
      rw [List.take_add_one, hx, Option.toList_some, friendsT_snoc, adj_snoc]
      exact (ih (by omega)).with (by omega) (by omega) (by omega)
  have := key l.length (Nat.le_refl _)
  rwa [List.take_length] at this
theorem candR_all (t : Nat → Nat → Bool) (n : Nat) : candR t n [] 0 = List.range n := by
  unfold candR
  rw [List.filter_eq_self.2 (by simp), Nat.sub_zero, List.range_eq_range']
/-- the groups of a size -/
def groupsL (n : Nat) (l : PL) (k : Nat) : List (List Int) := listsC (adj l) k [] (List.range n)
theorem groupsL_few {n : Nat} (hn : n ≤ 12) (l : PL) (k : Nat) : (groupsL n l k).length ≤ 4096 := lists_few (IsSet.people (n := n) (by omega)) (fun b hb => by have := List.mem_range.1 hb; omega)
def resCountGroups (p : Int) (l : PL) (k : Int) : Int × Bool := if isP p l && decide (0 ≤ k ∧ k ≤ 12) then ((groupsL p.toNat l k.toNat).length, true) else (0, false)

end Go.Proofs.YthpapkfpcijpoaaDoor
/-
  HOW MANY LISTS OF TIED PEOPLE HAVE A PERSON. Nothing here speaks of the program.
-/
namespace Go.Proofs.YthpapkfpcijpoaaDoor
open Go.RowKit

theorem listsC_told (t : Nat → Nat → Bool) : ∀ (k : Nat) (told : List Int) (cs : List Nat), listsC t k told cs = (listsC t k [] cs).map (told ++ ·) := by
  intro k told cs
  induction h : k + cs.length using Nat.strongRecOn generalizing k told cs with
  | _ n ih =>
    match k, cs with
    | 0, cs => rw [listsC_zero, listsC_zero]; simp
    | k + 1, [] => rw [listsC_nil, listsC_nil]; rfl
    | k + 1, a :: cs =>
      simp only [List.length_cons] at h
      have h0 : (cs.filter (t a)).length ≤ cs.length := List.length_filter_le _ _
      rw [listsC_cons, listsC_cons, List.map_append, ih (k + (cs.filter (t a)).length) (by omega) k (told ++ [(a : Int)]) _ rfl, ih (k + 1 + cs.length) (by omega) (k + 1) told cs rfl,
        ih (k + (cs.filter (t a)).length) (by omega) k ([] ++ [(a : Int)]) _ rfl, List.map_map]
      congr 1
      refine List.map_congr_left fun x _ => ?_
      simp
theorem listsC_len (t : Nat → Nat → Bool) (k : Nat) (told : List Int) (cs : List Nat) : (listsC t k told cs).length = (listsC t k [] cs).length := by rw [listsC_told, List.length_map]
theorem listsC_size (t : Nat → Nat → Bool) : ∀ (k : Nat) (told : List Int) (cs : List Nat), ∀ l ∈ listsC t k told cs, l.length = told.length + k := by
  intro k told cs
  induction h : k + cs.length using Nat.strongRecOn generalizing k told cs with
  | _ n ih =>
    match k, cs with
    | 0, cs => rw [listsC_zero]; simp
    | k + 1, [] => rw [listsC_nil]; simp
    | k + 1, a :: cs =>
      simp only [List.length_cons] at h
      have h0 : (cs.filter (t a)).length ≤ cs.length := List.length_filter_le _ _
      rw [listsC_cons]
      intro l hl
      rcases List.mem_append.1 hl with hl | hl
      · have := ih (k + (cs.filter (t a)).length) (by omega) k _ _ rfl l hl
        simp at this
        omega
      · have := ih (k + 1 + cs.length) (by omega) (k + 1) _ _ rfl l hl
        omega
/-- whom a list has -/
theorem listsC_mem (t : Nat → Nat → Bool) : ∀ (k : Nat) (told : List Int) (cs : List Nat), ∀ l ∈ listsC t k told cs, ∀ x ∈ l, x ∈ told ∨ ∃ b ∈ cs, x = ((b : Nat) : Int) := by
  intro k told cs
  induction h : k + cs.length using Nat.strongRecOn generalizing k told cs with
  | _ n ih =>
    match k, cs with
    | 0, cs => rw [listsC_zero]; intro l hl x hx; simp at hl; subst hl; exact .inl hx
    | k + 1, [] => rw [listsC_nil]; simp
    | k + 1, a :: cs =>
      simp only [List.length_cons] at h
      have h0 : (cs.filter (t a)).length ≤ cs.length := List.length_filter_le _ _
      rw [listsC_cons]
      intro l hl x hx
      rcases List.mem_append.1 hl with hl | hl
      · rcases ih (k + (cs.filter (t a)).length) (by omega) k _ _ rfl l hl x hx with h1 | ⟨b, hb, h1⟩
        · rcases List.mem_append.1 h1 with h1 | h1
          · exact .inl h1
          · simp at h1
            exact .inr ⟨a, by simp, h1⟩
        · exact .inr ⟨b, by simp [(List.mem_filter.1 hb).1], h1⟩
      · rcases ih (k + 1 + cs.length) (by omega) (k + 1) _ _ rfl l hl x hx with h1 | ⟨b, hb, h1⟩
        · exact .inl h1
        · exact .inr ⟨b, by simp [hb], h1⟩
/-- how many lists have a person -/
def hasN (L : List (List Int)) (a : Nat) : Nat := L.countP (hasI · a)
theorem hasN_append (L M : List (List Int)) (a : Nat) : hasN (L ++ M) a = hasN L a + hasN M a := List.countP_append
theorem hasN_none {t : Nat → Nat → Bool} {k : Nat} {told : List Int} {cs : List Nat} {a : Nat} (h0 : (a : Int) ∉ told) (h : a ∉ cs) : hasN (listsC t k told cs) a = 0 := by
  refine List.countP_eq_zero.2 fun l hl hc => ?_
  rcases listsC_mem t k told cs l hl _ (hasI_mem.1 hc) with h1 | ⟨b, hb, h1⟩
  · exact h0 h1
  · have : a = b := by omega
    exact h (this ▸ hb)
theorem hasN_all {t : Nat → Nat → Bool} {k : Nat} {told : List Int} {cs : List Nat} {a : Nat} (h0 : (a : Int) ∈ told) : hasN (listsC t k told cs) a = (listsC t k told cs).length := by
  refine List.countP_eq_length.2 fun l hl => ?_
  rw [listsC_told] at hl
  obtain ⟨m, _, rfl⟩ := List.mem_map.1 hl
  exact hasI_mem.2 (List.mem_append_left _ h0)
theorem hasN_listsC {t : Nat → Nat → Bool} (hsym : ∀ i j, t i j = t j i) {a : Nat} (hirr : t a a = false) : ∀ (k : Nat) (told : List Int) (cs : List Nat),
    cs.Pairwise (· < ·) → a ∈ cs → (a : Int) ∉ told → hasN (listsC t (k + 1) told cs) a = (listsC t k [] (cs.filter (t a))).length := by
  intro k told cs
  induction h : k + cs.length using Nat.strongRecOn generalizing k told cs with
  | _ n ih =>
    intro hs ha h0
    match cs with
    | [] => simp at ha
    | x :: cs =>
      simp only [List.length_cons] at h
      obtain ⟨hx, hs'⟩ := List.pairwise_cons.1 hs
      have hl0 : (cs.filter (t x)).length ≤ cs.length := List.length_filter_le _ _
      rw [listsC_cons, hasN_append]
      by_cases e : x = a
      · subst e
        have hn : x ∉ cs := fun hc => by have := hx x hc; omega
        rw [hasN_all (by simp), hasN_none h0 hn, listsC_len, List.filter_cons_of_neg (by simp [hirr])]
        omega
      · have ha' : a ∈ cs := by rcases List.mem_cons.1 ha with h | h; exact absurd h.symm e; exact h
        have h1 : (a : Int) ∉ told ++ [(x : Int)] := by simp [h0]; omega
        rw [ih (k + cs.length) (by omega) k told cs rfl hs' ha' h0]
        match k with
        | 0 =>
          rw [listsC_zero, listsC_zero, listsC_zero]
          have : hasN [told ++ [(x : Int)]] a = 0 := List.countP_eq_zero.2 fun l hl hc => by
            simp only [List.mem_singleton] at hl
            subst hl
            exact h1 (hasI_mem.1 hc)
          rw [this]
          simp
        | k + 1 =>
          cases hxa : t x a with
          | true =>
            have hax : t a x = true := by rw [hsym, hxa]
            rw [ih (k + (cs.filter (t x)).length) (by omega) k _ _ rfl (hs'.filter _) (List.mem_filter.2 ⟨ha', hxa⟩) h1, List.filter_cons_of_pos hax, listsC_cons, List.length_append, listsC_len t k ([] ++ [(x : Int)])]
            congr 2
            rw [List.filter_filter, List.filter_filter]
            congr 1
            exact List.filter_congr fun b _ => Bool.and_comm _ _
          | false =>
            have hax : ¬ t a x = true := by rw [hsym, hxa]; simp
            rw [hasN_none h1 (fun hc => by have := (List.mem_filter.1 hc).2; simp [hxa] at this), List.filter_cons_of_neg hax]
            omega
end Go.Proofs.YthpapkfpcijpoaaDoor
/-
  'ThreesAt': the model's and the program's, by their contracts.
-/
namespace Go.Proofs.YthpapkfpcijpoaaDoor
open Go.RowKit

theorem adj_of {n : Nat} {l : PL} (h : isP n l = true) {a b : Nat} (hab : adj l a b = true) : a < n ∧ b < n ∧ a ≠ b := by
  have hl := (isP_list h).2.2.1
  unfold adj at hab
  simp only [Bool.or_eq_true, List.contains_iff_mem] at hab
  rcases hab with hab | hab
  · have := hl _ hab; simp only at this; omega
  · have := hl _ hab; simp only at this; omega
theorem adj_self {n : Nat} {l : PL} (h : isP n l = true) (a : Nat) : adj l a a = false := by
  cases e : adj l a a with
  | false => rfl
  | true => exact absurd rfl (adj_of h e).2.2
theorem friends_set {n : Nat} {l : PL} (h : isP n l = true) {T : Nat → Nat} (hT : TiesOf T (adj l)) {a : Nat} (ha : a < n) : IsSet (T a) ((List.range n).filter (adj l a)) := by
  have hn := isP_range h
  refine ⟨List.pairwise_lt_range.filter _, fun b hb => by have := List.mem_range.1 (List.mem_filter.1 hb).1; omega, fun b => ?_⟩
  rw [List.mem_filter, List.mem_range]
  by_cases hb : b < 16
  · rw [hT.bit a b (by omega) hb]
    exact ⟨fun e => ⟨(adj_of h e).2.1, e⟩, fun e => e.2⟩
  · have : (T a).testBit b = false := Nat.testBit_lt_two_pow (Nat.lt_of_lt_of_le (hT.lt a (by omega)) (Nat.pow_le_pow_right (n := 2) (i := 16) (by omega) (by omega)))
    rw [this]
    simp
    omega
def threesAtN (n : Nat) (l : PL) (a : Nat) : Nat := hasN (groupsL n l 3) a
theorem threesAt_eq {n : Nat} {l : PL} (h : isP n l = true) {a : Nat} (ha : a < n) : (listsC (adj l) 2 [] ((List.range n).filter (adj l a))).length = threesAtN n l a := by
  unfold threesAtN groupsL
  rw [hasN_listsC (adj_comm l) (adj_self h a) 2 [] _ List.pairwise_lt_range (List.mem_range.2 ha) (by simp)]
def resThreesAt (p : Int) (l : PL) (a : Int) : Int × Bool := if isP p l && isMan p a then (threesAtN p.toNat l a.toNat, true) else (0, false)

end Go.Proofs.YthpapkfpcijpoaaDoor
/-
  'impl.distance', by its contract.
-/
namespace Go.Proofs.YthpapkfpcijpoaaDoor
open Go.RowKit

def distR (o : Int) : Int × Bool := if o < 0 then (0, false) else (o, true)
theorem distR_no {o : Int} (h : o = -1) : distR o = (0, false) := by subst h; rfl
theorem distR_at {o : Int} {d : Nat} (h : o = d) : distR o = ((d : Int), true) := by subst h; unfold distR; rw [if_neg (by omega)]
theorem crowdN_one (x : Nat) : crowdN [(x : Int)] = 2 ^ x := by
  have h := crowdN_snoc [] (x : Int)
  simpa [show crowdN [] = 0 from rfl] using h
/-- those who are reached -/
def reachL (n : Nat) (t : Nat → Nat → Bool) (a d : Nat) : List Nat := (List.range n).filter (rch n t a d)
theorem reach_set {n a d R : Nat} {t : Nat → Nat → Bool} (h : Reached n t a d R) (hn : n ≤ 12) (ha : a < n) (ht : ∀ y x, t y x = true → x < n) : IsSet R (reachL n t a d) := by
  refine ⟨List.pairwise_lt_range.filter _, fun x hx => by have := List.mem_range.1 (List.mem_filter.1 hx).1; omega, fun x => ?_⟩
  unfold reachL
  rw [h.bit, List.mem_filter, List.mem_range]
  exact ⟨fun e => ⟨rch_lt ha ht e, e⟩, fun e => e.2⟩
theorem reach_in {n a d x : Nat} {t : Nat → Nat → Bool} (h : x ∈ reachL n t a d) : x < n := List.mem_range.1 (List.mem_filter.1 h).1
theorem reach_len (n a d : Nat) (t : Nat → Nat → Bool) : (reachL n t a d).length ≤ n := Nat.le_trans (List.length_filter_le _ _) (by simp)
theorem bit_and {R b : Nat} : (R &&& 2 ^ b = 0) ↔ R.testBit b = false := by
  constructor
  · intro h
    have h1 : (R &&& 2 ^ b).testBit b = false := by rw [h, Nat.zero_testBit]
    rw [Nat.testBit_and, Nat.testBit_two_pow_self, Bool.and_true] at h1
    exact h1
  · intro h
    refine Nat.eq_of_testBit_eq fun i => ?_
    rw [Nat.testBit_and, Nat.zero_testBit, Nat.testBit_two_pow]
    by_cases hi : b = i
    · subst hi; rw [h]; rfl
    · rw [decide_eq_false hi, Bool.and_false]
set_option maxHeartbeats 1000000 in
set_option maxRecDepth 100000 in
theorem distance_any {T : Nat → Nat} {t : Nat → Nat → Bool} (hT : TiesOf T t) {n a b : Nat} (hn : n ≤ 12) (ha : a < n) (hb : b < n) (ht : ∀ y x, t y x = true → x < n) (w : World) (htab : TabW w) :
    Calls Tryd.prog 58 #[.agg (tcells T), .int .i64 a, .int .i64 b] w fun e w' => e = .returned (.tuple #[.int .i64 (distR (distO n t a b)).1, .bool (distR (distO n t a b)).2]) ∧ Below w.heap.size w w' := by
  obtain ⟨⟨rv, rok⟩, hres⟩ : ∃ x, distR (distO n t a b) = x := ⟨_, rfl⟩
  rw [hres]
  have Hres := Lib.hid hres
  have HTab := Lib.hid htab
  have hpos := htab.pos
  obtain ⟨X, hX⟩ : ∃ X, w.alloc (Obj.cells (tcells T) 66) = X := ⟨_, rfl⟩
  have row0 : X.rowIs w.heap.size 66 12 (fun j => .int .u16 (T j)) := by rw [← hX]; exact rowIs_u16 w _ _
  have zX1 : X.heap.size = w.heap.size + 1 := by rw [← hX]; simp
  have zX : w.heap.size < X.heap.size := by omega
  have kX : Below w.heap.size w X := by rw [← hX]; go_grown
  have hone : ∀ (x : Nat) (v : World), x < 12 → Calls Tryd.prog 79 #[.slice (some ⟨v.heap.size, 0, none⟩) 1 1] (v.alloc (Obj.cells #[.int .i64 x] 3)) fun e w' => e = .returned (.int .u16 ((2 ^ x : Nat) : Int)) ∧ v.alloc (Obj.cells #[.int .i64 x] 3) = w' := by
    intro x v hx
    have h := crowdOf_any [(x : Int)] (some ⟨v.heap.size, 0, none⟩) 1 (v.alloc (Obj.cells #[.int .i64 x] 3)) (fun y hy => by simp at hy; omega) (by simp) (fun j u hu => by
      refine ⟨v.heap.size, 0, rfl, by simp, ?_⟩
      match j, hu with
      | 0, hu => simp [icells] at hu; subst hu; simp
      | j + 1, hu => simp [icells] at hu)
    rw [crowdN_one, show ([(x : Int)]).length = 1 from rfl] at h
    exact h
  have ha16 : a < 16 := by omega
  have hb16 : b < 16 := by omega
  have honeA := fun v : World => hone a v (by omega)
  have honeB := fun v : World => hone b v (by omega)
  have hstart := Reached.begin n t ha16
  have hb2 := two_lt hb16
  have hbits := fun R : Nat => bit_and (R := R) (b := b)
  obtain ⟨Ja, hJa⟩ : ∃ J, 2 ^ a = J := ⟨_, rfl⟩
  obtain ⟨Jb, hJb⟩ : ∃ J, 2 ^ b = J := ⟨_, rfl⟩
  simp only [hJa] at honeA hstart
  simp only [hJb] at honeB hb2 hbits
  have HoneA := Lib.hid honeA
  have HoneB := Lib.hid honeB
  have Hstart := Lib.hid hstart
  have Hb2 := Lib.hid hb2
  have Hbits := Lib.hid hbits
  have Row := Lib.hid row0
  have KX := Lib.hid kX
  unfold tcells at hX ⊢
  have HX := Lib.hid hX
  have HT := Lib.hid hT
  have Ht := Lib.hid ht
  clear hres htab hX row0 kX hone hT ht honeA honeB hstart hb2 hbits hJa hJb
  go_enter Tryd.func58, Tryd.ntmps58
  go_wp2_with fail
  rw [HX.out]
  have cA := HoneA.out X
  rw [zX1] at cA
  refine cA.mono ?_
  clear cA
  rintro e w1 ⟨rfl, rfl⟩
  go_wp2
  go_loopw [8, 9] (fun len r wr => ∃ d R : Nat, len = .int .i64 d ∧ r = .int .u16 R ∧ Reached n t a d R ∧ (∀ e, e < d → rch n t a e b = false) ∧ Below X.heap.size X wr) (fun _ r _ => 65536 - (intOf r).toNat)
  case atStart => exact ⟨0, Ja, rfl, rfl, Hstart.out, fun e he => by omega, by go_grown⟩
  case round =>
    obtain ⟨d, R, rfl, rfl, hre, hno, hbx⟩ := hrel
    have sx := hbx.size
    have hR := hre.lt
    have hdR := hre.most
    have hand := u16_and_nat R Jb hR Hb2.out
    have hzz := Hbits.out R
    obtain ⟨Z, hZ⟩ : ∃ Z, R &&& Jb = Z := ⟨_, rfl⟩
    rw [hZ] at hand hzz
    clear hZ
    have Hre := Lib.hid hre
    have Hno := Lib.hid hno
    clear hre hno
    cases hbit : R.testBit b with
    | true =>
      have hz1 : Z ≠ 0 := fun h => by rw [hzz.1 h] at hbit; cases hbit
      have hz : ((Z : Int) == 0) = false := by
        simp only [beq_eq_false_iff_ne, ne_eq]
        omega
      have e := Hres.out
      rw [distR_at (Hre.out.found hbit Hno.out)] at e
      simp only [Prod.mk.injEq] at e
      obtain ⟨rfl, rfl⟩ := e
      clear hbit hz1 hzz
      go_wp2_with fail
      refine (HoneB.out wr).mono ?_
      rintro e w2 ⟨rfl, rfl⟩
      go_wp2
      go_ret2
      exact ⟨rfl, KX.out.trans ((hbx.alloc sx _).mono (Nat.le_of_lt zX))⟩
    | false =>
      have hz1 : Z = 0 := hzz.2 hbit
      subst hz1
      have hset := reach_set Hre.out hn ha Ht.out
      have Hset := Lib.hid hset
      have Hbit := Lib.hid hbit
      clear hzz hset hbit
      go_wp2_with fail
      refine (HoneB.out wr).mono ?_
      rintro e w2 ⟨rfl, rfl⟩
      have g2 : Below X.heap.size X (wr.alloc (Obj.cells #[.int .i64 b] 3)) := hbx.alloc sx _
      have k2 : Below w.heap.size w (wr.alloc (Obj.cells #[.int .i64 b] 3)) := KX.out.trans (g2.mono (Nat.le_of_lt zX))
      obtain ⟨cs, hcs⟩ : ∃ cs, reachL n t a d = cs := ⟨_, rfl⟩
      have hin : ∀ x ∈ cs, x < n := fun x hx => by rw [← hcs] at hx; exact reach_in hx
      have hlen : cs.length ≤ 12 := by rw [← hcs]; exact Nat.le_trans (reach_len n a d t) hn
      have call := peopleOf_any Hset.out _ (HTab.out.below k2 hpos)
      rw [hcs] at call
      have hmem : ∀ x, R.testBit x = true ↔ x ∈ cs := fun x => by rw [← hcs]; exact Hset.out.mem x
      have Hin := Lib.hid hin
      have Hmem := Lib.hid hmem
      have Call := Lib.hid call
      clear hin hmem call hcs
      go_wp2_with fail
      refine Call.out.mono ?_
      rintro e w3 ⟨A3, c3, rfl, own3, hb3⟩
      have g3 : Below X.heap.size X w3 := g2.trans (hb3.mono g2.size)
      have s3 := g3.size
      have row3 : w3.rowIs w.heap.size 66 12 (fun j => .int .u16 (T j)) := by obtain ⟨cc, h1, h2⟩ := Row.out; exact ⟨cc, (g3.block _ zX).trans h1, h2⟩
      have rd := CRead.of_own own3
      have Row3 := Lib.hid row3
      have Rd := Lib.hid rd
      clear row3 rd own3 Call hand
      go_wp2
      go_loop [9, 26] (fun r i => ∃ j : Nat, j ≤ cs.length ∧ i = .int .i64 j ∧ r = .int .u16 (orT T (cs.take j) R)) (fun _ i => cs.length - (intOf i).toNat)
      case atStart => exact ⟨0, Nat.zero_le _, rfl, rfl⟩
      case round =>
        obtain ⟨j, hj, rfl, rfl⟩ := hrel
        have hlt16 : orT T (cs.take j) R < 65536 := orT_small T _ R hR fun c hc => HT.out.lt c (by have := Hin.out c (List.mem_of_mem_take hc); omega)
        by_cases hlt : j < cs.length
        · obtain ⟨x, hx⟩ := getSome cs j hlt
          have hxn := Hin.out x (List.mem_of_getElem? hx)
          have hxT := HT.out.lt x (by omega)
          obtain ⟨bb, off, rfl, hbb, c0⟩ := Rd.out.int (show (cs.map fun b : Nat => (b : Int))[j]? = some (x : Int) by rw [List.getElem?_map, hx]; rfl)
          have ct := Row3.out.cell (i := x) (by omega)
          have hor := u16_or_nat _ _ hlt16 hxT
          have hnx : orT T (cs.take (j + 1)) R = orT T (cs.take j) R ||| T x := by rw [List.take_add_one, hx, Option.toList_some, orT_snoc]
          have Hnx := Lib.hid hnx
          have hji : (j : Int) < (cs.length : Int) := by omega
          have hx12 : (x : Int) < 12 := by omega
          obtain ⟨V, hV⟩ : ∃ V, orT T (cs.take j) R = V := ⟨_, rfl⟩
          rw [hV] at hor hlt16 ⊢
          rw [hV] at Hnx
          clear hx hnx hV
          go_wp2
          go_round
          case rel => exact ⟨j + 1, by omega, by go_num, by rw [Hnx.out]⟩
          case measure => simp [intOf]; omega
        · have hjl : j = cs.length := by omega
          subst hjl
          have hge : ¬ ((cs.length : Int) < (cs.length : Int)) := by omega
          rw [List.take_length] at hlt16 ⊢
          by_cases heq : orT T cs R = R
          · have e := Hres.out
            rw [distR_no (Hre.out.stop Hmem.out Hin.out (fun c x hc => by
              by_cases hx : x < 16
              · exact HT.out.bit c x (by have := Hin.out c hc; omega) hx
              · rw [Nat.testBit_lt_two_pow (Nat.lt_of_lt_of_le (HT.out.lt c (by have := Hin.out c hc; omega)) (Nat.pow_le_pow_right (n := 2) (i := 16) (by omega) (by omega)))]
                cases hh : t c x with
                | false => rfl
                | true => have := Ht.out c x hh; omega) heq Hbit.out)] at e
            simp only [Prod.mk.injEq] at e
            obtain ⟨rfl, rfl⟩ := e
            rw [heq]
            have hRR : ((R : Int) == (R : Int)) = true := by simp
            clear heq hlt16
            go_wp2
            go_ret2
            exact ⟨rfl, KX.out.trans (g3.mono (Nat.le_of_lt zX))⟩
          · have hst := Hre.out.step (T := T) Hmem.out Hin.out (fun c x hc => by
              by_cases hx : x < 16
              · exact HT.out.bit c x (by have := Hin.out c hc; omega) hx
              · rw [Nat.testBit_lt_two_pow (Nat.lt_of_lt_of_le (HT.out.lt c (by have := Hin.out c hc; omega)) (Nat.pow_le_pow_right (n := 2) (i := 16) (by omega) (by omega)))]
                cases hh : t c x with
                | false => rfl
                | true => have := Ht.out c x hh; omega) (fun c hc => HT.out.lt c (by have := Hin.out c hc; omega)) heq
            have hge2 := orT_ge T cs R
            obtain ⟨V, hV⟩ : ∃ V, orT T cs R = V := ⟨_, rfl⟩
            rw [hV] at hst heq hge2 hlt16 ⊢
            have hne : ((V : Int) == (R : Int)) = false := by simp only [beq_eq_false_iff_ne, ne_eq]; omega
            have Hst := Lib.hid hst
            have Hno2 := Lib.hid (show ∀ e, e < d + 1 → rch n t a e b = false from fun e he => by
              by_cases hed : e = d
              · rw [hed, ← Hre.out.bit]; exact Hbit.out
              · exact Hno.out e (by omega))
            clear hst hV
            go_wp2
            go_roundw
            case rel => exact ⟨d + 1, V, by go_num, rfl, Hst.out, Hno2.out, g3⟩
            case measure => simp [intOf]; omega
end Go.Proofs.YthpapkfpcijpoaaDoor
/-
  'DistanceOf': the model's and the program's, by their contracts.
-/
namespace Go.Proofs.YthpapkfpcijpoaaDoor
open Go.RowKit

noncomputable def resDistanceOf (p : Int) (l : PL) (a b : Int) : Int × Bool := if isP p l && isMan p a && isMan p b then distR (distO p.toNat (adj l) a.toNat b.toNat) else (0, false)
theorem adj_lt {n : Nat} {l : PL} (h : isP n l = true) : ∀ y x, adj l y x = true → x < n := fun _ _ e => (adj_of h e).2.1
set_option maxHeartbeats 1000000 in
set_option maxRecDepth 100000 in
theorem specDistanceOf_any (p : Int) (l : PL) (A : Option Addr) (c : Nat) (a b : Int) (w : World) (hl : l.length ≤ 1048576) (hA : CRead w w.heap.size A (pcells l)) :
    Calls Tryd.prog 24 #[.agg #[.int .i64 p, .slice A l.length c], .int .i64 a, .int .i64 b] w fun e w' => e = .returned (.tuple #[.int .i64 (resDistanceOf p l a b).1, .bool (resDistanceOf p l a b).2]) ∧ Below w.heap.size w w' := by
  have hr : CRead (w.alloc (Obj.cells #[.int .i64 p, .slice A l.length c] 31)) (w.alloc (Obj.cells #[.int .i64 p, .slice A l.length c] 31)).heap.size A (pcells l) := (hA.below (B' := w.heap.size) (by go_grown) (Nat.le_refl _)).more (by go_size)
  obtain ⟨⟨rv, rok⟩, hres⟩ : ∃ x, resDistanceOf p l a b = x := ⟨_, rfl⟩
  rw [hres]
  cases hp : isP p l with
  | false =>
    have e : (rv, rok) = (0, false) := by rw [← hres]; simp [resDistanceOf, hp]
    simp only [Prod.mk.injEq] at e
    obtain ⟨rfl, rfl⟩ := e
    have Hp := Lib.hid hp
    clear hp hres
    go_enter Tryd.func24, Tryd.ntmps24
    go_wp2_with fail
    refine (paGood_any _ _ _ _ _ hl hr).mono ?_
    rw [Hp.out]
    rintro e w2 ⟨rfl, hb2⟩
    simp only [World.size_alloc] at hb2
    go_wp2
    go_ret2
    exact ⟨rfl, Below.trans (b := _) (by go_grown) (hb2.mono (by omega))⟩
  | true =>
    obtain ⟨n, rfl⟩ : ∃ n : Nat, p = n := ⟨p.toNat, by have := isP_range hp; omega⟩
    have hn := isP_range hp
    have Hp := Lib.hid hp
    cases hma : isMan n a with
    | false =>
      have e : (rv, rok) = (0, false) := by rw [← hres]; simp [resDistanceOf, hma]
      simp only [Prod.mk.injEq] at e
      obtain ⟨rfl, rfl⟩ := e
      have Ha := Lib.hid hma
      clear hp hres hma
      go_enter Tryd.func24, Tryd.ntmps24
      go_wp2_with fail
      refine (paGood_any _ _ _ _ _ hl hr).mono ?_
      rw [Hp.out]
      rintro e w2 ⟨rfl, hb2⟩
      have s2 := hb2.size
      have k2 : Below w.heap.size w w2 := Below.trans (b := _) (by go_grown) (hb2.mono (by simp))
      have c0 : w2.cell? ⟨w.heap.size, 0, none⟩ = some (.int .i64 n) := carry hb2 (by simp) (by simp)
      have c1 : w2.cell? ⟨w.heap.size, 1, none⟩ = some (.slice A l.length c) := carry hb2 (by simp) (by simp)
      simp only [World.size_alloc] at s2
      go_wp2_with fail
      refine (paHas_any n a A l.length c _ hn).mono ?_
      rw [Ha.out]
      rintro e w3 ⟨rfl, hb3⟩
      have k3 := k2.trans (hb3.mono k2.size)
      go_wp2
      go_ret2
      exact ⟨rfl, k3⟩
    | true =>
      have ha' : 0 ≤ a ∧ a < n := by simpa [isMan] using hma
      obtain ⟨x, rfl⟩ : ∃ x : Nat, a = x := ⟨a.toNat, by omega⟩
      have Ha := Lib.hid hma
      cases hmb : isMan n b with
      | false =>
        have e : (rv, rok) = (0, false) := by rw [← hres]; simp [resDistanceOf, hmb]
        simp only [Prod.mk.injEq] at e
        obtain ⟨rfl, rfl⟩ := e
        have Hb := Lib.hid hmb
        clear hp hres hma hmb
        go_enter Tryd.func24, Tryd.ntmps24
        go_wp2_with fail
        refine (paGood_any _ _ _ _ _ hl hr).mono ?_
        rw [Hp.out]
        rintro e w2 ⟨rfl, hb2⟩
        have s2 := hb2.size
        have k2 : Below w.heap.size w w2 := Below.trans (b := _) (by go_grown) (hb2.mono (by simp))
        have c0 : w2.cell? ⟨w.heap.size, 0, none⟩ = some (.int .i64 n) := carry hb2 (by simp) (by simp)
        have c1 : w2.cell? ⟨w.heap.size, 1, none⟩ = some (.slice A l.length c) := carry hb2 (by simp) (by simp)
        simp only [World.size_alloc] at s2
        go_wp2_with fail
        refine (paHas_any n x A l.length c _ hn).mono ?_
        rw [Ha.out]
        rintro e w3 ⟨rfl, hb3⟩
        have k3 := k2.trans (hb3.mono k2.size)
        have d0 : w3.cell? ⟨w.heap.size, 0, none⟩ = some (.int .i64 n) := carry hb3 c0 (by omega)
        have d1 : w3.cell? ⟨w.heap.size, 1, none⟩ = some (.slice A l.length c) := carry hb3 c1 (by omega)
        clear c0 c1
        go_wp2_with fail
        refine (paHas_any n b A l.length c _ hn).mono ?_
        rw [Hb.out]
        rintro e w4 ⟨rfl, hb4⟩
        have k4 := k3.trans (hb4.mono k3.size)
        go_wp2
        go_ret2
        exact ⟨rfl, k4⟩
      | true =>
        have hb' : 0 ≤ b ∧ b < n := by simpa [isMan] using hmb
        obtain ⟨y, rfl⟩ : ∃ x : Nat, b = x := ⟨b.toNat, by omega⟩
        have hxn : x < n := by omega
        have hyn : y < n := by omega
        have hyi : (y : Int) < (n : Int) := by omega
        have Hb := Lib.hid hmb
        have e : (rv, rok) = distR (distO n (adj l) x y) := by rw [← hres]; simp [resDistanceOf, hp, hma, hmb]
        have hge := distO_ge n (adj l) x y
        have Hlt := Lib.hid (adj_lt hp)
        have hcell : ((List.range n).map (distO n (adj l) x))[y]? = some (distO n (adj l) x y) := by rw [List.getElem?_map, List.getElem?_range hyn]; rfl
        have Hcell := Lib.hid hcell
        obtain ⟨D, hD⟩ : ∃ D, distO n (adj l) x y = D := ⟨_, rfl⟩
        rw [hD] at e hge Hcell
        have E := Lib.hid e
        clear hp hres hma hmb e hcell hD
        go_enter Tryd.func24, Tryd.ntmps24
        go_wp2_with fail
        refine (paGood_any _ _ _ _ _ hl hr).mono ?_
        rw [Hp.out]
        rintro e w2 ⟨rfl, hb2⟩
        have s2 := hb2.size
        have k2 : Below w.heap.size w w2 := Below.trans (b := _) (by go_grown) (hb2.mono (by simp))
        have c0 : w2.cell? ⟨w.heap.size, 0, none⟩ = some (.int .i64 n) := carry hb2 (by simp) (by simp)
        have c1 : w2.cell? ⟨w.heap.size, 1, none⟩ = some (.slice A l.length c) := carry hb2 (by simp) (by simp)
        simp only [World.size_alloc] at s2
        go_wp2_with fail
        refine (paHas_any n x A l.length c _ hn).mono ?_
        rw [Ha.out]
        rintro e w3 ⟨rfl, hb3⟩
        have k3 := k2.trans (hb3.mono k2.size)
        have d0 : w3.cell? ⟨w.heap.size, 0, none⟩ = some (.int .i64 n) := carry hb3 c0 (by omega)
        have d1 : w3.cell? ⟨w.heap.size, 1, none⟩ = some (.slice A l.length c) := carry hb3 c1 (by omega)
        have s3 := hb3.size
        clear c0 c1
        go_wp2_with fail
        refine (paHas_any n y A l.length c _ hn).mono ?_
        rw [Hb.out]
        rintro e w4 ⟨rfl, hb4⟩
        have k4 := k3.trans (hb4.mono k3.size)
        have e0 : w4.cell? ⟨w.heap.size, 0, none⟩ = some (.int .i64 n) := carry hb4 d0 (by omega)
        have e1 : w4.cell? ⟨w.heap.size, 1, none⟩ = some (.slice A l.length c) := carry hb4 d1 (by omega)
        clear d0 d1
        go_wp2_with fail
        refine (paTable_any _ _ _ _ _ Hp.out ((hA.below k4 (Nat.le_refl _)).more k4.size)).mono ?_
        rw [Int.toNat_natCast]
        rintro e w5 ⟨A5, c5, G, rfl, tab, hb5⟩
        have k5 := k4.trans (hb5.mono k4.size)
        go_wp2_with fail
        refine (cfDistances_any n x (adj l) A5 c5 G _ _ (by omega) hxn Hlt.out tab).mono ?_
        rintro e w6 ⟨g6, rfl, own6, hb6⟩
        have k6 := k5.trans (hb6.mono k5.size)
        have cd := own_intAt own6 Hcell.out
        clear own6
        by_cases hneg : D < 0
        · have e := E.out
          rw [distR, if_pos hneg] at e
          simp only [Prod.mk.injEq] at e
          obtain ⟨rfl, rfl⟩ := e
          go_wp2
          go_ret2
          exact ⟨rfl, k6⟩
        · have e := E.out
          rw [distR, if_neg hneg] at e
          simp only [Prod.mk.injEq] at e
          obtain ⟨rfl, rfl⟩ := e
          go_wp2
          go_ret2
          exact ⟨rfl, k6⟩
set_option maxHeartbeats 1000000 in
set_option maxRecDepth 100000 in
theorem implDistanceOf_any (p : Int) (l : PL) (A : Option Addr) (c : Nat) (a b : Int) (w : World) (hl : l.length ≤ 1048576) (hA : CRead w w.heap.size A (pcells l)) (htab : TabW w) :
    Calls Tryd.prog 25 #[.agg #[.int .i64 p, .slice A l.length c], .int .i64 a, .int .i64 b] w fun e w' => e = .returned (.tuple #[.int .i64 (resDistanceOf p l a b).1, .bool (resDistanceOf p l a b).2]) ∧ Below w.heap.size w w' := by
  have hr : CRead (w.alloc (Obj.cells #[.int .i64 p, .slice A l.length c] 31)) (w.alloc (Obj.cells #[.int .i64 p, .slice A l.length c] 31)).heap.size A (pcells l) := (hA.below (B' := w.heap.size) (by go_grown) (Nat.le_refl _)).more (by go_size)
  obtain ⟨⟨rv, rok⟩, hres⟩ : ∃ x, resDistanceOf p l a b = x := ⟨_, rfl⟩
  rw [hres]
  have HTab := Lib.hid htab
  have hpos := htab.pos
  clear htab
  cases hp : isP p l with
  | false =>
    have e : (rv, rok) = (0, false) := by rw [← hres]; simp [resDistanceOf, hp]
    simp only [Prod.mk.injEq] at e
    obtain ⟨rfl, rfl⟩ := e
    have Hp := Lib.hid hp
    clear hp hres
    go_enter Tryd.func25, Tryd.ntmps25
    go_wp2_with fail
    refine (isParty_any _ _ _ _ _ hl hr).mono ?_
    rw [Hp.out]
    rintro e w2 ⟨rfl, hb2⟩
    simp only [World.size_alloc] at hb2
    go_wp2
    go_ret2
    exact ⟨rfl, Below.trans (b := _) (by go_grown) (hb2.mono (by omega))⟩
  | true =>
    obtain ⟨n, rfl⟩ : ∃ n : Nat, p = n := ⟨p.toNat, by have := isP_range hp; omega⟩
    have hn := isP_range hp
    have Hp := Lib.hid hp
    cases hma : isMan n a with
    | false =>
      have e : (rv, rok) = (0, false) := by rw [← hres]; simp [resDistanceOf, hma]
      simp only [Prod.mk.injEq] at e
      obtain ⟨rfl, rfl⟩ := e
      have Ha := Lib.hid hma
      clear hp hres hma
      go_enter Tryd.func25, Tryd.ntmps25
      go_wp2_with fail
      refine (isParty_any _ _ _ _ _ hl hr).mono ?_
      rw [Hp.out]
      rintro e w2 ⟨rfl, hb2⟩
      have s2 := hb2.size
      have k2 : Below w.heap.size w w2 := Below.trans (b := _) (by go_grown) (hb2.mono (by simp))
      have c0 : w2.cell? ⟨w.heap.size, 0, none⟩ = some (.int .i64 n) := carry hb2 (by simp) (by simp)
      have c1 : w2.cell? ⟨w.heap.size, 1, none⟩ = some (.slice A l.length c) := carry hb2 (by simp) (by simp)
      simp only [World.size_alloc] at s2
      go_wp2_with fail
      refine (isPerson_any n a A l.length c _).mono ?_
      rw [Ha.out]
      rintro e w3 ⟨rfl, hb3⟩
      have k3 := k2.trans (hb3.mono k2.size)
      go_wp2
      go_ret2
      exact ⟨rfl, k3⟩
    | true =>
      have ha' : 0 ≤ a ∧ a < n := by simpa [isMan] using hma
      obtain ⟨x, rfl⟩ : ∃ x : Nat, a = x := ⟨a.toNat, by omega⟩
      have Ha := Lib.hid hma
      cases hmb : isMan n b with
      | false =>
        have e : (rv, rok) = (0, false) := by rw [← hres]; simp [resDistanceOf, hmb]
        simp only [Prod.mk.injEq] at e
        obtain ⟨rfl, rfl⟩ := e
        have Hb := Lib.hid hmb
        clear hp hres hma hmb
        go_enter Tryd.func25, Tryd.ntmps25
        go_wp2_with fail
        refine (isParty_any _ _ _ _ _ hl hr).mono ?_
        rw [Hp.out]
        rintro e w2 ⟨rfl, hb2⟩
        have s2 := hb2.size
        have k2 : Below w.heap.size w w2 := Below.trans (b := _) (by go_grown) (hb2.mono (by simp))
        have c0 : w2.cell? ⟨w.heap.size, 0, none⟩ = some (.int .i64 n) := carry hb2 (by simp) (by simp)
        have c1 : w2.cell? ⟨w.heap.size, 1, none⟩ = some (.slice A l.length c) := carry hb2 (by simp) (by simp)
        simp only [World.size_alloc] at s2
        go_wp2_with fail
        refine (isPerson_any n x A l.length c _).mono ?_
        rw [Ha.out]
        rintro e w3 ⟨rfl, hb3⟩
        have k3 := k2.trans (hb3.mono k2.size)
        have d0 : w3.cell? ⟨w.heap.size, 0, none⟩ = some (.int .i64 n) := carry hb3 c0 (by omega)
        have d1 : w3.cell? ⟨w.heap.size, 1, none⟩ = some (.slice A l.length c) := carry hb3 c1 (by omega)
        clear c0 c1
        go_wp2_with fail
        refine (isPerson_any n b A l.length c _).mono ?_
        rw [Hb.out]
        rintro e w4 ⟨rfl, hb4⟩
        have k4 := k3.trans (hb4.mono k3.size)
        go_wp2
        go_ret2
        exact ⟨rfl, k4⟩
      | true =>
        have hb' : 0 ≤ b ∧ b < n := by simpa [isMan] using hmb
        obtain ⟨y, rfl⟩ : ∃ x : Nat, b = x := ⟨b.toNat, by omega⟩
        have hxn : x < n := by omega
        have hyn : y < n := by omega
        have Hb := Lib.hid hmb
        have e : distR (distO n (adj l) x y) = (rv, rok) := by rw [← hres]; simp [resDistanceOf, hp, hma, hmb]
        have call := fun (v : World) (hv : TabW v) => distance_any (friendsT_of hp) (n := n) (by omega) hxn hyn (adj_lt hp) v hv
        simp only [e] at call
        unfold tcells at call
        have Call := Lib.hid call
        clear hp hres hma hmb e call
        go_enter Tryd.func25, Tryd.ntmps25
        go_wp2_with fail
        refine (isParty_any _ _ _ _ _ hl hr).mono ?_
        rw [Hp.out]
        rintro e w2 ⟨rfl, hb2⟩
        have s2 := hb2.size
        have k2 : Below w.heap.size w w2 := Below.trans (b := _) (by go_grown) (hb2.mono (by simp))
        have c0 : w2.cell? ⟨w.heap.size, 0, none⟩ = some (.int .i64 n) := carry hb2 (by simp) (by simp)
        have c1 : w2.cell? ⟨w.heap.size, 1, none⟩ = some (.slice A l.length c) := carry hb2 (by simp) (by simp)
        simp only [World.size_alloc] at s2
        go_wp2_with fail
        refine (isPerson_any n x A l.length c _).mono ?_
        rw [Ha.out]
        rintro e w3 ⟨rfl, hb3⟩
        have k3 := k2.trans (hb3.mono k2.size)
        have d0 : w3.cell? ⟨w.heap.size, 0, none⟩ = some (.int .i64 n) := carry hb3 c0 (by omega)
        have d1 : w3.cell? ⟨w.heap.size, 1, none⟩ = some (.slice A l.length c) := carry hb3 c1 (by omega)
        have s3 := hb3.size
        clear c0 c1
        go_wp2_with fail
        refine (isPerson_any n y A l.length c _).mono ?_
        rw [Hb.out]
        rintro e w4 ⟨rfl, hb4⟩
        have k4 := k3.trans (hb4.mono k3.size)
        have e0 : w4.cell? ⟨w.heap.size, 0, none⟩ = some (.int .i64 n) := carry hb4 d0 (by omega)
        have e1 : w4.cell? ⟨w.heap.size, 1, none⟩ = some (.slice A l.length c) := carry hb4 d1 (by omega)
        clear d0 d1
        go_wp2_with fail
        refine (friendsIn_any _ l A c _ Hp.out ((hA.below k4 (Nat.le_refl _)).more k4.size)).mono ?_
        rintro e w5 ⟨rfl, _, hb5⟩
        have k5 := k4.trans (hb5.mono k4.size)
        unfold tcells
        go_wp2_with fail
        refine (Call.out _ (HTab.out.below k5 hpos)).mono ?_
        rintro e w6 ⟨rfl, hb6⟩
        have k6 := k5.trans (hb6.mono k5.size)
        go_wp2
        go_ret2
        exact ⟨rfl, k6⟩
end Go.Proofs.YthpapkfpcijpoaaDoor
