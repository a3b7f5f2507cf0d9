/-
  Texts put together for the claims of 'AddClue' (pack 3): ClueJ, Pairs, Tab, DropC, AddC.
-/
import Derived.Test.YtkiobefojckocaaAddClueP1
import Derived.Test.YtkiobefojckocaaAddClueP2
import Derived.BigQuiet
import Derived.Recover
import Derived.Defers
import Derived.Laws.Pointers
import Derived.WalkLawsBesides
import Derived.Deep.OwnRows
import Derived.Deep.AppendLies
import Derived.Deep.RegionLaw
import Derived.Deep.RegionLawGrows
import Derived.Deep.RegionHeldLaw
import Derived.Laws.OwnMore
/-
  WHAT A CLUE, A PUZZLE IS: the program's functions, by their contracts: 'areClues' recovers what 'requireClue' panics with.
-/
namespace Go.Proofs.Ytkiobefojckocaa
open Go.RowKit



theorem assert_yes {P : Program} {w : World} {t xT : TypeId} {v : Value} {fs : Array Field} (hu : P.underlying t = some (.struct fs)) : (Instr.typeAssert (.iface t v) xT t true).run P w = .ok (.tuple #[v, .bool true]) w := by
  simp [Instr.typeAssert, run_underlying hu]
theorem assert_nil {P : Program} {w : World} {t xT : TypeId} {z : Value} {i : TypeInfo} {fs : Array Field} (hu : P.underlying t = some (.struct fs)) (hi : P.info? t = some i) (hz : i.zero = some z) : (Instr.typeAssert .nilIface xT t true).run P w = .ok (.tuple #[z, .bool false]) w := by
  simp [Instr.typeAssert, run_underlying hu, zeroValue, typeInfo, hi, hz]
section
variable {P : Program} {ops : Array Oper} {Q : Exit → Act → List Frame → World → Prop} {i : Nat} {rest : List Nat} {a : Act} {cs cs' : List Frame} {w w' : World} {o : Oper} {v : Value}
theorem opsS_recover (ho : ops[i]? = some o) (hw : Region.wanted o (yielded ops a.tmps) = true) (hr : (execOp a.eval o).run P w = .ok .recover w') (hc : recoverD cs = some (v, cs')) (h : wpOpsS P ops Q rest (a.put o.dst v) cs' w') : wpOpsS P ops Q (i :: rest) a cs w := by
  simp only [wpOpsS, ho, hw, if_true, hr, hc]
  exact h
theorem opsS_recover_none (ho : ops[i]? = some o) (hw : Region.wanted o (yielded ops a.tmps) = true) (hr : (execOp a.eval o).run P w = .ok .recover w') (hc : recoverD cs = none) (h : wpOpsS P ops Q rest (a.put o.dst .nilIface) cs w') : wpOpsS P ops Q (i :: rest) a cs w := by
  simp only [wpOpsS, ho, hw, if_true, hr, hc]
  exact h
/-- operations that do not recover are walked as everywhere -/
theorem opsS_of_list (hno : ¬ LetsOut (fun e a w => Q e a cs w)) (l : List Oper) : ∀ (k : Nat) (a : Act) (w : World), (∀ j, l[j]? = ops[k + j]?) → wpList P ops (fun e a w => Q e a cs w) l a w → wpOpsS P ops Q (List.range' k l.length) a cs w := by
  induction l with
  | nil => intro k a w _ h; exact h
  | cons o l ih =>
    intro k a w h hw
    have h0 : ops[k]? = some o := by simpa using (h 0).symm
    have ih' := ih (k + 1)
    have hj : ∀ j, l[j]? = ops[k + 1 + j]? := fun j => by have := h (j + 1); simpa [Nat.add_assoc, Nat.add_comm 1 j] using this
    simp only [List.length_cons, List.range'_succ, wpOpsS, h0]
    unfold wpList at hw
    by_cases hwn : Region.wanted o (yielded ops a.tmps) = true
    · simp only [hwn, if_true] at hw ⊢
      rcases hw with hw | ⟨_, hl⟩
      · have hw2 := Oper.wp_mono (fun a' w' hh => ih' a' w' hj hh) hw
        unfold Oper.wp at hw2
        split
        · rename_i w' hr
          rw [hr] at hw2
          exact hw2.elim
        · exact hw2
      · exact absurd hl hno
    · simp only [hwn, if_false, Bool.false_eq_true] at hw ⊢
      exact ih' _ _ hj hw
/-- a region whose first operation recovers -/
theorem regionS_recover {id : Nat} {l : List Oper} (hg : o.guard = none) (hr : (execOp a.eval o).run P w = .ok .recover w') (hc : recoverD cs = some (v, cs')) (hno : ¬ LetsOut (fun e a w => Q e a cs' w))
    (h : wpList P (o :: l).toArray (fun e a w => Q e a cs' w) l (a.put o.dst v) w') : (Code.region id (o :: l).toArray false).wpS P Q a cs w := by
  refine wpS_region ?_
  rw [List.size_toArray, List.length_cons, List.range_eq_range', List.range'_succ]
  refine opsS_recover (o := o) (by simp) (by simp only [Region.wanted, hg]) hr hc ?_
  exact opsS_of_list hno l (0 + 1) _ _ (fun j => by simp [Nat.add_comm]) h
theorem regionS_recover_none {id : Nat} {l : List Oper} (hg : o.guard = none) (hr : (execOp a.eval o).run P w = .ok .recover w') (hc : recoverD cs = none) (hno : ¬ LetsOut (fun e a w => Q e a cs w))
    (h : wpList P (o :: l).toArray (fun e a w => Q e a cs w) l (a.put o.dst .nilIface) w') : (Code.region id (o :: l).toArray false).wpS P Q a cs w := by
  refine wpS_region ?_
  rw [List.size_toArray, List.length_cons, List.range_eq_range', List.range'_succ]
  refine opsS_recover_none (o := o) (by simp) (by simp only [Region.wanted, hg]) hr hc ?_
  exact opsS_of_list hno l (0 + 1) _ _ (fun j => by simp [Nat.add_comm]) h
end

set_option maxHeartbeats 4000000 in
set_option maxRecDepth 100000 in
/-- THE DEFERRED CLOSURE in a frame that panics with a clue: recovered; the answer is false. -/
theorem catch_clue (b : Nat) (x : Bool) (y0 y1 y2 : Int) (older : List PanicEntry) (w : World) (hc : w.cell? ⟨b, 0, none⟩ = some (.bool x)) (hz : w.frozen? ⟨b, 0, none⟩ = false) (hp : b < w.heap.size) :
    CallsD Try.prog 99 #[.pointer (some ⟨b, 0, none⟩)] (.panicking ({ v := .iface 65 (.agg #[.int .i64 y0, .int .i64 y1, .int .i64 y2]), recovered := false } :: older)) w fun e u' w' => e = .returned (.tuple #[]) ∧ u' = .panicking ({ v := .iface 65 (.agg #[.int .i64 y0, .int .i64 y1, .int .i64 y2]), recovered := true } :: older) ∧ w' = (w.alloc (Obj.cells #[.int .i64 y0, .int .i64 y1, .int .i64 y2] 65)).setCell ⟨b, 0, none⟩ (.bool false) := by
  have ha := fun (X : World) (xT : TypeId) => assert_yes (P := Try.prog) (w := X) (xT := xT) (v := .agg #[.int .i64 y0, .int .i64 y1, .int .i64 y2]) Try.underlying65
  refine callsD_of_wpS Try.func99 rfl fun c₀ cs hu => ?_
  apply wpS_seq
  simp only [Try.ntmps99, List.size_toArray, List.length_cons, List.length_nil, Nat.reduceAdd, Nat.reduceSub, Array.replicate_succ, Array.replicate_zero, List.push_toArray, List.append_toArray, List.nil_append, List.cons_append]
  refine regionS_recover (v := .iface 65 (.agg #[.int .i64 y0, .int .i64 y1, .int .i64 y2])) (cs' := { c₀ with mode := .panicking ({ v := .iface 65 (.agg #[.int .i64 y0, .int .i64 y1, .int .i64 y2]), recovered := true } :: older) } :: cs) (w' := w) ?hg ?hr ?hc ?hno ?hrest
  case hg => exact rfl
  case hr => simp [go_sem]
  case hc => simp [recoverD, hu]
  case hno =>
    rintro ⟨a, w, u', h, _⟩
    cases h
  case hrest =>
    simp only [Act.put]
    have c1 : (w.alloc (Obj.cells #[.int .i64 y0, .int .i64 y1, .int .i64 y2] 65)).cell? ⟨b, 0, none⟩ = some (.bool x) := (World.cell?_alloc_lt _ _ _ hp).trans hc
    have z1 : (w.alloc (Obj.cells #[.int .i64 y0, .int .i64 y1, .int .i64 y2] 65)).frozen? ⟨b, 0, none⟩ = false := (World.frozen?_alloc_old w _ ⟨b, 0, none⟩ (by show b ≠ w.heap.size; omega)).trans hz
    clear hu hp hc hz
    go_wp2
    refine wpS_of_wp ?_
    go_wp2
    exact ⟨rfl, _, rfl, .tuple #[], by simp [results, Try.results99, go_sem], rfl, rfl, rfl⟩

set_option maxHeartbeats 4000000 in
set_option maxRecDepth 100000 in
/-- in a frame that returns: nothing is recovered; the answer is true. -/
theorem catch_none (b : Nat) (x : Bool) (w : World) (hc : w.cell? ⟨b, 0, none⟩ = some (.bool x)) (hz : w.frozen? ⟨b, 0, none⟩ = false) (hp : b < w.heap.size) :
    CallsD Try.prog 99 #[.pointer (some ⟨b, 0, none⟩)] .returning w fun e u' w' => e = .returned (.tuple #[]) ∧ u' = .returning ∧ w' = (w.alloc (Obj.cells #[.int .i64 0, .int .i64 0, .int .i64 0] 65)).setCell ⟨b, 0, none⟩ (.bool true) := by
  obtain ⟨i0, hi, hz0, _, _⟩ := info_parts Try.infoClue
  have ha := fun (X : World) (xT : TypeId) => assert_nil (P := Try.prog) (w := X) (xT := xT) Try.underlying65 hi hz0
  refine callsD_of_wpS Try.func99 rfl fun c₀ cs hu => ?_
  apply wpS_seq
  simp only [Try.ntmps99, List.size_toArray, List.length_cons, List.length_nil, Nat.reduceAdd, Nat.reduceSub, Array.replicate_succ, Array.replicate_zero, List.push_toArray, List.append_toArray, List.nil_append, List.cons_append]
  refine regionS_recover_none (w' := w) ?hg ?hr ?hc ?hno ?hrest
  case hg => exact rfl
  case hr => simp [go_sem]
  case hc => simp [recoverD, hu]
  case hno =>
    rintro ⟨a, w, u', h, _⟩
    cases h
  case hrest =>
    simp only [Act.put]
    have c1 : (w.alloc (Obj.cells #[.int .i64 0, .int .i64 0, .int .i64 0] 65)).cell? ⟨b, 0, none⟩ = some (.bool x) := (World.cell?_alloc_lt _ _ _ hp).trans hc
    have z1 : (w.alloc (Obj.cells #[.int .i64 0, .int .i64 0, .int .i64 0] 65)).frozen? ⟨b, 0, none⟩ = false := (World.frozen?_alloc_old w _ ⟨b, 0, none⟩ (by show b ≠ w.heap.size; omega)).trans hz
    have Hu := Lib.hid hu
    clear hu hp hc hz
    go_wp2
    refine wpS_of_wp ?_
    go_wp2
    refine ⟨rfl, .returning, ?_, .tuple #[], by simp [results, Try.results99, go_sem], rfl, rfl, rfl⟩
    have h := Hu.out
    cases c₀
    simp only at h
    subst h
    rfl

set_option maxHeartbeats 4000000 in
set_option maxRecDepth 100000 in
theorem areClues_any (n : Int) (l : CL) (A : Option Addr) (c : Nat) (w : World) (h1 : 1 ≤ n) (h5 : n ≤ 5) (hl : l.length ≤ 1048576) (hA : CRead w w.heap.size A (ccells l)) :
    Calls Try.prog 86 #[.int .i64 n, .slice A l.length c] w fun e w' => e = .returned (.bool (l.all (isCB n))) ∧ Below w.heap.size w w' := by
  have hmf : ∀ (fn : Fn) (first cap : Array Value) (w : World), (Instr.makeFunc fn first cap).run Try.prog w = .ok (.func fn first cap) w := fun _ _ _ _ => rfl
  obtain ⟨r, hr⟩ : ∃ r, l.all (isCB n) = r := ⟨_, rfl⟩
  rw [hr]
  have Hr := Lib.hid hr
  clear hr
  generalize hn : l.length = m at *
  have Hn := Lib.hid hn
  clear hn
  go_enter_defers Try.func86, Try.ntmps86
  go_wp2
  go_loopw [10] (fun i wr => ∃ k : Nat, k ≤ m ∧ i = .int .i64 k ∧ (l.take k).all (isCB n) = true ∧ Below (w.heap.size + 1) (w.alloc (Obj.cells #[.bool false] 4)) wr) (fun i _ => m - (intOf i).toNat)
  case atStart => exact ⟨0, Nat.zero_le _, rfl, rfl, Below.refl _ _⟩
  case round =>
    obtain ⟨k, hk, rfl, hgood, hb⟩ := hrel
    have Hgood := Lib.hid hgood
    clear hgood
    have hs := hb.size
    simp only [World.size_alloc] at hs
    have hbw : Below w.heap.size w wr := Below.trans (b := _) (by go_grown) (hb.mono (by omega))
    have u0 : wr.cell? ⟨w.heap.size, 0, none⟩ = some (.bool false) := (hb.cell (p := ⟨w.heap.size, 0, none⟩) (by simp)).trans (by simp)
    have f0 : wr.frozen? ⟨w.heap.size, 0, none⟩ = false := (hb.frozen (p := ⟨w.heap.size, 0, none⟩) (by simp)).trans (by simp)
    by_cases hlt : k < m
    · obtain ⟨⟨x, y, z⟩, hx⟩ := getSome l k (by rw [Hn.out]; exact hlt)
      obtain ⟨b, off, rfl, hbb, c0, c1, c2⟩ := (hA.below hbw (Nat.le_refl _)).clue hx
      have hki : (k : Int) < (m : Int) := by omega
      have Hx := Lib.hid hx
      clear hx
      go_wp2_with fail
      refine (requireClue_any n x y z h1 h5 _).mono ?_
      rintro e w2 ⟨he, hb2⟩
      simp only [World.size_alloc] at hb2
      have hb3 : Below wr.heap.size wr w2 := Below.trans (b := _) (by go_grown) (hb2.mono (by omega))
      have hb4 := hb.trans (hb3.mono (by omega))
      have hb5 := hbw.trans (hb3.mono (by omega))
      have u2 := carry hb3 u0 (by omega)
      have f2 := (hb3.frozen (p := ⟨w.heap.size, 0, none⟩) (by show w.heap.size < wr.heap.size; omega)).trans f0
      have hs3 := hb3.size
      clear c0 c1 c2 u0 f0 hb2
      cases hq : isCB n (x, y, z) with
      | false =>
        have hall : r = false := by
          rw [← Hr.out, List.all_eq_false]
          exact ⟨_, List.mem_of_getElem? Hx.out, by simp [hq]⟩
        rw [hq, if_neg (by simp)] at he
        subst he hall
        refine leaves_cons (f := 99) (args := #[.pointer (some ⟨w.heap.size, 0, none⟩)]) (by simp) (by simp [go_sem]) ?_
        refine (catch_clue w.heap.size false x y z [] w2 u2 f2 (by omega)).mono ?_
        rintro e u' w'' ⟨rfl, rfl, rfl⟩
        have c3 : ((w2.alloc (Obj.cells #[.int .i64 x, .int .i64 y, .int .i64 z] 65)).setCell ⟨w.heap.size, 0, none⟩ (.bool false)).cell? ⟨w.heap.size, 0, none⟩ = some (.bool false) := by
          refine World.cell?_setCell_same' _ _ _ ?_
          rw [(World.cell?_alloc_lt _ _ _ (by show w.heap.size < w2.heap.size; omega)).trans u2]; rfl
        refine ⟨.bool false, by simp [results, Try.results86, go_sem, c3], rfl, (hb5.alloc (by omega) _).setCell (p := ⟨w.heap.size, 0, none⟩) (Nat.le_refl _) _⟩
      | true =>
        rw [hq, if_pos rfl] at he
        subst he
        go_wp2
        go_roundw
        case rel =>
          refine ⟨k + 1, by omega, by go_num, ?_, hb4⟩
          rw [List.take_add_one, Hx.out, List.all_append, Hgood.out]
          simp [hq]
        case measure => simp [intOf]; omega
    · have hkl : k = m := by omega
      have hall : r = true := by
        have e := Hgood.out
        rw [hkl, List.take_of_length_le (by rw [Hn.out]; exact Nat.le_refl _), Hr.out] at e
        exact e
      subst hkl hall
      have hge : ¬ ((k : Int) < k) := by omega
      have u1 : (wr.setCell ⟨w.heap.size, 0, none⟩ (.bool true)).cell? ⟨w.heap.size, 0, none⟩ = some (.bool true) := World.cell?_setCell_same' _ _ _ (by rw [u0]; rfl)
      have f1 : (wr.setCell ⟨w.heap.size, 0, none⟩ (.bool true)).frozen? ⟨w.heap.size, 0, none⟩ = false := (World.frozen?_setCell _ _ _ _).trans f0
      have U1 := Lib.hid u1
      have F1 := Lib.hid f1
      clear u1 f1
      go_wp2
      refine leaves_cons (f := 99) (args := #[.pointer (some ⟨w.heap.size, 0, none⟩)]) (by simp) (by simp [go_sem]) ?_
      refine (catch_none w.heap.size true _ U1.out F1.out (by simp; omega)).mono ?_
      rintro e u' w'' ⟨rfl, rfl, rfl⟩
      have c3 : (((wr.setCell ⟨w.heap.size, 0, none⟩ (.bool true)).alloc (Obj.cells #[.int .i64 0, .int .i64 0, .int .i64 0] 65)).setCell ⟨w.heap.size, 0, none⟩ (.bool true)).cell? ⟨w.heap.size, 0, none⟩ = some (.bool true) := by
        refine World.cell?_setCell_same' _ _ _ ?_
        rw [(World.cell?_alloc_lt _ _ _ (by simp; omega)).trans U1.out]; rfl
      refine ⟨.bool true, by simp [results, Try.results86, go_sem, c3], rfl, ?_⟩
      exact ((hbw.setCell (p := ⟨w.heap.size, 0, none⟩) (Nat.le_refl _) _).alloc (by simp; omega) _).setCell (p := ⟨w.heap.size, 0, none⟩) (Nat.le_refl _) _
set_option maxHeartbeats 1000000 in
set_option maxRecDepth 100000 in
theorem implIsClue_any (n k a b : Int) (w : World) :
    Calls Try.prog 71 #[.int .i64 n, .agg #[.int .i64 k, .int .i64 a, .int .i64 b]] w fun e w' => e = .returned (.bool (resIsClue n k a b)) ∧ Below w.heap.size w w' := by
  cases hg : isGuests n with
  | false =>
    rw [show resIsClue n k a b = false from by unfold resIsClue; rw [hg]; rfl]
    have Hg := Lib.hid hg
    clear hg
    go_enter Try.func71, Try.ntmps71
    go_wp2_with (go_at_call 85; refine (areGuests_any _ _).mono ?_; rw [Hg.out]; rintro e w' ⟨rfl, rfl⟩)
    go_ret
    exact ⟨rfl, by go_grown⟩
  | true =>
    have hp : 1 ≤ n ∧ n ≤ 5 := by simpa [isGuests, l1InB] using hg
    rw [show resIsClue n k a b = isCB n (k, a, b) from by unfold resIsClue; rw [hg]; rfl]
    have Hg := Lib.hid hg
    have call := fun (X : World) (A : Option Addr) (c : Nat) (hA : CRead X X.heap.size A (ccells [(k, a, b)])) => areClues_any n [(k, a, b)] A c X hp.1 hp.2 (by simp) hA
    simp only [List.all_cons, List.all_nil, Bool.and_true, List.length_cons, List.length_nil, Nat.zero_add] at call
    have Call := Lib.hid call
    clear hg call
    go_enter Try.func71, Try.ntmps71
    go_wp2_with (go_at_call 85; refine (areGuests_any _ _).mono ?_; rw [Hg.out]; rintro e w' ⟨rfl, rfl⟩)
    refine (Call.out _ _ _ ?_).mono ?_
    · intro j u hu
      refine ⟨w.heap.size + 1, 0, rfl, by simp, ?_⟩
      match j with
      | 0 => simp [ccells] at hu; subst hu; simp
      | 1 => simp [ccells] at hu; subst hu; simp
      | 2 => simp [ccells] at hu; subst hu; simp
      | j + 3 => simp [ccells] at hu
    rintro e w2 ⟨rfl, hb2⟩
    simp only [World.size_alloc] at hb2
    go_wp2
    go_ret
    exact ⟨rfl, Below.trans (b := _) (by go_grown) (hb2.mono (by omega))⟩
set_option maxHeartbeats 1000000 in
set_option maxRecDepth 100000 in
theorem isPuzzle_any (p : Int) (l : CL) (A : Option Addr) (c : Nat) (w : World) (hl : l.length ≤ 1048576) (hA : CRead w w.heap.size A (ccells l)) :
    Calls Try.prog 65 #[.agg #[.int .i64 p, .slice A l.length c]] w fun e w' => e = .returned (.bool (isU p l)) ∧ Below w.heap.size w w' := by
  cases hg : isGuests p with
  | false =>
    rw [show isU p l = false from by unfold isU; rw [hg]; rfl]
    have Hg := Lib.hid hg
    clear hg
    go_enter Try.func65, Try.ntmps65
    go_wp2_with (go_at_call 85; refine (areGuests_any _ _).mono ?_; rw [Hg.out]; rintro e w' ⟨rfl, rfl⟩)
    go_ret
    exact ⟨rfl, by go_grown⟩
  | true =>
    have hp : 1 ≤ p ∧ p ≤ 5 := by simpa [isGuests, l1InB] using hg
    obtain ⟨h1, h5⟩ := hp
    have Hg := Lib.hid hg
    by_cases h8 : (l.length : Int) ≤ 8
    · have he : isU p l = l.all (isCB p) := by unfold isU; rw [hg, show decide (l.length ≤ 8) = true from decide_eq_true (by omega)]; simp
      rw [he]
      clear hg he
      have hd : decide ((l.length : Int) ≤ 8) = true := decide_eq_true h8
      go_enter Try.func65, Try.ntmps65
      go_wp2_with (go_at_call 85; refine (areGuests_any _ _).mono ?_; rw [Hg.out]; rintro e w' ⟨rfl, rfl⟩)
      refine (areClues_any p l A c _ h1 h5 hl ((hA.below (B' := w.heap.size) (by go_grown) (Nat.le_refl _)).more (by go_size))).mono ?_
      rintro e w2 ⟨rfl, hb2⟩
      simp only [World.size_alloc] at hb2
      go_wp2
      go_ret
      exact ⟨rfl, Below.trans (b := _) (by go_grown) (hb2.mono (by omega))⟩
    · rw [show isU p l = false from by unfold isU; rw [show decide (l.length ≤ 8) = false from decide_eq_false (by omega)]; simp]
      clear hg
      have hd : decide ((l.length : Int) ≤ 8) = false := decide_eq_false h8
      go_enter Try.func65, Try.ntmps65
      go_wp2_with (go_at_call 85; refine (areGuests_any _ _).mono ?_; rw [Hg.out]; rintro e w' ⟨rfl, rfl⟩)
      go_ret
      exact ⟨rfl, by go_grown⟩
theorem implIsPuzzle_any (p : Int) (l : CL) (A : Option Addr) (c : Nat) (w : World) (hl : l.length ≤ 1048576) (hA : CRead w w.heap.size A (ccells l)) :
    Calls Try.prog 65 #[.agg #[.int .i64 p, .slice A l.length c]] w fun e w' => e = .returned (.bool (resIsPuzzle p l)) ∧ Below w.heap.size w w' := isPuzzle_any p l A c w hl hA
end Go.Proofs.Ytkiobefojckocaa
/-
  ALL PAIRS IN THEIR ORDER; a party's pairs are those of all that it has, in that order. Nothing here speaks of the program.
-/
namespace Go.Proofs.Ytkiobefojckocaa

def plt (a b : Int × Int) : Prop := a.1 < b.1 ∨ a.1 = b.1 ∧ a.2 < b.2
theorem plt_trans {a b c : Int × Int} (h : plt a b) (k : plt b c) : plt a c := by unfold plt at *; omega
theorem plt_irrefl (a : Int × Int) : ¬ plt a a := by unfold plt; omega
theorem plt_asymm {a b : Int × Int} (h : plt a b) : ¬ plt b a := by unfold plt at *; omega

theorem sorted_ext : ∀ {l m : PL}, l.Pairwise plt → m.Pairwise plt → (∀ q, q ∈ l ↔ q ∈ m) → l = m
  | [], [], _, _, _ => rfl
  | [], b :: m, _, _, h => by have := (h b).2 (List.mem_cons_self ..); cases this
  | a :: l, [], _, _, h => by have := (h a).1 (List.mem_cons_self ..); cases this
  | a :: l, b :: m, hl, hm, h => by
    rw [List.pairwise_cons] at hl hm
    have hab : a = b := by
      rcases List.mem_cons.1 ((h a).1 (List.mem_cons_self ..)) with e | e
      · exact e
      · rcases List.mem_cons.1 ((h b).2 (List.mem_cons_self ..)) with e' | e'
        · exact e'.symm
        · exact absurd (hm.1 a e) (plt_asymm (hl.1 b e'))
    subst hab
    rw [sorted_ext hl.2 hm.2 fun q => ?_]
    constructor
    · intro hq
      rcases List.mem_cons.1 ((h q).1 (List.mem_cons_of_mem _ hq)) with e | e
      · subst e; exact absurd (hl.1 q hq) (plt_irrefl q)
      · exact e
    · intro hq
      rcases List.mem_cons.1 ((h q).2 (List.mem_cons_of_mem _ hq)) with e | e
      · subst e; exact absurd (hm.1 q hq) (plt_irrefl q)
      · exact e

/-- what a party is, said of its list -/
def IsList (p : Int) (l : PL) : Prop := 0 ≤ p ∧ p ≤ 12 ∧ (∀ q ∈ l, 0 ≤ q.1 ∧ q.1 < q.2 ∧ q.2 < p) ∧ l.Pairwise plt
theorem isP_list {p : Int} {l : PL} (h : isP p l = true) : IsList p l := by
  have hr := isP_range h
  refine ⟨hr.1, hr.2, ?_, ?_⟩
  · intro q hq
    obtain ⟨i, hi, rfl⟩ := List.getElem_of_mem hq
    exact goodAt_pair (isP_good h hi) (List.getElem?_eq_getElem hi)
  · rw [List.pairwise_iff_getElem]
    have step : ∀ (d i : Nat) (hi : i < l.length) (hj : i + d + 1 < l.length), plt l[i] l[i + d + 1] := by
      intro d
      induction d with
      | zero => intro i hi hj; exact goodAt_less (isP_good h hj) (List.getElem?_eq_getElem (by omega)) (List.getElem?_eq_getElem hj)
      | succ d ih =>
        intro i hi hj
        exact plt_trans (ih i hi (by omega)) (goodAt_less (p := p) (l := l) (i := i + d + 1) (isP_good h (by omega)) (List.getElem?_eq_getElem (by omega)) (List.getElem?_eq_getElem (by omega)))
    intro i j hi hj hij
    have e : j = i + (j - i - 1) + 1 := by omega
    have := step (j - i - 1) i hi (by omega)
    simpa only [← e] using this
theorem isP_of_list {p : Int} {l : PL} (h : IsList p l) : isP p l = true := by
  obtain ⟨h0, h1, hm, hs⟩ := h
  refine isP_of p l h0 h1 fun i hi => ?_
  have hx : l[i]? = some (l[i].1, l[i].2) := List.getElem?_eq_getElem hi
  have hg := hm l[i] (List.getElem_mem hi)
  rcases i with _ | i
  · exact goodAt_first hx hg
  · have hx' : l[i]? = some (l[i].1, l[i].2) := List.getElem?_eq_getElem (by omega)
    exact goodAt_next hx' hx hg ((List.pairwise_iff_getElem.1 hs) i (i + 1) (by omega) hi (by omega))

def rowP (a n : Nat) : PL := (List.range' (a + 1) (n - (a + 1))).map fun b : Nat => ((a : Int), (b : Int))
def allP (n : Nat) : PL := (List.range n).flatMap fun a => rowP a n
theorem mem_rowP {a n : Nat} {q : Int × Int} : q ∈ rowP a n ↔ q.1 = a ∧ q.1 < q.2 ∧ q.2 < n := by
  obtain ⟨x, y⟩ := q
  simp only [rowP, List.mem_map, List.mem_range'_1, Prod.mk.injEq]
  constructor
  · rintro ⟨b, hb, rfl, rfl⟩; omega
  · rintro ⟨rfl, h1, h2⟩; exact ⟨y.toNat, by omega, rfl, by omega⟩
theorem mem_allP {n : Nat} {q : Int × Int} : q ∈ allP n ↔ 0 ≤ q.1 ∧ q.1 < q.2 ∧ q.2 < n := by
  simp only [allP, List.mem_flatMap, List.mem_range, mem_rowP]
  constructor
  · rintro ⟨a, ha, h1, h2, h3⟩; omega
  · rintro ⟨h0, h1, h2⟩; exact ⟨q.1.toNat, by omega, by omega, h1, h2⟩
theorem sorted_rowP (a n : Nat) : (rowP a n).Pairwise plt := by
  unfold rowP
  rw [List.pairwise_map]
  exact List.Pairwise.imp (fun {b c} h => Or.inr ⟨rfl, by omega⟩) List.pairwise_lt_range'
theorem sorted_allP (n : Nat) : (allP n).Pairwise plt := by
  unfold allP
  rw [List.pairwise_flatMap]
  refine ⟨fun a _ => sorted_rowP a n, ?_⟩
  refine List.Pairwise.imp (fun {a b} h x hx y hy => ?_) (List.pairwise_lt_range (n := n))
  have h1 := mem_rowP.1 hx
  have h2 := mem_rowP.1 hy
  exact .inl (by omega)
theorem filter_list {n : Nat} (hn : n ≤ 12) (f : Int × Int → Bool) : IsList n ((allP n).filter f) := by
  refine ⟨by omega, by omega, fun q hq => ?_, (sorted_allP n).filter _⟩
  exact mem_allP.1 (List.mem_filter.1 hq).1
theorem filter_isP {n : Nat} (hn : n ≤ 12) (f : Int × Int → Bool) : isP n ((allP n).filter f) = true := isP_of_list (filter_list hn f)
/-- A party's pairs are those of all that it has. -/
theorem isP_filter {n : Nat} {l : PL} (h : isP n l = true) : (allP n).filter (fun q => l.contains q) = l := by
  obtain ⟨_, _, hm, hs⟩ := isP_list h
  refine sorted_ext ((sorted_allP n).filter _) hs fun q => ?_
  rw [List.mem_filter, List.contains_iff_mem]
  exact ⟨fun hq => hq.2, fun hq => ⟨mem_allP.2 (hm q hq), hq⟩⟩
theorem allP_length_le {n : Nat} (hn : n ≤ 12) : (allP n).length ≤ 66 := by
  have h := isP_length (filter_isP hn fun _ => true)
  have h2 := people_sq (p := (n : Int)) (by omega) (by omega)
  rw [List.filter_eq_self.2 (by simp)] at h
  omega
theorem filter_length_le {n : Nat} (hn : n ≤ 12) (f : Int × Int → Bool) : ((allP n).filter f).length ≤ 66 := Nat.le_trans (List.length_filter_le _ _) (allP_length_le hn)
/-- The pairs before the pair (a, b) in the order. -/
def upTo (n a b : Nat) : PL := ((List.range a).flatMap fun a => rowP a n) ++ (List.range' (a + 1) (b - (a + 1))).map fun b : Nat => ((a : Int), (b : Int))
theorem upTo_start (n : Nat) : upTo n 0 1 = [] := rfl
theorem upTo_next {n a b : Nat} (h : a < b) : upTo n a (b + 1) = upTo n a b ++ [((a : Int), (b : Int))] := by
  unfold upTo
  rw [List.append_assoc, show b + 1 - (a + 1) = (b - (a + 1)) + 1 from by omega, List.range'_concat]
  simp
  omega
theorem upTo_row (n a : Nat) : upTo n a n = upTo n (a + 1) (a + 1 + 1) := by
  unfold upTo
  rw [List.range_succ, List.flatMap_append]
  simp [rowP]
theorem upTo_begin (n a : Nat) : upTo n a (a + 1) = (List.range a).flatMap fun a => rowP a n := by simp [upTo]
theorem upTo_all (n : Nat) : upTo n n (n + 1) = allP n := by rw [upTo_begin]; rfl
end Go.Proofs.Ytkiobefojckocaa
/-
  TABLES OF WHO IS WHOSE FRIEND, in memory of the call's own: one row of rows.
-/
namespace Go.Proofs.Ytkiobefojckocaa
open Go.RowKit

def upd (t : Nat → Nat → Bool) (a b : Nat) (x : Bool) : Nat → Nat → Bool := fun i j => if i = a ∧ j = b then x else t i j
def adj (l : PL) (i j : Nat) : Bool := l.contains ((i : Int), (j : Int)) || l.contains ((j : Int), (i : Int))
theorem adj_nil : adj [] = fun _ _ => false := rfl
theorem adj_snoc (l : PL) (a b : Nat) : adj (l ++ [((a : Int), (b : Int))]) = upd (upd (adj l) a b true) b a true := by
  funext i j
  simp only [adj, upd, List.contains_append, List.contains_cons, List.contains_nil, Bool.or_false]
  have e1 : (((i : Int), (j : Int)) == ((a : Int), (b : Int))) = decide (i = a ∧ j = b) := by rw [Bool.eq_iff_iff]; simp; omega
  have e2 : (((j : Int), (i : Int)) == ((a : Int), (b : Int))) = decide (i = b ∧ j = a) := by rw [Bool.eq_iff_iff]; simp; omega
  rw [e1, e2]
  by_cases h1 : i = b ∧ j = a
  · simp [h1]
  · by_cases h2 : i = a ∧ j = b
    · simp [h2]
    · simp [h1, h2]
theorem adj_pair {n : Nat} {l : PL} (h : isP n l = true) {i j : Nat} (hij : i < j) : adj l i j = l.contains ((i : Int), (j : Int)) := by
  unfold adj
  have : l.contains ((j : Int), (i : Int)) = false := by
    rw [Bool.eq_false_iff]
    intro hc
    rw [List.contains_iff_mem] at hc
    have := (isP_list h).2.2.1 _ hc
    simp at this
    omega
  rw [this, Bool.or_false]
theorem adj_comm (l : PL) (i j : Nat) : adj l i j = adj l j i := by unfold adj; rw [Bool.or_comm]

/-- k rows of n bools each, row i in block G i, under the slice v. -/
structure TabG (w : World) (B : Nat) (v : Value) (k n : Nat) (G : Nat → Nat) (t : Nat → Nat → Bool) : Prop where
  own : w.ownsRow B 87 1 v k ((List.range k).map fun i => Value.slice (some ⟨G i, 0, none⟩) n n)
  row : ∀ i, i < k → B ≤ G i ∧ w.rowIs (G i) 4 n (fun j => .bool (t i j))
  inj : ∀ i j, i < k → j < k → G i = G j → i = j
section
variable {w w' : World} {B k n : Nat} {v : Value} {G : Nat → Nat} {t t' : Nat → Nat → Bool}
theorem TabG.congr (h : TabG w B v k n G t) (e : ∀ i j, i < k → j < n → t i j = t' i j) : TabG w B v k n G t' :=
  ⟨h.own, fun i hi => ⟨(h.row i hi).1, (h.row i hi).2.congr fun j hj => by rw [e i j hi hj]⟩, h.inj⟩
theorem TabG.of_blocks (h : TabG w B v k n G t) (hg : w.grownBy w' none) : TabG w' B v k n G t :=
  ⟨h.own.kept hg (by cases v.ownBlock <;> simp), fun i hi => ⟨(h.row i hi).1, (h.row i hi).2.of_block (hg.block _ (h.row i hi).2.lt (by simp))⟩, h.inj⟩
theorem TabG.alloc (h : TabG w B v k n G t) (o : Obj) : TabG (w.alloc o) B v k n G t := h.of_blocks (World.grownBy_alloc w o none)
theorem TabG.below (h : TabG w B v k n G t) {B' : Nat} (hb : Below B' w w') (hB : w.heap.size ≤ B') : TabG w' B v k n G t := h.of_blocks (below_grownBy hb hB none)
theorem TabG.lower (h : TabG w B v k n G t) {B' : Nat} (hB : B' ≤ B) : TabG w B' v k n G t := ⟨own_lower h.own hB, fun i hi => ⟨Nat.le_trans hB (h.row i hi).1, (h.row i hi).2⟩, h.inj⟩
theorem TabG.cell (h : TabG w B v k n G t) {i j : Nat} (hi : i < k) (hj : j < n) : w.cell? ⟨G i, j, none⟩ = some (.bool (t i j)) := (h.row i hi).2.cell hj
theorem TabG.frozen (h : TabG w B v k n G t) {i : Nat} (hi : i < k) (j : Nat) : w.frozen? ⟨G i, j, none⟩ = false := (h.row i hi).2.frozen j
theorem TabG.blk (h : TabG w B v k n G t) {i : Nat} (hi : i < k) : B ≤ G i ∧ G i < w.heap.size := ⟨(h.row i hi).1, (h.row i hi).2.lt⟩
theorem TabG.outer {g c : Nat} (h : TabG w B (.slice (some ⟨g, 0, none⟩) k c) k n G t) {i : Nat} (hi : i < k) : w.cell? ⟨g, i, none⟩ = some (.slice (some ⟨G i, 0, none⟩) n n) := by
  rw [h.own.cellAt i (by omega)]
  simp [hi]
theorem row_ne_own {e b t : Nat} {size m : Nat} {xs : List Value} {f : Nat → Value} (h : w.ownsRow B e size v m xs) (hr : w.rowIs b t n f) (hne : e ≠ t) : v.ownBlock ≠ some b := by
  rcases h.2 with ⟨rfl, _⟩ | ⟨g, cap, cur, rfl, _, hh, _⟩
  · simp [Value.ownBlock]
  · intro e
    have hgb : g = b := by simpa [Value.ownBlock] using e
    subst hgb
    obtain ⟨c, hc, _⟩ := hr
    rw [hh] at hc
    injection hc with hc
    injection hc with _ ht
    exact hne ht
/-- a store into the table -/
theorem TabG.set (h : TabG w B v k n G t) {a b : Nat} (ha : a < k) (x : Bool) : TabG (w.setCell ⟨G a, b, none⟩ (.bool x)) B v k n G (upd t a b x) := by
  have hne := row_ne_own h.own (h.row a ha).2 (by decide)
  have hg : w.grownBy (w.setCell ⟨G a, b, none⟩ (.bool x)) (some (G a)) := ⟨rfl, rfl, rfl, by simp, fun i _ hi => Below.heap_setCell w _ _ i (fun e => hi (by rw [e]))⟩
  refine ⟨h.own.kept hg (.inr hne), fun i hi => ⟨(h.row i hi).1, ?_⟩, h.inj⟩
  by_cases e : i = a
  · subst e
    exact ((h.row i hi).2.set b (.bool x)).congr fun j _ => by
      unfold upd
      by_cases hj : j = b <;> simp [hj]
  · have hG : G i ≠ G a := fun hh => e (h.inj i a hi ha hh)
    exact ((h.row i hi).2.setOther (a := ⟨G a, b, none⟩) hG _).congr fun j _ => by unfold upd; simp [e]
/-- one row more -/
theorem TabG.push {W : World} {v' : Value} (h : TabG W B v k n G (fun _ _ => false)) (hB : B ≤ W.heap.size) {o : Obj} (hg : ((W.alloc (.cells (madeCells #[.bool false] n) 4)).alloc o).grownBy w' v.ownBlock)
    (hown : w'.ownsRow B 87 1 v' (k + 1) (((List.range k).map fun i => Value.slice (some ⟨G i, 0, none⟩) n n) ++ [.slice (some ⟨W.heap.size, 0, none⟩) n n])) :
    TabG w' B v' (k + 1) n (fun i => if i < k then G i else W.heap.size) (fun _ _ => false) := by
  have h2 := (h.alloc (.cells (madeCells #[.bool false] n) 4)).alloc o
  have hnew : ((W.alloc (.cells (madeCells #[.bool false] n) 4)).alloc o).rowIs W.heap.size 4 n (fun _ => .bool false) := (World.rowIs_made W (.bool false) n 4).alloc o
  have hne : ∀ b f, ((W.alloc (.cells (madeCells #[.bool false] n) 4)).alloc o).rowIs b 4 n f → w'.rowIs b 4 n f := fun b f hr =>
    hr.of_block (hg.block b hr.lt (fun e => row_ne_own h2.own hr (by decide) e.symm))
  refine ⟨?_, fun i hi => ?_, fun i j hi hj e => ?_⟩
  · have : (List.range (k + 1)).map (fun i => Value.slice (some ⟨if i < k then G i else W.heap.size, 0, none⟩) n n) = ((List.range k).map fun i => Value.slice (some ⟨G i, 0, none⟩) n n) ++ [.slice (some ⟨W.heap.size, 0, none⟩) n n] := by
      rw [List.range_succ, List.map_append]
      congr 1
      · exact List.map_congr_left fun i hi => by simp [List.mem_range.1 hi]
      · simp
    rw [this]
    exact hown
  · by_cases hik : i < k
    · simp only [hik, if_true]
      exact ⟨(h.row i hik).1, hne _ _ (h2.row i hik).2⟩
    · simp only [hik, if_false]
      exact ⟨hB, hne _ _ hnew⟩
  · by_cases hik : i < k <;> by_cases hjk : j < k <;> simp only [hik, hjk, if_true, if_false] at e
    · exact h.inj i j hik hjk e
    · have := (h.row i hik).2.lt; omega
    · have := (h.row j hjk).2.lt; omega
    · omega
theorem TabG.nil (w : World) (B n : Nat) (G : Nat → Nat) (t : Nat → Nat → Bool) : TabG w B (.slice none 0 0) 0 n G t := ⟨World.ownsRow_nil _ _ _ _, fun i hi => by omega, fun i j hi => by omega⟩
end
theorem own_cap {w : World} {base : Nat} {e : TypeId} {size n c : Nat} {A : Option Addr} {xs : List Value} (h : w.ownsRow base e size (.slice A n c) n xs) : n ≤ c := by
  rcases h.2 with ⟨h1, h2⟩ | ⟨g, cap, cur, hv, _, _, hm, _, _⟩
  · omega
  · simp only [Value.slice.injEq] at hv
    omega
theorem own_shape {w : World} {B : Nat} {e : TypeId} {size m : Nat} {v : Value} {xs : List Value} (h : w.ownsRow B e size v m xs) : ∃ A c, v = .slice A m c ∧ m ≤ c + 0 ∧ c ≤ maxLen := by
  rcases h.2 with ⟨rfl, rfl⟩ | ⟨g, cap, cur, rfl, _, _, hm, hc, _⟩
  · exact ⟨none, 0, rfl, Nat.le_refl _, by simp [maxLen]⟩
  · exact ⟨_, cap, rfl, hm, hc⟩
/-- the one cell of a slice that was built for an append -/
theorem one_cell {w : World} {g : Nat} {v : Value} (h : w.cell? ⟨g, 0, none⟩ = some v) : ∀ j u, [v][j]? = some u → w.cell? ((⟨g, 0, none⟩ : Addr).add j) = some u := by
  intro j u hu
  match j, hu with
  | 0, hu => simp at hu; subst hu; simpa [Addr.add] using h
theorem one_one {v : Value} (h : v.oneCell' = true) : ∀ u ∈ [v], u.oneCell' = true := by
  intro u hu
  simp at hu
  subst hu
  exact h
/-- A call came back with a table. -/
def GotTab (w : World) (n : Nat) (t : Nat → Nat → Bool) (e : Ending) (w' : World) : Prop :=
  ∃ A c G, e = .returned (.slice A n c) ∧ TabG w' w.heap.size (.slice A n c) n n G t ∧ Below w.heap.size w w'
end Go.Proofs.Ytkiobefojckocaa
/-
  A CLUE LESS: the model's list without a clue ('pzWithout'), 'DropClue' of the model and of the program, by their contracts.
-/
namespace Go.Proofs.Ytkiobefojckocaa
open Go.RowKit

/-- an append in a region that draws its order, whatever the number -/
theorem step_append_any {P : Program} {w : World} {ops : Array Oper} {o : Oper} {a : Act} {K : Act → World → Prop} {Q : Exit → Act → World → Prop} {E : Prop} (hgd : o.guard = none) (s x : Operand) (t : TypeId)
    (ho : o.op = .call { callee := .builtin .append, args := #[s, x], argTypes := #[t, t] })
    (base : Nat) (e : TypeId) (i : TypeInfo) (z : Value) (size bytes : Nat) (ht : P.underlying t = some (.slice e)) (hi : P.info? e = some i) (hz : i.zero = some z)
    (hsize : i.size = size) (hby : i.bytes = bytes) (hzs : z.cells.size = size) (hsz : 0 < size)
    (v : Value) (n : Nat) (xs : List Value) (hs : a.eval s = v) (hown : w.ownsRow base e size v n xs)
    (ad : Addr) (m c : Nat) (news : List Value) (hx : a.eval x = .slice (some ad) m c) (hl : news.length = m * size) (hnews : ∀ j u, news[j]? = some u → w.cell? (ad.add j) = some u) (h1 : ∀ u ∈ news, u.oneCell' = true)
    (h63 : n + m ≤ maxLen) (hbytes : (n + m) * bytes ≤ 140737488355328) (hbase : base ≤ w.heap.size)
    (h : ∀ v' w', w'.ownsRow base e size v' (n + m) (xs ++ news) → w.grownBy w' v.ownBlock → K (a.put o.dst v') w') :
    if Region.wanted o (yielded ops a.tmps) = true then Oper.wp P o a w K Q else E := by
  have hw : Region.wanted o (yielded ops a.tmps) = true := by simp [Region.wanted, hgd]
  rw [if_pos hw]
  exact wp_append_own w s x t ho base e i z size bytes ht hi hz hsize hby hzs hsz v n xs hs hown ad m c news hx hl hnews h1 h63 hbytes hbase fun v' w' h2 h3 _ => h v' w' h2 h3

/-- the list without the clue with an index -/
def withoutC (l : CL) (k : Nat) : CL := l.take k ++ l.drop (k + 1)
def resDropClue (p : Int) (l : CL) (k : Int) : Int × CL × Bool := if isU p l && (decide (0 ≤ k) && decide (k < l.length)) then (p, withoutC l k.toNat, true) else (0, [], false)
theorem withoutC_len (l : CL) (k : Nat) : (withoutC l k).length ≤ l.length := by
  unfold withoutC
  rw [List.length_append, List.length_take, List.length_drop]
  omega
theorem resDropClue_len (p : Int) (l : CL) (k : Int) : (resDropClue p l k).2.1.length ≤ 1048576 := by
  unfold resDropClue
  split
  · rename_i h
    rw [Bool.and_eq_true] at h
    have h1 := isU_parts h.1
    have h2 := withoutC_len l k.toNat
    simp only
    omega
  · simp
/-- where a cut off tail lies -/
def tailAt (a : Addr) (c k : Nat) : Addr := if c = k then a else a.add (k * 3)
theorem tail_cells {w : World} {B : Nat} {l : CL} {b off c k : Nat} (hA : CRead w B (some ⟨b, off, none⟩) (ccells l)) (hk : k ≤ l.length) (hc : l.length ≤ c) : ∀ j u, (ccells (l.drop k))[j]? = some u → w.cell? ((tailAt ⟨b, off, none⟩ c k).add j) = some u := by
  intro j u hu
  have hj : j < (ccells (l.drop k)).length := (List.getElem?_eq_some_iff.1 hu).1
  rw [ccells_length, List.length_drop] at hj
  have hne : c ≠ k := by omega
  have hu2 : (ccells l)[k * 3 + j]? = some u := by
    have e : ccells l = ccells (l.take k) ++ ccells (l.drop k) := by rw [← ccells_append, List.take_append_drop]
    rw [e, List.getElem?_append_right (by rw [ccells_length, List.length_take]; omega), ccells_length, List.length_take]
    rwa [show k * 3 + j - min k l.length * 3 = j by omega]
  obtain ⟨b', off', e, _, h⟩ := hA _ _ hu2
  simp only [Option.some.injEq, Addr.mk.injEq, and_true] at e
  unfold tailAt
  rw [if_neg hne, Go.WideShapes.add_plain, Go.WideShapes.add_plain, Nat.add_assoc, e.1, e.2]
  exact h
theorem head_cells {w : World} {B : Nat} {l : CL} {b off k : Nat} (hA : CRead w B (some ⟨b, off, none⟩) (ccells l)) (hk : k ≤ l.length) : ∀ j u, (ccells (l.take k))[j]? = some u → w.cell? ((⟨b, off, none⟩ : Addr).add j) = some u := by
  intro j u hu
  have hj : j < (ccells (l.take k)).length := (List.getElem?_eq_some_iff.1 hu).1
  have hu2 : (ccells l)[j]? = some u := by
    have e : ccells l = ccells (l.take k) ++ ccells (l.drop k) := by rw [← ccells_append, List.take_append_drop]
    rw [e, List.getElem?_append_left hj]
    exact hu
  obtain ⟨b', off', e, _, h⟩ := hA _ _ hu2
  simp only [Option.some.injEq, Addr.mk.injEq, and_true] at e
  rw [Go.WideShapes.add_plain, e.1, e.2]
  exact h
theorem CRead.caddr {w : World} {B : Nat} {A : Option Addr} {l : CL} (h : CRead w B A (ccells l)) (hn : 0 < l.length) : ∃ b off, A = some ⟨b, off, none⟩ := by
  obtain ⟨q, hq⟩ := getSome l 0 hn
  obtain ⟨b, off, e, _⟩ := h.clue (k := 0) (x := q.1) (y := q.2.1) (z := q.2.2) hq
  exact ⟨b, off, e⟩

theorem box2_set {w : World} {b : Nat} {u0 u1 : Value} (v0 v1 : Value) (r0 : w.cell? ⟨b, 0, none⟩ = some u0) (r1 : w.cell? ⟨b, 1, none⟩ = some u1) :
    ((w.setCell ⟨b, 0, none⟩ v0).setCell ⟨b, 1, none⟩ v1).cell? ⟨b, 0, none⟩ = some v0 ∧ ((w.setCell ⟨b, 0, none⟩ v0).setCell ⟨b, 1, none⟩ v1).cell? ⟨b, 1, none⟩ = some v1 := by
  constructor
  · rw [World.cell?_setCell_other _ _ _ _ (by simp)]
    exact World.cell?_setCell_same' _ _ _ (by rw [r0]; rfl)
  · exact World.cell?_setCell_same' _ _ _ (by rw [World.cell?_setCell_other _ _ _ _ (by simp), r1]; rfl)
set_option maxHeartbeats 4000000 in
set_option maxRecDepth 100000 in
theorem pzWithout_any (l : CL) (A : Option Addr) (c k : Nat) (w : World) (hk : k < l.length) (hl : l.length ≤ 1048576) (hc : l.length ≤ c) (hA : CRead w w.heap.size A (ccells l)) :
    Calls Try.prog 63 #[.slice A l.length c, .int .i64 k] w fun e w' => ∃ A' c', e = .returned (.slice A' (withoutC l k).length c') ∧ w'.ownsRow w.heap.size 65 3 (.slice A' (withoutC l k).length c') (withoutC l k).length (ccells (withoutC l k)) ∧ Below w.heap.size w w' := by
  obtain ⟨i0, hi, hz0, hz1, hz2⟩ := info_parts Try.infoClue
  obtain ⟨b, off, rfl⟩ := hA.caddr (by omega)
  have hnews1 := fun (X : World) (hX : Below w.heap.size w X) => head_cells (k := k) (hA.below hX (Nat.le_refl _)) (by omega)
  have hnews2 := fun (X : World) (hX : Below w.heap.size w X) => tail_cells (k := k + 1) (c := c) (hA.below hX (Nat.le_refl _)) (by omega) hc
  have hcells : ccells (withoutC l k) = ccells (l.take k) ++ ccells (l.drop (k + 1)) := ccells_append _ _
  have hlen : (withoutC l k).length = k + (l.length - (k + 1)) := by unfold withoutC; rw [List.length_append, List.length_take, List.length_drop]; omega
  have hl1 : (ccells (l.take k)).length = k * 3 := by rw [ccells_length, List.length_take]; omega
  have hl2 : (ccells (l.drop (k + 1))).length = (l.length - (k + 1)) * 3 := by rw [ccells_length, List.length_drop]
  obtain ⟨ta, hta⟩ : ∃ ta, tailAt ⟨b, off, none⟩ c (k + 1) = ta := ⟨_, rfl⟩
  rw [hta] at hnews2
  generalize hn : l.length = n at *
  have Hcells := Lib.hid hcells
  have Hlen := Lib.hid hlen
  have Hn1 := Lib.hid hnews1
  have Hn2 := Lib.hid hnews2
  have hki : (k : Int) < n := by omega
  have hwr : IntKind.i64.wrap ((k : Int) + 1) = (k : Int) + 1 := by rw [IntKind.wrap_i64]; omega
  have hwb : (0 : Int) ≤ (k : Int) + 1 ∧ (k : Int) + 1 ≤ n := by omega
  have htn : ((k : Int) + 1).toNat = k + 1 := by omega
  have hkc : (k : Int) ≤ c := by omega
  have hkk : (k : Int) ≤ (k : Int) + 1 := by omega
  clear hcells hlen hnews1 hnews2 hA
  by_cases hck : c = k + 1
  · have hta' : ta = ⟨b, off, none⟩ := by rw [← hta]; unfold tailAt; rw [if_pos hck]
    subst hta'
    clear hta
    go_enter Try.func63, Try.ntmps63
    go_wp2
    have own0 : (w.drew.alloc (.cells #[] 65)).ownsRow w.heap.size 65 3 (.slice (some ⟨w.heap.size, 0, none⟩) 0 0) 0 [] := World.ownsRow_made (base := w.heap.size) w.drew #[] 0 (Nat.le_refl _) (Nat.zero_le _) rfl
    have own0' : ((w.alloc (.cells #[] 65)).drew).ownsRow w.heap.size 65 3 (.slice (some ⟨w.heap.size, 0, none⟩) 0 0) 0 [] := World.ownsRow_made (base := w.heap.size) w #[] 0 (Nat.le_refl _) (Nat.zero_le _) rfl
    have kd : Below w.heap.size w (w.alloc (.cells #[] 65)).drew := ((Below.refl _ _).alloc (Nat.le_refl _) _).drew
    go_region_law (first
      | (refine step_append_any (by rfl) _ _ _ (by rfl) w.heap.size 65 i0 _ 3 24 Try.underlying53 hi hz0 hz1 hz2 (by rfl) (by decide) (.slice (some ⟨w.heap.size, 0, none⟩) 0 0) 0 [] (by rfl) own0 ⟨b, off, none⟩ k _ (ccells (l.take k)) (by rfl) hl1 (Hn1.out _ (by first | go_grown | exact kd)) (ccells_one _) (by unfold maxLen; omega) (by omega) (by first | simp | exact kd.size) ?_; intro v1 w1 own1 gr1; have s1 := gr1.size; have k1 : Below w.heap.size w w1 := (by first | exact ((Below.refl _ _).drew.alloc (Nat.le_refl _) _).grown gr1 (by simp) (fun j hj => by simp [Value.ownBlock] at hj; omega) | exact kd.grown gr1 kd.size (fun j hj => by simp [Value.ownBlock] at hj; omega)))
      | (refine step_append_any (by rfl) _ _ _ (by rfl) w.heap.size 65 i0 _ 3 24 Try.underlying53 hi hz0 hz1 hz2 (by rfl) (by decide) (.slice (some ⟨w.heap.size, 0, none⟩) 0 0) 0 [] (by rfl) own0' ⟨b, off, none⟩ k _ (ccells (l.take k)) (by rfl) hl1 (Hn1.out _ (by first | go_grown | exact kd)) (ccells_one _) (by unfold maxLen; omega) (by omega) (by first | simp | exact kd.size) ?_; intro v1 w1 own1 gr1; have s1 := gr1.size; have k1 : Below w.heap.size w w1 := (by first | exact ((Below.refl _ _).drew.alloc (Nat.le_refl _) _).grown gr1 (by simp) (fun j hj => by simp [Value.ownBlock] at hj; omega) | exact kd.grown gr1 kd.size (fun j hj => by simp [Value.ownBlock] at hj; omega)))
      | (refine step_append_any (by rfl) _ _ _ (by rfl) w.heap.size 65 i0 _ 3 24 Try.underlying53 hi hz0 hz1 hz2 (by rfl) (by decide) _ (0 + k) _ (by rfl) own1 _ (n - (k + 1)) _ (ccells (l.drop (k + 1))) (by rfl) hl2 (Hn2.out _ k1) (ccells_one _) (by unfold maxLen; omega) (by omega) k1.size ?_; intro v2 w2 own2 gr2; have k2 : Below w.heap.size w w2 := k1.grown gr2 k1.size (fun j hj => (own1.lt j hj).1))
      | fail)
    all_goals
      rw [Nat.zero_add, List.nil_append, ← Hcells.out, ← Hlen.out] at own2
      obtain ⟨A2, c2, rfl, _⟩ := own_shape own2
      clear own0 own0' own1 gr1 gr2 k1 kd
      go_wp2_with fail
      go_ret
      exact ⟨A2, c2, rfl, own2, k2⟩
  · have hta' : ta = ⟨b, off + (k + 1) * 3, none⟩ := by rw [← hta]; unfold tailAt; rw [if_neg hck, Go.WideShapes.add_plain]
    subst hta'
    clear hta
    go_enter Try.func63, Try.ntmps63
    go_wp2
    have own0 : (w.drew.alloc (.cells #[] 65)).ownsRow w.heap.size 65 3 (.slice (some ⟨w.heap.size, 0, none⟩) 0 0) 0 [] := World.ownsRow_made (base := w.heap.size) w.drew #[] 0 (Nat.le_refl _) (Nat.zero_le _) rfl
    have own0' : ((w.alloc (.cells #[] 65)).drew).ownsRow w.heap.size 65 3 (.slice (some ⟨w.heap.size, 0, none⟩) 0 0) 0 [] := World.ownsRow_made (base := w.heap.size) w #[] 0 (Nat.le_refl _) (Nat.zero_le _) rfl
    have kd : Below w.heap.size w (w.alloc (.cells #[] 65)).drew := ((Below.refl _ _).alloc (Nat.le_refl _) _).drew
    go_region_law (first
      | (refine step_append_any (by rfl) _ _ _ (by rfl) w.heap.size 65 i0 _ 3 24 Try.underlying53 hi hz0 hz1 hz2 (by rfl) (by decide) (.slice (some ⟨w.heap.size, 0, none⟩) 0 0) 0 [] (by rfl) own0 ⟨b, off, none⟩ k _ (ccells (l.take k)) (by rfl) hl1 (Hn1.out _ (by first | go_grown | exact kd)) (ccells_one _) (by unfold maxLen; omega) (by omega) (by first | simp | exact kd.size) ?_; intro v1 w1 own1 gr1; have s1 := gr1.size; have k1 : Below w.heap.size w w1 := (by first | exact ((Below.refl _ _).drew.alloc (Nat.le_refl _) _).grown gr1 (by simp) (fun j hj => by simp [Value.ownBlock] at hj; omega) | exact kd.grown gr1 kd.size (fun j hj => by simp [Value.ownBlock] at hj; omega)))
      | (refine step_append_any (by rfl) _ _ _ (by rfl) w.heap.size 65 i0 _ 3 24 Try.underlying53 hi hz0 hz1 hz2 (by rfl) (by decide) (.slice (some ⟨w.heap.size, 0, none⟩) 0 0) 0 [] (by rfl) own0' ⟨b, off, none⟩ k _ (ccells (l.take k)) (by rfl) hl1 (Hn1.out _ (by first | go_grown | exact kd)) (ccells_one _) (by unfold maxLen; omega) (by omega) (by first | simp | exact kd.size) ?_; intro v1 w1 own1 gr1; have s1 := gr1.size; have k1 : Below w.heap.size w w1 := (by first | exact ((Below.refl _ _).drew.alloc (Nat.le_refl _) _).grown gr1 (by simp) (fun j hj => by simp [Value.ownBlock] at hj; omega) | exact kd.grown gr1 kd.size (fun j hj => by simp [Value.ownBlock] at hj; omega)))
      | (refine step_append_any (by rfl) _ _ _ (by rfl) w.heap.size 65 i0 _ 3 24 Try.underlying53 hi hz0 hz1 hz2 (by rfl) (by decide) _ (0 + k) _ (by rfl) own1 _ (n - (k + 1)) _ (ccells (l.drop (k + 1))) (by rfl) hl2 (Hn2.out _ k1) (ccells_one _) (by unfold maxLen; omega) (by omega) k1.size ?_; intro v2 w2 own2 gr2; have k2 : Below w.heap.size w w2 := k1.grown gr2 k1.size (fun j hj => (own1.lt j hj).1))
      | fail)
    all_goals
      rw [Nat.zero_add, List.nil_append, ← Hcells.out, ← Hlen.out] at own2
      obtain ⟨A2, c2, rfl, _⟩ := own_shape own2
      clear own0 own0' own1 gr1 gr2 k1 kd
      go_wp2_with fail
      go_ret
      exact ⟨A2, c2, rfl, own2, k2⟩
set_option maxHeartbeats 4000000 in
set_option maxRecDepth 100000 in
theorem specDropClue_any (p : Int) (l : CL) (A : Option Addr) (c : Nat) (k : Int) (w : World) (hl : l.length ≤ 1048576) (hA : CRead w w.heap.size A (ccells l)) (hc : l.length ≤ c) :
    Calls Try.prog 32 #[.agg #[.int .i64 p, .slice A l.length c], .int .i64 k] w (GotPuzzleOk w (resDropClue p l k).1 (resDropClue p l k).2.1 (resDropClue p l k).2.2) := by
  have hgood := fun (Y : World) (hY : Below w.heap.size w Y) => pzGood_any p l A c Y hl ((hA.below hY (Nat.le_refl _)).more hY.size)
  have hwo := fun (k' : Nat) (hk : k' < l.length) (Y : World) (hY : Below w.heap.size w Y) => pzWithout_any l A c k' Y hk hl hc ((hA.below hY (Nat.le_refl _)).more hY.size)
  obtain ⟨R, hR⟩ : ∃ R, resDropClue p l k = R := ⟨_, rfl⟩
  rw [hR]
  generalize hn : l.length = n at *
  have Good := Lib.hid hgood
  have Wo := Lib.hid hwo
  have hunf := hR
  unfold resDropClue at hunf
  rw [hn] at hunf
  clear hgood hwo hA hR hc hn
  cases hp : isU p l with
  | false =>
    have hRe : R = (0, [], false) := by rw [← hunf, hp]; rfl
    subst hRe
    have Hp := Lib.hid hp
    clear hp hunf
    go_enter Try.func32, Try.ntmps32
    go_wp2_with fail
    refine (Good.out _ (by go_grown)).mono ?_
    rw [Hp.out]
    rintro e w2 ⟨rfl, hb2⟩
    have r0 : w2.cell? ⟨w.heap.size + 1, 0, none⟩ = some (.int .i64 0) := carry hb2 (by simp) (by simp)
    have r1 : w2.cell? ⟨w.heap.size + 1, 1, none⟩ = some (.slice none 0 0) := carry hb2 (by simp) (by simp)
    have f0 : w2.frozen? ⟨w.heap.size + 1, 0, none⟩ = false := (hb2.frozen (p := ⟨w.heap.size + 1, 0, none⟩) (by simp)).trans (by simp)
    have f1 : w2.frozen? ⟨w.heap.size + 1, 1, none⟩ = false := (hb2.frozen (p := ⟨w.heap.size + 1, 1, none⟩) (by simp)).trans (by simp)
    simp only [World.size_alloc] at hb2
    have k2 : Below w.heap.size w w2 := Below.trans (b := _) (by go_grown) (hb2.mono (by omega))
    clear hb2
    go_wp2
    obtain ⟨z0, z1⟩ := box2_set (.int .i64 0) (.slice none 0 0) r0 r1
    refine bodyPost_ret (v := .tuple #[.agg #[.int .i64 0, .slice none 0 0], .bool false]) (by simp [results, Try.results32, go_sem, z0, z1]) rfl ?_
    exact ⟨none, 0, rfl, World.ownsRow_nil _ _ _ _, (k2.setCell (by simp) _).setCell (by simp) _⟩
  | true =>
    have hp8 := isU_parts hp
    by_cases hk : 0 ≤ k ∧ k < n
    · obtain ⟨k', rfl⟩ : ∃ k' : Nat, k = k' := ⟨k.toNat, by omega⟩
      have hRe : R = (p, withoutC l k', true) := by rw [← hunf, hp, decide_eq_true hk.1, decide_eq_true hk.2]; rfl
      subst hRe
      have hin : l1InB (k' : Int) 0 ((n : Int) - 1) = true := decide_eq_true ⟨by omega, by omega⟩
      have hwl := withoutC_len l k'
      have Wo' := Lib.hid (Wo.out k' (by omega))
      obtain ⟨M, hM⟩ : ∃ M, withoutC l k' = M := ⟨_, rfl⟩
      have wo' := Wo'.out
      rw [hM] at wo' hwl ⊢
      have Wo2 := Lib.hid wo'
      have Hp := Lib.hid hp
      have Hin := Lib.hid hin
      clear hp hunf Wo Wo' wo' hM hin
      go_enter Try.func32, Try.ntmps32
      go_wp2_with fail
      refine (Good.out _ (by go_grown)).mono ?_
      rw [Hp.out]
      rintro e w2 ⟨rfl, hb2⟩
      have r0 : w2.cell? ⟨w.heap.size + 1, 0, none⟩ = some (.int .i64 0) := carry hb2 (by simp) (by simp)
      have r1 : w2.cell? ⟨w.heap.size + 1, 1, none⟩ = some (.slice none 0 0) := carry hb2 (by simp) (by simp)
      have f0 : w2.frozen? ⟨w.heap.size + 1, 0, none⟩ = false := (hb2.frozen (p := ⟨w.heap.size + 1, 0, none⟩) (by simp)).trans (by simp)
      have f1 : w2.frozen? ⟨w.heap.size + 1, 1, none⟩ = false := (hb2.frozen (p := ⟨w.heap.size + 1, 1, none⟩) (by simp)).trans (by simp)
      have c0 : w2.cell? ⟨w.heap.size, 0, none⟩ = some (.int .i64 p) := carry hb2 ((World.cell?_alloc_lt _ _ _ (by simp)).trans (by simp)) (by simp; omega)
      have c1 : w2.cell? ⟨w.heap.size, 1, none⟩ = some (.slice A n c) := carry hb2 ((World.cell?_alloc_lt _ _ _ (by simp)).trans (by simp)) (by simp; omega)
      have s2 := hb2.size
      simp only [World.size_alloc] at hb2 s2
      have k2 : Below w.heap.size w w2 := Below.trans (b := _) (by go_grown) (hb2.mono (by omega))
      clear hb2
      go_wp2_with (go_at_call 62; refine (l1In_any _ _ _ _).mono ?_; rw [Hin.out]; rintro e w4 ⟨rfl, rfl⟩)
      have k2d : Below w2.heap.size w2 w2.drew := (Below.refl _ _).drew
      go_region_law (first | (go_simp; go_at_call 63; refine (Wo2.out _ k2.drew).mono ?_; rintro e w5 ⟨A5, c5, rfl, own5, hb5⟩; have g5 : Below w2.heap.size w2 w5 := k2d.trans hb5; have q0 := carry g5 c0 (by omega); have q1 := carry g5 c1 (by omega); have p0 := carry g5 r0 (by omega); have p1 := carry g5 r1 (by omega); have e0 := (g5.frozen (p := ⟨w.heap.size + 1, 0, none⟩) (by simp; omega)).trans f0; have e1 := (g5.frozen (p := ⟨w.heap.size + 1, 1, none⟩) (by simp; omega)).trans f1; have s5 := g5.size) | fail)
      all_goals
        have k5 : Below w.heap.size w w5 := k2.trans (g5.mono k2.size)
        have own6 : w5.ownsRow w2.heap.size 65 3 (.slice A5 M.length c5) M.length (ccells M) := own5
        clear q0 q1 e0 e1 own5 hb5 c0 c1 r0 r1 f0 f1
        go_wp2_with fail
        obtain ⟨z0, z1⟩ := box2_set (.int .i64 p) (.slice A5 M.length c5) p0 p1
        refine bodyPost_ret (v := .tuple #[.agg #[.int .i64 p, .slice A5 M.length c5], .bool true]) (by simp [results, Try.results32, go_sem, z0, z1]) rfl ?_
        exact ⟨A5, c5, rfl, own_lower (ownsRow_setCell_below (ownsRow_setCell_below own6 (a := ⟨w.heap.size + 1, 0, none⟩) (by simp; omega) _) (a := ⟨w.heap.size + 1, 1, none⟩) (by simp; omega) _) k2.size, (k5.setCell (by simp) _).setCell (by simp) _⟩
    · have hRe : R = (0, [], false) := by
        rw [← hunf, if_neg]
        simp only [hp, Bool.true_and, Bool.and_eq_true, decide_eq_true_eq]
        exact hk
      subst hRe
      have hin : l1InB k 0 ((n : Int) - 1) = false := decide_eq_false (by omega)
      have Hp := Lib.hid hp
      have Hin := Lib.hid hin
      clear hp hunf hin
      go_enter Try.func32, Try.ntmps32
      go_wp2_with fail
      refine (Good.out _ (by go_grown)).mono ?_
      rw [Hp.out]
      rintro e w2 ⟨rfl, hb2⟩
      have r0 : w2.cell? ⟨w.heap.size + 1, 0, none⟩ = some (.int .i64 0) := carry hb2 (by simp) (by simp)
      have r1 : w2.cell? ⟨w.heap.size + 1, 1, none⟩ = some (.slice none 0 0) := carry hb2 (by simp) (by simp)
      have f0 : w2.frozen? ⟨w.heap.size + 1, 0, none⟩ = false := (hb2.frozen (p := ⟨w.heap.size + 1, 0, none⟩) (by simp)).trans (by simp)
      have f1 : w2.frozen? ⟨w.heap.size + 1, 1, none⟩ = false := (hb2.frozen (p := ⟨w.heap.size + 1, 1, none⟩) (by simp)).trans (by simp)
      have c1 : w2.cell? ⟨w.heap.size, 1, none⟩ = some (.slice A n c) := carry hb2 ((World.cell?_alloc_lt _ _ _ (by simp)).trans (by simp)) (by simp; omega)
      simp only [World.size_alloc] at hb2
      have k2 : Below w.heap.size w w2 := Below.trans (b := _) (by go_grown) (hb2.mono (by omega))
      clear hb2
      go_wp2_with (go_at_call 62; refine (l1In_any _ _ _ _).mono ?_; rw [Hin.out]; rintro e w4 ⟨rfl, rfl⟩)
      obtain ⟨z0, z1⟩ := box2_set (.int .i64 0) (.slice none 0 0) r0 r1
      refine bodyPost_ret (v := .tuple #[.agg #[.int .i64 0, .slice none 0 0], .bool false]) (by simp [results, Try.results32, go_sem, z0, z1]) rfl ?_
      exact ⟨none, 0, rfl, World.ownsRow_nil _ _ _ _, (k2.setCell (by simp) _).setCell (by simp) _⟩
end Go.Proofs.Ytkiobefojckocaa
/-
  A CLUE MORE: 'AddClue' of the model and of the program, by their contracts.
-/
namespace Go.Proofs.Ytkiobefojckocaa
open Go.RowKit

theorem step_append_opt {P : Program} {w : World} {ops : Array Oper} {o : Oper} {a : Act} {K : Act → World → Prop} {Q : Exit → Act → World → Prop} {E : Prop} (hgd : o.guard = none) (s x : Operand) (t : TypeId)
    (ho : o.op = .call { callee := .builtin .append, args := #[s, x], argTypes := #[t, t] })
    (base : Nat) (e : TypeId) (i : TypeInfo) (z : Value) (size bytes : Nat) (ht : P.underlying t = some (.slice e)) (hi : P.info? e = some i) (hz : i.zero = some z)
    (hsize : i.size = size) (hby : i.bytes = bytes) (hzs : z.cells.size = size) (hsz : 0 < size)
    (v : Value) (n : Nat) (xs : List Value) (hs : a.eval s = v) (hown : w.ownsRow base e size v n xs)
    (xo : Option Addr) (m c : Nat) (news : List Value) (hx : a.eval x = .slice xo m c) (hnone : xo = none → m = 0 ∧ c = 0) (hl : news.length = m * size) (hnews : ∀ ad, xo = some ad → ∀ j u, news[j]? = some u → w.cell? (ad.add j) = some u) (h1 : ∀ u ∈ news, u.oneCell' = true)
    (h63 : n + m ≤ maxLen) (hbytes : (n + m) * bytes ≤ 140737488355328) (hbase : base ≤ w.heap.size)
    (h : ∀ v' w', w'.ownsRow base e size v' (n + m) (xs ++ news) → w.grownBy w' v.ownBlock → K (a.put o.dst v') w') :
    if Region.wanted o (yielded ops a.tmps) = true then Oper.wp P o a w K Q else E := by
  cases xo with
  | some ad => exact step_append_any hgd s x t ho base e i z size bytes ht hi hz hsize hby hzs hsz v n xs hs hown ad m c news hx hl (hnews ad rfl) h1 h63 hbytes hbase h
  | none =>
    obtain ⟨rfl, rfl⟩ := hnone rfl
    obtain rfl : news = [] := List.eq_nil_of_length_eq_zero (by simpa using hl)
    have hw : Region.wanted o (yielded ops a.tmps) = true := by simp [Region.wanted, hgd]
    rw [if_pos hw]
    have hrun := run_append_owned_none (P := P) (w := w) base t o.type e i size ht hi v n xs hown
    have hk := h v w (by simpa using hown) ⟨rfl, rfl, rfl, Nat.le_refl _, fun _ _ _ => rfl⟩
    unfold Oper.wp
    simp [execOp, ho, resolve, invoke, builtin, hs, hx, hrun, Result.andThen]
    exact hk
theorem own_zeroC {w : World} {B : Nat} {e : TypeId} {size m c : Nat} {A : Option Addr} {xs : List Value} (h : w.ownsRow B e size (.slice A m c) m xs) : A = none → m = 0 ∧ c = 0 := by
  intro hA
  rcases h.2 with ⟨h1, h2⟩ | ⟨g, cap, cur, hv, _⟩
  · simp only [Value.slice.injEq] at h1
    exact ⟨h2, h1.2.2⟩
  · simp only [Value.slice.injEq] at hv
    rw [hA] at hv
    cases hv.1
theorem read_add_C {w : World} {B : Nat} {a : Addr} {l : CL} (h : CRead w B (some a) (ccells l)) : ∀ j u, (ccells l)[j]? = some u → w.cell? (a.add j) = some u := by
  intro j u hj
  obtain ⟨b, off, e, _, hc⟩ := h j u hj
  simp only [Option.some.injEq] at e
  subst e
  rw [Go.WideShapes.add_plain]
  exact hc
def resAddClue (p : Int) (l : CL) (a b c : Int) : Int × CL × Bool := if isU p l && (isCB p (a, b, c) && decide (l.length ≠ 8)) then (p, l ++ [(a, b, c)], true) else (0, [], false)
theorem resAddClue_len (p : Int) (l : CL) (a b c : Int) : (resAddClue p l a b c).2.1.length ≤ 1048576 := by
  unfold resAddClue
  split
  · rename_i h
    rw [Bool.and_eq_true] at h
    have h1 := isU_parts h.1
    simp
    omega
  · simp
theorem three_cells {w : World} {g : Nat} {u v x : Value} (h : w.cell? ⟨g, 0, none⟩ = some u) (h' : w.cell? ⟨g, 1, none⟩ = some v) (h'' : w.cell? ⟨g, 2, none⟩ = some x) : ∀ j y, [u, v, x][j]? = some y → w.cell? ((⟨g, 0, none⟩ : Addr).add j) = some y := by
  intro j y hj
  rw [Go.WideShapes.add_plain, Nat.zero_add]
  match j, hj with
  | 0, hj => simp at hj; rw [← hj]; exact h
  | 1, hj => simp at hj; rw [← hj]; exact h'
  | 2, hj => simp at hj; rw [← hj]; exact h''
  | j + 3, hj => simp at hj
theorem three_one {u v x : Value} (h : u.oneCell' = true) (h' : v.oneCell' = true) (h'' : x.oneCell' = true) : ∀ y ∈ [u, v, x], y.oneCell' = true := by
  intro y hy
  simp only [List.mem_cons, List.not_mem_nil, or_false] at hy
  rcases hy with rfl | rfl | rfl <;> assumption
/-- the three boxes of AddClue -/
structure Boxes3 (w : World) (b : Nat) (p : Int) (A : Option Addr) (n c : Nat) (ka kb kc : Int) : Prop where
  p0 : w.cell? ⟨b, 0, none⟩ = some (.int .i64 p)
  p1 : w.cell? ⟨b, 1, none⟩ = some (.slice A n c)
  k0 : w.cell? ⟨b + 1, 0, none⟩ = some (.int .i64 ka)
  k1 : w.cell? ⟨b + 1, 1, none⟩ = some (.int .i64 kb)
  k2 : w.cell? ⟨b + 1, 2, none⟩ = some (.int .i64 kc)
  r0 : w.cell? ⟨b + 1 + 1, 0, none⟩ = some (.int .i64 0)
  r1 : w.cell? ⟨b + 1 + 1, 1, none⟩ = some (.slice none 0 0)
  f0 : w.frozen? ⟨b + 1 + 1, 0, none⟩ = false
  f1 : w.frozen? ⟨b + 1 + 1, 1, none⟩ = false
theorem Boxes3.below {w w' : World} {b : Nat} {p : Int} {A : Option Addr} {n c : Nat} {ka kb kc : Int} (h : Boxes3 w b p A n c ka kb kc) (hb : Below w.heap.size w w') (hlt : b + 1 + 1 < w.heap.size) : Boxes3 w' b p A n c ka kb kc :=
  ⟨carry hb h.p0 (by omega), carry hb h.p1 (by omega), carry hb h.k0 (by omega), carry hb h.k1 (by omega), carry hb h.k2 (by omega), carry hb h.r0 hlt, carry hb h.r1 hlt, (hb.frozen (p := ⟨b + 1 + 1, 0, none⟩) hlt).trans h.f0, (hb.frozen (p := ⟨b + 1 + 1, 1, none⟩) hlt).trans h.f1⟩
theorem boxes3_new (w : World) (p : Int) (A : Option Addr) (n c : Nat) (ka kb kc : Int) (S T U : TypeId) :
    Boxes3 (((w.alloc (Obj.cells #[.int .i64 p, .slice A n c] S)).alloc (Obj.cells #[.int .i64 ka, .int .i64 kb, .int .i64 kc] T)).alloc (Obj.cells #[.int .i64 0, .slice none 0 0] U)) w.heap.size p A n c ka kb kc := by
  have e2 := heap_alloc_new ((w.alloc (Obj.cells #[.int .i64 p, .slice A n c] S)).alloc (Obj.cells #[.int .i64 ka, .int .i64 kb, .int .i64 kc] T)) (Obj.cells #[.int .i64 0, .slice none 0 0] U)
  have e1 := (World.grownBy_alloc ((w.alloc (Obj.cells #[.int .i64 p, .slice A n c] S)).alloc (Obj.cells #[.int .i64 ka, .int .i64 kb, .int .i64 kc] T)) (Obj.cells #[.int .i64 0, .slice none 0 0] U) none).block (w.heap.size + 1) (by simp) (by simp)
  have e1' := heap_alloc_new (w.alloc (Obj.cells #[.int .i64 p, .slice A n c] S)) (Obj.cells #[.int .i64 ka, .int .i64 kb, .int .i64 kc] T)
  have e0 := (World.grownBy_alloc ((w.alloc (Obj.cells #[.int .i64 p, .slice A n c] S)).alloc (Obj.cells #[.int .i64 ka, .int .i64 kb, .int .i64 kc] T)) (Obj.cells #[.int .i64 0, .slice none 0 0] U) none).block w.heap.size (by simp; omega) (by simp)
  have e0' := (World.grownBy_alloc (w.alloc (Obj.cells #[.int .i64 p, .slice A n c] S)) (Obj.cells #[.int .i64 ka, .int .i64 kb, .int .i64 kc] T) none).block w.heap.size (by simp) (by simp)
  have e0'' := heap_alloc_new w (Obj.cells #[.int .i64 p, .slice A n c] S)
  simp only [World.size_alloc] at e2 e1'
  rw [e1'] at e1
  rw [e0', e0''] at e0
  exact ⟨by rw [cell_of_row _ _ _ _ _ _ e0]; rfl, by rw [cell_of_row _ _ _ _ _ _ e0]; rfl, by rw [cell_of_row _ _ _ _ _ _ e1]; rfl, by rw [cell_of_row _ _ _ _ _ _ e1]; rfl, by rw [cell_of_row _ _ _ _ _ _ e1]; rfl, by rw [cell_of_row _ _ _ _ _ _ e2]; rfl, by rw [cell_of_row _ _ _ _ _ _ e2]; rfl, frozen_of_row _ _ _ _ _ e2, frozen_of_row _ _ _ _ _ e2⟩
set_option maxHeartbeats 8000000 in
set_option maxRecDepth 100000 in
theorem specAddClue_any (p : Int) (l : CL) (A : Option Addr) (c : Nat) (ka kb kc : Int) (w : World) (hl : l.length ≤ 1048576) (hA : CRead w w.heap.size A (ccells l)) (hz : A = none → l.length = 0 ∧ c = 0) :
    Calls Try.prog 38 #[.agg #[.int .i64 p, .slice A l.length c], .agg #[.int .i64 ka, .int .i64 kb, .int .i64 kc]] w (GotPuzzleOk w (resAddClue p l ka kb kc).1 (resAddClue p l ka kb kc).2.1 (resAddClue p l ka kb kc).2.2) := by
  obtain ⟨i0, hi, hz0, hz1, hz2⟩ := info_parts Try.infoClue
  have hgood := fun (Y : World) (hY : Below w.heap.size w Y) => pzGood_any p l A c Y hl ((hA.below hY (Nat.le_refl _)).more hY.size)
  obtain ⟨R, hR⟩ : ∃ R, resAddClue p l ka kb kc = R := ⟨_, rfl⟩
  rw [hR]
  have hunf := hR
  unfold resAddClue at hunf
  have hlc := ccells_length l
  have hone := ccells_one l
  generalize hn : l.length = n at *
  have Good := Lib.hid hgood
  clear hgood hR
  have fin : ∀ (w2 : World), Boxes3 w2 w.heap.size p A n c ka kb kc → Below w.heap.size w w2 → w.heap.size + 1 + 1 < w2.heap.size → ∀ (q : Int) (M : CL) (A5 : Option Addr) (c5 : Nat) (ok : Bool), w2.ownsRow (w.heap.size + 1 + 1 + 1) 65 3 (.slice A5 M.length c5) M.length (ccells M) →
      GotPuzzleOk w q M ok (.returned (.tuple #[.agg #[.int .i64 q, .slice A5 M.length c5], .bool ok])) ((w2.setCell ⟨w.heap.size + 1 + 1, 0, none⟩ (.int .i64 q)).setCell ⟨w.heap.size + 1 + 1, 1, none⟩ (.slice A5 M.length c5)) := by
    intro w2 _ k2 hlt q M A5 c5 ok ho
    exact ⟨A5, c5, rfl, own_lower (ownsRow_setCell_below (ownsRow_setCell_below ho (a := ⟨w.heap.size + 1 + 1, 0, none⟩) (by simp) _) (a := ⟨w.heap.size + 1 + 1, 1, none⟩) (by simp) _) (by omega), (k2.setCell (by simp; omega) _).setCell (by simp; omega) _⟩
  have Fin := Lib.hid fin
  have New := Lib.hid (boxes3_new w p A n c ka kb kc 55 65 55)
  clear fin
  cases hp : isU p l with
  | false =>
    have hRe : R = (0, [], false) := by rw [← hunf, hp]; rfl
    subst hRe
    have Hp := Lib.hid hp
    clear hp hunf
    go_enter Try.func38, Try.ntmps38
    go_wp2_with fail
    refine (Good.out _ (by go_grown)).mono ?_
    rw [Hp.out]
    rintro e w2 ⟨rfl, hb2⟩
    have B2 := New.out.below hb2 (by simp)
    have s2 := hb2.size
    simp only [World.size_alloc] at hb2 s2
    have k2 : Below w.heap.size w w2 := Below.trans (b := _) (by go_grown) (hb2.mono (by omega))
    have B2' := Lib.hid B2
    obtain ⟨q0, q1, q2, q3, q4, q5, q6, q7, q8⟩ := B2
    clear hb2
    go_wp2
    obtain ⟨z0, z1⟩ := box2_set (.int .i64 0) (.slice none 0 0) q5 q6
    refine bodyPost_ret (v := .tuple #[.agg #[.int .i64 0, .slice none 0 0], .bool false]) (by simp [results, Try.results38, go_sem, z0, z1]) rfl ?_
    exact Fin.out w2 B2'.out k2 (by omega) 0 [] none 0 false (World.ownsRow_nil _ _ _ _)
  | true =>
    have hp8 := isU_parts hp
    rw [hn] at hp8
    have hn8 := hp8.2.2.1
    have hcl := fun (Y : World) => pzClue_any p ka kb kc hp8.1 hp8.2.1 Y
    have Clu := Lib.hid hcl
    clear hp8 hcl
    cases hcb : isCB p (ka, kb, kc) with
    | false =>
      have hRe : R = (0, [], false) := by rw [← hunf, hp, hcb]; rfl
      subst hRe
      have Hp := Lib.hid hp
      have Hcb := Lib.hid hcb
      clear hp hunf hcb
      go_enter Try.func38, Try.ntmps38
      go_wp2_with fail
      refine (Good.out _ (by go_grown)).mono ?_
      rw [Hp.out]
      rintro e w2 ⟨rfl, hb2⟩
      have B2 := New.out.below hb2 (by simp)
      have s2 := hb2.size
      simp only [World.size_alloc] at hb2 s2
      have k2 : Below w.heap.size w w2 := Below.trans (b := _) (by go_grown) (hb2.mono (by omega))
      obtain ⟨q0, q1, q2, q3, q4, q5, q6, q7, q8⟩ := id B2
      clear hb2
      go_wp2_with fail
      refine (Clu.out w2).mono ?_
      rw [Hcb.out]
      rintro e w3 ⟨rfl, hb3⟩
      have B3 := B2.below hb3 (by omega)
      have s3 := hb3.size
      have k3 := k2.trans (hb3.mono k2.size)
      have B3' := Lib.hid B3
      clear q0 q1 q2 q3 q4 q5 q6 q7 q8 B2
      obtain ⟨q0, q1, q2, q3, q4, q5, q6, q7, q8⟩ := B3
      go_wp2
      obtain ⟨z0, z1⟩ := box2_set (.int .i64 0) (.slice none 0 0) q5 q6
      refine bodyPost_ret (v := .tuple #[.agg #[.int .i64 0, .slice none 0 0], .bool false]) (by simp [results, Try.results38, go_sem, z0, z1]) rfl ?_
      exact Fin.out w3 B3'.out k3 (by omega) 0 [] none 0 false (World.ownsRow_nil _ _ _ _)
    | true =>
      have Hp := Lib.hid hp
      have Hcb := Lib.hid hcb
      by_cases h8 : n = 8
      · have hRe : R = (0, [], false) := by rw [← hunf, h8]; simp
        subst hRe
        subst h8
        clear hp hunf hcb
        go_enter Try.func38, Try.ntmps38
        go_wp2_with fail
        refine (Good.out _ (by go_grown)).mono ?_
        rw [Hp.out]
        rintro e w2 ⟨rfl, hb2⟩
        have B2 := New.out.below hb2 (by simp)
        have s2 := hb2.size
        simp only [World.size_alloc] at hb2 s2
        have k2 : Below w.heap.size w w2 := Below.trans (b := _) (by go_grown) (hb2.mono (by omega))
        obtain ⟨q0, q1, q2, q3, q4, q5, q6, q7, q8⟩ := id B2
        clear hb2
        go_wp2_with fail
        refine (Clu.out w2).mono ?_
        rw [Hcb.out]
        rintro e w3 ⟨rfl, hb3⟩
        have B3 := B2.below hb3 (by omega)
        have s3 := hb3.size
        have k3 := k2.trans (hb3.mono k2.size)
        have B3' := Lib.hid B3
        clear q0 q1 q2 q3 q4 q5 q6 q7 q8 B2
        obtain ⟨q0, q1, q2, q3, q4, q5, q6, q7, q8⟩ := B3
        go_wp2
        obtain ⟨z0, z1⟩ := box2_set (.int .i64 0) (.slice none 0 0) q5 q6
        refine bodyPost_ret (v := .tuple #[.agg #[.int .i64 0, .slice none 0 0], .bool false]) (by simp [results, Try.results38, go_sem, z0, z1]) rfl ?_
        exact Fin.out w3 B3'.out k3 (by omega) 0 [] none 0 false (World.ownsRow_nil _ _ _ _)
      · have hRe : R = (p, l ++ [(ka, kb, kc)], true) := by rw [← hunf, hp, hcb]; simp [h8]
        subst hRe
        have h8' : ((n : Int) == 8) = false := by simp; omega
        have hM : (l ++ [(ka, kb, kc)]).length = n + 1 := by simp [hn]
        have hMc : ccells (l ++ [(ka, kb, kc)]) = ccells l ++ [.int .i64 ka, .int .i64 kb, .int .i64 kc] := by rw [ccells_append]; rfl
        clear hp hunf hcb
        go_enter Try.func38, Try.ntmps38
        go_wp2_with fail
        refine (Good.out _ (by go_grown)).mono ?_
        rw [Hp.out]
        rintro e w2 ⟨rfl, hb2⟩
        have B2 := New.out.below hb2 (by simp)
        have s2 := hb2.size
        simp only [World.size_alloc] at hb2 s2
        have k2 : Below w.heap.size w w2 := Below.trans (b := _) (by go_grown) (hb2.mono (by omega))
        obtain ⟨q0, q1, q2, q3, q4, q5, q6, q7, q8⟩ := id B2
        clear hb2
        go_wp2_with fail
        refine (Clu.out w2).mono ?_
        rw [Hcb.out]
        rintro e w3 ⟨rfl, hb3⟩
        have B3 := B2.below hb3 (by omega)
        have s3 := hb3.size
        have k3 := k2.trans (hb3.mono k2.size)
        have B3' := Lib.hid B3
        clear q0 q1 q2 q3 q4 q5 q6 q7 q8 B2
        obtain ⟨q0, q1, q2, q3, q4, q5, q6, q7, q8⟩ := B3
        go_wp2
        have hn1 : ∀ Y : World, Below w.heap.size w Y → ∀ ad, A = some ad → ∀ j u, (ccells l)[j]? = some u → Y.cell? (ad.add j) = some u := fun Y hY ad e => read_add_C (e ▸ hA.below hY (Nat.le_refl _))
        have Hn := Lib.hid hn1
        have g1 : Below w3.heap.size w3 (w3.drew.alloc (Obj.cells #[] 65)) := (Below.refl _ _).drew.alloc (Nat.le_refl _) _
        have g2 : Below w3.heap.size w3 ((w3.drew.alloc (Obj.cells #[] 65)).alloc (Obj.cells #[.int .i64 ka, .int .i64 kb, .int .i64 kc] 65)) := g1.alloc g1.size _
        have g3 : Below w3.heap.size w3 ((w3.drew.alloc (Obj.cells #[.int .i64 ka, .int .i64 kb, .int .i64 kc] 65)).alloc (Obj.cells #[] 65)) := ((Below.refl _ _).drew.alloc (Nat.le_refl _) _).alloc (by simp) _
        have o1 : (w3.drew.alloc (Obj.cells #[] 65)).ownsRow w3.heap.size 65 3 (.slice (some ⟨w3.heap.size, 0, none⟩) 0 0) 0 [] := World.ownsRow_made (base := w3.heap.size) w3.drew #[] 0 (Nat.le_refl _) (Nat.zero_le _) rfl
        have o2 : ((w3.drew.alloc (Obj.cells #[] 65)).alloc (Obj.cells #[.int .i64 ka, .int .i64 kb, .int .i64 kc] 65)).ownsRow w3.heap.size 65 3 (.slice (some ⟨w3.heap.size, 0, none⟩) 0 0) 0 [] := o1.alloc _
        have o3 : ((w3.drew.alloc (Obj.cells #[.int .i64 ka, .int .i64 kb, .int .i64 kc] 65)).alloc (Obj.cells #[] 65)).ownsRow w3.heap.size 65 3 (.slice (some ⟨w3.heap.size + 1, 0, none⟩) 0 0) 0 [] := by
          have h := World.ownsRow_made (e := 65) (size := 3) (base := (w3.drew.alloc (Obj.cells #[.int .i64 ka, .int .i64 kb, .int .i64 kc] 65)).heap.size) (w3.drew.alloc (Obj.cells #[.int .i64 ka, .int .i64 kb, .int .i64 kc] 65)) #[] 0 (Nat.le_refl _) (Nat.zero_le _) rfl
          rw [World.size_alloc] at h
          exact own_lower h (Nat.le_succ _)
        have n2 : ((w3.drew.alloc (Obj.cells #[] 65)).alloc (Obj.cells #[.int .i64 ka, .int .i64 kb, .int .i64 kc] 65)).heap[w3.heap.size + 1]? = some (Obj.cells #[.int .i64 ka, .int .i64 kb, .int .i64 kc] 65) := by have h := heap_alloc_new (w3.drew.alloc (Obj.cells #[] 65)) (Obj.cells #[.int .i64 ka, .int .i64 kb, .int .i64 kc] 65); rw [World.size_alloc] at h; exact h
        have n3 : ((w3.drew.alloc (Obj.cells #[.int .i64 ka, .int .i64 kb, .int .i64 kc] 65)).alloc (Obj.cells #[] 65)).heap[w3.heap.size]? = some (Obj.cells #[.int .i64 ka, .int .i64 kb, .int .i64 kc] 65) := ((World.grownBy_alloc (w3.drew.alloc (Obj.cells #[.int .i64 ka, .int .i64 kb, .int .i64 kc] 65)) (Obj.cells #[] 65) none).block w3.heap.size (by rw [World.size_alloc]; exact Nat.lt_succ_self _) (by simp)).trans (heap_alloc_new w3.drew (Obj.cells #[.int .i64 ka, .int .i64 kb, .int .i64 kc] 65))
        have l2 : w3.heap.size + 1 < ((w3.drew.alloc (Obj.cells #[] 65)).alloc (Obj.cells #[.int .i64 ka, .int .i64 kb, .int .i64 kc] 65)).heap.size := by rw [World.size_alloc, World.size_alloc]; exact Nat.lt_succ_self _
        have l3 : w3.heap.size < ((w3.drew.alloc (Obj.cells #[.int .i64 ka, .int .i64 kb, .int .i64 kc] 65)).alloc (Obj.cells #[] 65)).heap.size := by rw [World.size_alloc, World.size_alloc]; show w3.heap.size < w3.heap.size + 1 + 1; omega
        have kS : ∀ X : World, Below w3.heap.size w3 X → X.cell? ⟨w.heap.size, 0, none⟩ = some (.int .i64 p) ∧ X.cell? ⟨w.heap.size, 1, none⟩ = some (.slice A n c) ∧ X.cell? ⟨w.heap.size + 1, 0, none⟩ = some (.int .i64 ka) ∧ X.cell? ⟨w.heap.size + 1, 1, none⟩ = some (.int .i64 kb) ∧ X.cell? ⟨w.heap.size + 1, 2, none⟩ = some (.int .i64 kc) := fun X hX => ⟨carry hX q0 (by omega), carry hX q1 (by omega), carry hX q2 (by omega), carry hX q3 (by omega), carry hX q4 (by omega)⟩
        have kT : ∀ (X : World) (u v : Value), Below w3.heap.size w3 X → ((X.setCell ⟨w.heap.size + 1 + 1, 0, none⟩ u).setCell ⟨w.heap.size + 1 + 1, 1, none⟩ v).cell? ⟨w.heap.size, 0, none⟩ = some (.int .i64 p) ∧ ((X.setCell ⟨w.heap.size + 1 + 1, 0, none⟩ u).setCell ⟨w.heap.size + 1 + 1, 1, none⟩ v).cell? ⟨w.heap.size, 1, none⟩ = some (.slice A n c) ∧ ((X.setCell ⟨w.heap.size + 1 + 1, 0, none⟩ u).setCell ⟨w.heap.size + 1 + 1, 1, none⟩ v).cell? ⟨w.heap.size + 1, 0, none⟩ = some (.int .i64 ka) ∧ ((X.setCell ⟨w.heap.size + 1 + 1, 0, none⟩ u).setCell ⟨w.heap.size + 1 + 1, 1, none⟩ v).cell? ⟨w.heap.size + 1, 1, none⟩ = some (.int .i64 kb) ∧ ((X.setCell ⟨w.heap.size + 1 + 1, 0, none⟩ u).setCell ⟨w.heap.size + 1 + 1, 1, none⟩ v).cell? ⟨w.heap.size + 1, 2, none⟩ = some (.int .i64 kc) := fun X u v hX => ⟨by rw [World.cell?_setCell_far _ _ _ _ (by show w.heap.size + 1 + 1 ≠ w.heap.size; omega), World.cell?_setCell_far _ _ _ _ (by show w.heap.size + 1 + 1 ≠ w.heap.size; omega)]; exact (kS X hX).1, by rw [World.cell?_setCell_far _ _ _ _ (by show w.heap.size + 1 + 1 ≠ w.heap.size; omega), World.cell?_setCell_far _ _ _ _ (by show w.heap.size + 1 + 1 ≠ w.heap.size; omega)]; exact (kS X hX).2.1, by rw [World.cell?_setCell_far _ _ _ _ (by show w.heap.size + 1 + 1 ≠ w.heap.size + 1; omega), World.cell?_setCell_far _ _ _ _ (by show w.heap.size + 1 + 1 ≠ w.heap.size + 1; omega)]; exact (kS X hX).2.2.1, by rw [World.cell?_setCell_far _ _ _ _ (by show w.heap.size + 1 + 1 ≠ w.heap.size + 1; omega), World.cell?_setCell_far _ _ _ _ (by show w.heap.size + 1 + 1 ≠ w.heap.size + 1; omega)]; exact (kS X hX).2.2.2.1, by rw [World.cell?_setCell_far _ _ _ _ (by show w.heap.size + 1 + 1 ≠ w.heap.size + 1; omega), World.cell?_setCell_far _ _ _ _ (by show w.heap.size + 1 + 1 ≠ w.heap.size + 1; omega)]; exact (kS X hX).2.2.2.2⟩
        have kD : Below w3.heap.size w3 w3.drew := (Below.refl _ _).drew
        go_region_held_law (fun w' => w'.cell? ⟨w.heap.size, 0, none⟩ = some (.int .i64 p) ∧ w'.cell? ⟨w.heap.size, 1, none⟩ = some (.slice A n c) ∧ w'.cell? ⟨w.heap.size + 1, 0, none⟩ = some (.int .i64 ka) ∧ w'.cell? ⟨w.heap.size + 1, 1, none⟩ = some (.int .i64 kb) ∧ w'.cell? ⟨w.heap.size + 1, 2, none⟩ = some (.int .i64 kc)) (first | exact kT _ _ _ h5 | exact kS _ kD | exact kS _ g1 | exact kS _ g2 | exact kS _ g3 | exact kS _ (kD.alloc (Nat.le_refl _) _) | exact kS _ h5 | exact kS _ h4 | exact kS _ (h4.alloc h4.size _)) ((first
          | (refine step_append_opt (by rfl) _ _ _ (by rfl) w3.heap.size 65 i0 _ 3 24 Try.underlying53 hi hz0 hz1 hz2 (by rfl) (by decide) _ 0 [] (by rfl) o1 A n c (ccells l) (by rfl) hz hlc (Hn.out _ (k3.trans (g1.mono k3.size))) hone (by unfold maxLen; omega) (by omega) g1.size ?_; intro v4 w4 own4 gr4; have h4 : Below w3.heap.size w3 w4 := g1.grown gr4 g1.size (fun j hj => (o1.lt j hj).1); have t4 := gr4.size)
          | (refine step_append_opt (by rfl) _ _ _ (by rfl) w3.heap.size 65 i0 _ 3 24 Try.underlying53 hi hz0 hz1 hz2 (by rfl) (by decide) _ 0 [] (by rfl) o2 A n c (ccells l) (by rfl) hz hlc (Hn.out _ (k3.trans (g2.mono k3.size))) hone (by unfold maxLen; omega) (by omega) g2.size ?_; intro v4 w4 own4 gr4; have h4 : Below w3.heap.size w3 w4 := g2.grown gr4 g2.size (fun j hj => (o2.lt j hj).1); have t4 := gr4.size; have cb : w4.heap[w3.heap.size + 1]? = some (Obj.cells #[.int .i64 ka, .int .i64 kb, .int .i64 kc] 65) := (gr4.block (w3.heap.size + 1) l2 (by simp [Value.ownBlock])).trans n2)
          | (refine step_append_opt (by rfl) _ _ _ (by rfl) w3.heap.size 65 i0 _ 3 24 Try.underlying53 hi hz0 hz1 hz2 (by rfl) (by decide) _ 0 [] (by rfl) o3 A n c (ccells l) (by rfl) hz hlc (Hn.out _ (k3.trans (g3.mono k3.size))) hone (by unfold maxLen; omega) (by omega) g3.size ?_; intro v4 w4 own4 gr4; have h4 : Below w3.heap.size w3 w4 := g3.grown gr4 g3.size (fun j hj => (o3.lt j hj).1); have t4 := gr4.size; have cb : w4.heap[w3.heap.size]? = some (Obj.cells #[.int .i64 ka, .int .i64 kb, .int .i64 kc] 65) := (gr4.block w3.heap.size l3 (by simp [Value.ownBlock])).trans n3)
          | (refine step_append_any (by rfl) _ _ _ (by rfl) w3.heap.size 65 i0 _ 3 24 Try.underlying53 hi hz0 hz1 hz2 (by rfl) (by decide) _ (0 + n) ([] ++ ccells l) (by rfl) (own4.alloc _) ⟨w4.heap.size, 0, none⟩ 1 1 [.int .i64 ka, .int .i64 kb, .int .i64 kc] (by rfl) rfl (three_cells (by simp) (by simp) (by simp)) (three_one rfl rfl rfl) (by unfold maxLen; omega) (by omega) (by first | exact h4.size | (rw [World.size_alloc]; have := h4.size; omega)) ?_; intro v5 w5 own5 gr5; have h5 : Below w3.heap.size w3 w5 := (h4.alloc h4.size _).grown gr5 (by first | exact h4.size | (rw [World.size_alloc]; have := h4.size; omega)) (fun j hj => (own4.lt j hj).1); obtain ⟨A5, c5, rfl, _⟩ := own_shape own5; have B5 := B3'.out.below h5 (by omega); have s5 := h5.size; obtain ⟨_, _, _, _, _, y5, y6, y7, y8⟩ := id B5)
          | (refine step_append_any (by rfl) _ _ _ (by rfl) w3.heap.size 65 i0 _ 3 24 Try.underlying53 hi hz0 hz1 hz2 (by rfl) (by decide) _ (0 + n) ([] ++ ccells l) (by rfl) own4 ⟨w3.heap.size + 1, 0, none⟩ 1 1 [.int .i64 ka, .int .i64 kb, .int .i64 kc] (by rfl) rfl (three_cells (by rw [cell_of_row _ _ _ _ _ _ cb]; rfl) (by rw [cell_of_row _ _ _ _ _ _ cb]; rfl) (by rw [cell_of_row _ _ _ _ _ _ cb]; rfl)) (three_one rfl rfl rfl) (by unfold maxLen; omega) (by omega) (by first | exact h4.size | (rw [World.size_alloc]; have := h4.size; omega)) ?_; intro v5 w5 own5 gr5; have h5 : Below w3.heap.size w3 w5 := h4.grown gr5 (by first | exact h4.size | (rw [World.size_alloc]; have := h4.size; omega)) (fun j hj => (own4.lt j hj).1); obtain ⟨A5, c5, rfl, _⟩ := own_shape own5; have B5 := B3'.out.below h5 (by omega); have s5 := h5.size; obtain ⟨_, _, _, _, _, y5, y6, y7, y8⟩ := id B5)
          | (refine step_append_any (by rfl) _ _ _ (by rfl) w3.heap.size 65 i0 _ 3 24 Try.underlying53 hi hz0 hz1 hz2 (by rfl) (by decide) _ (0 + n) ([] ++ ccells l) (by rfl) own4 ⟨w3.heap.size, 0, none⟩ 1 1 [.int .i64 ka, .int .i64 kb, .int .i64 kc] (by rfl) rfl (three_cells (by rw [cell_of_row _ _ _ _ _ _ cb]; rfl) (by rw [cell_of_row _ _ _ _ _ _ cb]; rfl) (by rw [cell_of_row _ _ _ _ _ _ cb]; rfl)) (three_one rfl rfl rfl) (by unfold maxLen; omega) (by omega) (by first | exact h4.size | (rw [World.size_alloc]; have := h4.size; omega)) ?_; intro v5 w5 own5 gr5; have h5 : Below w3.heap.size w3 w5 := h4.grown gr5 (by first | exact h4.size | (rw [World.size_alloc]; have := h4.size; omega)) (fun j hj => (own4.lt j hj).1); obtain ⟨A5, c5, rfl, _⟩ := own_shape own5; have B5 := B3'.out.below h5 (by omega); have s5 := h5.size; obtain ⟨_, _, _, _, _, y5, y6, y7, y8⟩ := id B5)
          | fail))
        all_goals
          have k5 : Below w.heap.size w w5 := k3.trans (h5.mono k3.size)
          rw [Nat.zero_add, List.nil_append, ← hMc] at own5
          have own6 := own_lower own5 (show w.heap.size + 1 + 1 + 1 ≤ w3.heap.size by omega)
          clear own4 gr4 gr5 h4 own5 o1 o2 o3 g1 g2 g3 n2 n3
          go_wp2_with fail
          obtain ⟨z0, z1⟩ := box2_set (.int .i64 p) (.slice A5 (n + 1) c5) y5 y6
          refine bodyPost_ret (v := .tuple #[.agg #[.int .i64 p, .slice A5 (n + 1) c5], .bool true]) (by simp [results, Try.results38, go_sem, z0, z1]) rfl ?_
          have hf := Fin.out w5 B5 k5 (by omega) p (l ++ [(ka, kb, kc)]) A5 c5 true (by rw [hM]; exact own6)
          rw [hM] at hf
          exact hf
end Go.Proofs.Ytkiobefojckocaa
