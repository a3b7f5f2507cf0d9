/-
  Texts put together for the claims of 'IsClue' (pack 3): ClueJ, LawIsClue, Head, Facts.
-/
import Derived.Test.YtefkcfkicmfhlaaIsClueP1
import Derived.Test.YtefkcfkicmfhlaaIsClueP2
import Derived.BigQuiet
import Derived.Recover
import Derived.Defers
import Derived.Laws.Pointers
import Derived.WalkLawsBesides
import Derived.Deep.RegionHeld3
import Derived.Test.YtefkcfkicmfhlaaRows
/-
  WHAT A CLUE, A PUZZLE IS: the program's functions, by their contracts: 'areClues' recovers what 'requireClue' panics with.
-/
namespace Go.Proofs.Ytefkcfkicmfhlaa
open Go.RowKit



theorem assert_yes {P : Program} {w : World} {t xT : TypeId} {v : Value} {fs : Array Field} (hu : P.underlying t = some (.struct fs)) : (Instr.typeAssert (.iface t v) xT t true).run P w = .ok (.tuple #[v, .bool true]) w := by
  simp [Instr.typeAssert, run_underlying hu]
theorem assert_nil {P : Program} {w : World} {t xT : TypeId} {z : Value} {i : TypeInfo} {fs : Array Field} (hu : P.underlying t = some (.struct fs)) (hi : P.info? t = some i) (hz : i.zero = some z) : (Instr.typeAssert .nilIface xT t true).run P w = .ok (.tuple #[z, .bool false]) w := by
  simp [Instr.typeAssert, run_underlying hu, zeroValue, typeInfo, hi, hz]
section
variable {P : Program} {ops : Array Oper} {Q : Exit → Act → List Frame → World → Prop} {i : Nat} {rest : List Nat} {a : Act} {cs cs' : List Frame} {w w' : World} {o : Oper} {v : Value}
theorem opsS_recover (ho : ops[i]? = some o) (hw : Region.wanted o (yielded ops a.tmps) = true) (hr : (execOp a.eval o).run P w = .ok .recover w') (hc : recoverD cs = some (v, cs')) (h : wpOpsS P ops Q rest (a.put o.dst v) cs' w') : wpOpsS P ops Q (i :: rest) a cs w := by
  simp only [wpOpsS, ho, hw, if_true, hr, hc]
  exact h
theorem opsS_recover_none (ho : ops[i]? = some o) (hw : Region.wanted o (yielded ops a.tmps) = true) (hr : (execOp a.eval o).run P w = .ok .recover w') (hc : recoverD cs = none) (h : wpOpsS P ops Q rest (a.put o.dst .nilIface) cs w') : wpOpsS P ops Q (i :: rest) a cs w := by
  simp only [wpOpsS, ho, hw, if_true, hr, hc]
  exact h
/-- operations that do not recover are walked as everywhere -/
theorem opsS_of_list (hno : ¬ LetsOut (fun e a w => Q e a cs w)) (l : List Oper) : ∀ (k : Nat) (a : Act) (w : World), (∀ j, l[j]? = ops[k + j]?) → wpList P ops (fun e a w => Q e a cs w) l a w → wpOpsS P ops Q (List.range' k l.length) a cs w := by
  induction l with
  | nil => intro k a w _ h; exact h
  | cons o l ih =>
    intro k a w h hw
    have h0 : ops[k]? = some o := by simpa using (h 0).symm
    have ih' := ih (k + 1)
    have hj : ∀ j, l[j]? = ops[k + 1 + j]? := fun j => by have := h (j + 1); simpa [Nat.add_assoc, Nat.add_comm 1 j] using this
    simp only [List.length_cons, List.range'_succ, wpOpsS, h0]
    unfold wpList at hw
    by_cases hwn : Region.wanted o (yielded ops a.tmps) = true
    · simp only [hwn, if_true] at hw ⊢
      rcases hw with hw | ⟨_, hl⟩
      · have hw2 := Oper.wp_mono (fun a' w' hh => ih' a' w' hj hh) hw
        unfold Oper.wp at hw2
        split
        · rename_i w' hr
          rw [hr] at hw2
          exact hw2.elim
        · exact hw2
      · exact absurd hl hno
    · simp only [hwn, if_false, Bool.false_eq_true] at hw ⊢
      exact ih' _ _ hj hw
/-- a region whose first operation recovers -/
theorem regionS_recover {id : Nat} {l : List Oper} (hg : o.guard = none) (hr : (execOp a.eval o).run P w = .ok .recover w') (hc : recoverD cs = some (v, cs')) (hno : ¬ LetsOut (fun e a w => Q e a cs' w))
    (h : wpList P (o :: l).toArray (fun e a w => Q e a cs' w) l (a.put o.dst v) w') : (Code.region id (o :: l).toArray false).wpS P Q a cs w := by
  refine wpS_region ?_
  rw [List.size_toArray, List.length_cons, List.range_eq_range', List.range'_succ]
  refine opsS_recover (o := o) (by simp) (by simp only [Region.wanted, hg]) hr hc ?_
  exact opsS_of_list hno l (0 + 1) _ _ (fun j => by simp [Nat.add_comm]) h
theorem regionS_recover_none {id : Nat} {l : List Oper} (hg : o.guard = none) (hr : (execOp a.eval o).run P w = .ok .recover w') (hc : recoverD cs = none) (hno : ¬ LetsOut (fun e a w => Q e a cs w))
    (h : wpList P (o :: l).toArray (fun e a w => Q e a cs w) l (a.put o.dst .nilIface) w') : (Code.region id (o :: l).toArray false).wpS P Q a cs w := by
  refine wpS_region ?_
  rw [List.size_toArray, List.length_cons, List.range_eq_range', List.range'_succ]
  refine opsS_recover_none (o := o) (by simp) (by simp only [Region.wanted, hg]) hr hc ?_
  exact opsS_of_list hno l (0 + 1) _ _ (fun j => by simp [Nat.add_comm]) h
end

set_option maxHeartbeats 4000000 in
set_option maxRecDepth 100000 in
/-- THE DEFERRED CLOSURE in a frame that panics with a clue: recovered; the answer is false. -/
theorem catch_clue (b : Nat) (x : Bool) (y0 y1 y2 : Int) (older : List PanicEntry) (w : World) (hc : w.cell? ⟨b, 0, none⟩ = some (.bool x)) (hz : w.frozen? ⟨b, 0, none⟩ = false) (hp : b < w.heap.size) :
    CallsD Try.prog 61 #[.pointer (some ⟨b, 0, none⟩)] (.panicking ({ v := .iface 25 (.agg #[.int .i64 y0, .int .i64 y1, .int .i64 y2]), recovered := false } :: older)) w fun e u' w' => e = .returned (.tuple #[]) ∧ u' = .panicking ({ v := .iface 25 (.agg #[.int .i64 y0, .int .i64 y1, .int .i64 y2]), recovered := true } :: older) ∧ w' = (w.alloc (Obj.cells #[.int .i64 y0, .int .i64 y1, .int .i64 y2] 25)).setCell ⟨b, 0, none⟩ (.bool false) := by
  have ha := fun (X : World) (xT : TypeId) => assert_yes (P := Try.prog) (w := X) (xT := xT) (v := .agg #[.int .i64 y0, .int .i64 y1, .int .i64 y2]) Try.underlying25
  refine callsD_of_wpS Try.func61 rfl fun c₀ cs hu => ?_
  apply wpS_seq
  simp only [Try.ntmps61, List.size_toArray, List.length_cons, List.length_nil, Nat.reduceAdd, Nat.reduceSub, Array.replicate_succ, Array.replicate_zero, List.push_toArray, List.append_toArray, List.nil_append, List.cons_append]
  refine regionS_recover (v := .iface 25 (.agg #[.int .i64 y0, .int .i64 y1, .int .i64 y2])) (cs' := { c₀ with mode := .panicking ({ v := .iface 25 (.agg #[.int .i64 y0, .int .i64 y1, .int .i64 y2]), recovered := true } :: older) } :: cs) (w' := w) ?hg ?hr ?hc ?hno ?hrest
  case hg => exact rfl
  case hr => simp [go_sem]
  case hc => simp [recoverD, hu]
  case hno =>
    rintro ⟨a, w, u', h, _⟩
    cases h
  case hrest =>
    simp only [Act.put]
    have c1 : (w.alloc (Obj.cells #[.int .i64 y0, .int .i64 y1, .int .i64 y2] 25)).cell? ⟨b, 0, none⟩ = some (.bool x) := (World.cell?_alloc_lt _ _ _ hp).trans hc
    have z1 : (w.alloc (Obj.cells #[.int .i64 y0, .int .i64 y1, .int .i64 y2] 25)).frozen? ⟨b, 0, none⟩ = false := (World.frozen?_alloc_old w _ ⟨b, 0, none⟩ (by show b ≠ w.heap.size; omega)).trans hz
    clear hu hp hc hz
    go_wp2
    refine wpS_of_wp ?_
    go_wp2
    exact ⟨rfl, _, rfl, .tuple #[], by simp [results, Try.results61, go_sem], rfl, rfl, rfl⟩

set_option maxHeartbeats 4000000 in
set_option maxRecDepth 100000 in
/-- in a frame that returns: nothing is recovered; the answer is true. -/
theorem catch_none (b : Nat) (x : Bool) (w : World) (hc : w.cell? ⟨b, 0, none⟩ = some (.bool x)) (hz : w.frozen? ⟨b, 0, none⟩ = false) (hp : b < w.heap.size) :
    CallsD Try.prog 61 #[.pointer (some ⟨b, 0, none⟩)] .returning w fun e u' w' => e = .returned (.tuple #[]) ∧ u' = .returning ∧ w' = (w.alloc (Obj.cells #[.int .i64 0, .int .i64 0, .int .i64 0] 25)).setCell ⟨b, 0, none⟩ (.bool true) := by
  obtain ⟨i0, hi, hz0, _, _⟩ := info_parts Try.infoClue
  have ha := fun (X : World) (xT : TypeId) => assert_nil (P := Try.prog) (w := X) (xT := xT) Try.underlying25 hi hz0
  refine callsD_of_wpS Try.func61 rfl fun c₀ cs hu => ?_
  apply wpS_seq
  simp only [Try.ntmps61, List.size_toArray, List.length_cons, List.length_nil, Nat.reduceAdd, Nat.reduceSub, Array.replicate_succ, Array.replicate_zero, List.push_toArray, List.append_toArray, List.nil_append, List.cons_append]
  refine regionS_recover_none (w' := w) ?hg ?hr ?hc ?hno ?hrest
  case hg => exact rfl
  case hr => simp [go_sem]
  case hc => simp [recoverD, hu]
  case hno =>
    rintro ⟨a, w, u', h, _⟩
    cases h
  case hrest =>
    simp only [Act.put]
    have c1 : (w.alloc (Obj.cells #[.int .i64 0, .int .i64 0, .int .i64 0] 25)).cell? ⟨b, 0, none⟩ = some (.bool x) := (World.cell?_alloc_lt _ _ _ hp).trans hc
    have z1 : (w.alloc (Obj.cells #[.int .i64 0, .int .i64 0, .int .i64 0] 25)).frozen? ⟨b, 0, none⟩ = false := (World.frozen?_alloc_old w _ ⟨b, 0, none⟩ (by show b ≠ w.heap.size; omega)).trans hz
    have Hu := Lib.hid hu
    clear hu hp hc hz
    go_wp2
    refine wpS_of_wp ?_
    go_wp2
    refine ⟨rfl, .returning, ?_, .tuple #[], by simp [results, Try.results61, go_sem], rfl, rfl, rfl⟩
    have h := Hu.out
    cases c₀
    simp only at h
    subst h
    rfl

set_option maxHeartbeats 4000000 in
set_option maxRecDepth 100000 in
theorem areClues_any (n : Int) (l : CL) (A : Option Addr) (c : Nat) (w : World) (h1 : 1 ≤ n) (h5 : n ≤ 5) (hl : l.length ≤ 1048576) (hA : CRead w w.heap.size A (ccells l)) :
    Calls Try.prog 40 #[.int .i64 n, .slice A l.length c] w fun e w' => e = .returned (.bool (l.all (isCB n))) ∧ Below w.heap.size w w' := by
  have hmf : ∀ (fn : Fn) (first cap : Array Value) (w : World), (Instr.makeFunc fn first cap).run Try.prog w = .ok (.func fn first cap) w := fun _ _ _ _ => rfl
  obtain ⟨r, hr⟩ : ∃ r, l.all (isCB n) = r := ⟨_, rfl⟩
  rw [hr]
  have Hr := Lib.hid hr
  clear hr
  generalize hn : l.length = m at *
  have Hn := Lib.hid hn
  clear hn
  go_enter_defers Try.func40, Try.ntmps40
  go_wp2
  go_loopw [10] (fun i wr => ∃ k : Nat, k ≤ m ∧ i = .int .i64 k ∧ (l.take k).all (isCB n) = true ∧ Below (w.heap.size + 1) (w.alloc (Obj.cells #[.bool false] 4)) wr) (fun i _ => m - (intOf i).toNat)
  case atStart => exact ⟨0, Nat.zero_le _, rfl, rfl, Below.refl _ _⟩
  case round =>
    obtain ⟨k, hk, rfl, hgood, hb⟩ := hrel
    have Hgood := Lib.hid hgood
    clear hgood
    have hs := hb.size
    simp only [World.size_alloc] at hs
    have hbw : Below w.heap.size w wr := Below.trans (b := _) (by go_grown) (hb.mono (by omega))
    have u0 : wr.cell? ⟨w.heap.size, 0, none⟩ = some (.bool false) := (hb.cell (p := ⟨w.heap.size, 0, none⟩) (by simp)).trans (by simp)
    have f0 : wr.frozen? ⟨w.heap.size, 0, none⟩ = false := (hb.frozen (p := ⟨w.heap.size, 0, none⟩) (by simp)).trans (by simp)
    by_cases hlt : k < m
    · obtain ⟨⟨x, y, z⟩, hx⟩ := getSome l k (by rw [Hn.out]; exact hlt)
      obtain ⟨b, off, rfl, hbb, c0, c1, c2⟩ := (hA.below hbw (Nat.le_refl _)).clue hx
      have hki : (k : Int) < (m : Int) := by omega
      have Hx := Lib.hid hx
      clear hx
      go_wp2_with fail
      refine (requireClue_any n x y z h1 h5 _).mono ?_
      rintro e w2 ⟨he, hb2⟩
      simp only [World.size_alloc] at hb2
      have hb3 : Below wr.heap.size wr w2 := Below.trans (b := _) (by go_grown) (hb2.mono (by omega))
      have hb4 := hb.trans (hb3.mono (by omega))
      have hb5 := hbw.trans (hb3.mono (by omega))
      have u2 := carry hb3 u0 (by omega)
      have f2 := (hb3.frozen (p := ⟨w.heap.size, 0, none⟩) (by show w.heap.size < wr.heap.size; omega)).trans f0
      have hs3 := hb3.size
      clear c0 c1 c2 u0 f0 hb2
      cases hq : isCB n (x, y, z) with
      | false =>
        have hall : r = false := by
          rw [← Hr.out, List.all_eq_false]
          exact ⟨_, List.mem_of_getElem? Hx.out, by simp [hq]⟩
        rw [hq, if_neg (by simp)] at he
        subst he hall
        refine leaves_cons (f := 61) (args := #[.pointer (some ⟨w.heap.size, 0, none⟩)]) (by simp) (by simp [go_sem]) ?_
        refine (catch_clue w.heap.size false x y z [] w2 u2 f2 (by omega)).mono ?_
        rintro e u' w'' ⟨rfl, rfl, rfl⟩
        have c3 : ((w2.alloc (Obj.cells #[.int .i64 x, .int .i64 y, .int .i64 z] 25)).setCell ⟨w.heap.size, 0, none⟩ (.bool false)).cell? ⟨w.heap.size, 0, none⟩ = some (.bool false) := by
          refine World.cell?_setCell_same' _ _ _ ?_
          rw [(World.cell?_alloc_lt _ _ _ (by show w.heap.size < w2.heap.size; omega)).trans u2]; rfl
        refine ⟨.bool false, by simp [results, Try.results40, go_sem, c3], rfl, (hb5.alloc (by omega) _).setCell (p := ⟨w.heap.size, 0, none⟩) (Nat.le_refl _) _⟩
      | true =>
        rw [hq, if_pos rfl] at he
        subst he
        go_wp2
        go_roundw
        case rel =>
          refine ⟨k + 1, by omega, by go_num, ?_, hb4⟩
          rw [List.take_add_one, Hx.out, List.all_append, Hgood.out]
          simp [hq]
        case measure => simp [intOf]; omega
    · have hkl : k = m := by omega
      have hall : r = true := by
        have e := Hgood.out
        rw [hkl, List.take_of_length_le (by rw [Hn.out]; exact Nat.le_refl _), Hr.out] at e
        exact e
      subst hkl hall
      have hge : ¬ ((k : Int) < k) := by omega
      have u1 : (wr.setCell ⟨w.heap.size, 0, none⟩ (.bool true)).cell? ⟨w.heap.size, 0, none⟩ = some (.bool true) := World.cell?_setCell_same' _ _ _ (by rw [u0]; rfl)
      have f1 : (wr.setCell ⟨w.heap.size, 0, none⟩ (.bool true)).frozen? ⟨w.heap.size, 0, none⟩ = false := (World.frozen?_setCell _ _ _ _).trans f0
      have U1 := Lib.hid u1
      have F1 := Lib.hid f1
      clear u1 f1
      go_wp2
      refine leaves_cons (f := 61) (args := #[.pointer (some ⟨w.heap.size, 0, none⟩)]) (by simp) (by simp [go_sem]) ?_
      refine (catch_none w.heap.size true _ U1.out F1.out (by simp; omega)).mono ?_
      rintro e u' w'' ⟨rfl, rfl, rfl⟩
      have c3 : (((wr.setCell ⟨w.heap.size, 0, none⟩ (.bool true)).alloc (Obj.cells #[.int .i64 0, .int .i64 0, .int .i64 0] 25)).setCell ⟨w.heap.size, 0, none⟩ (.bool true)).cell? ⟨w.heap.size, 0, none⟩ = some (.bool true) := by
        refine World.cell?_setCell_same' _ _ _ ?_
        rw [(World.cell?_alloc_lt _ _ _ (by simp; omega)).trans U1.out]; rfl
      refine ⟨.bool true, by simp [results, Try.results40, go_sem, c3], rfl, ?_⟩
      exact ((hbw.setCell (p := ⟨w.heap.size, 0, none⟩) (Nat.le_refl _) _).alloc (by simp; omega) _).setCell (p := ⟨w.heap.size, 0, none⟩) (Nat.le_refl _) _
set_option maxHeartbeats 1000000 in
set_option maxRecDepth 100000 in
theorem implIsClue_any (n k a b : Int) (w : World) :
    Calls Try.prog 12 #[.int .i64 n, .agg #[.int .i64 k, .int .i64 a, .int .i64 b]] w fun e w' => e = .returned (.bool (resIsClue n k a b)) ∧ Below w.heap.size w w' := by
  cases hg : isGuests n with
  | false =>
    rw [show resIsClue n k a b = false from by unfold resIsClue; rw [hg]; rfl]
    have Hg := Lib.hid hg
    clear hg
    go_enter Try.func12, Try.ntmps12
    go_wp2_with (go_at_call 39; refine (areGuests_any _ _).mono ?_; rw [Hg.out]; rintro e w' ⟨rfl, rfl⟩)
    go_ret
    exact ⟨rfl, by go_grown⟩
  | true =>
    have hp : 1 ≤ n ∧ n ≤ 5 := by simpa [isGuests, l1InB] using hg
    rw [show resIsClue n k a b = isCB n (k, a, b) from by unfold resIsClue; rw [hg]; rfl]
    have Hg := Lib.hid hg
    have call := fun (X : World) (A : Option Addr) (c : Nat) (hA : CRead X X.heap.size A (ccells [(k, a, b)])) => areClues_any n [(k, a, b)] A c X hp.1 hp.2 (by simp) hA
    simp only [List.all_cons, List.all_nil, Bool.and_true, List.length_cons, List.length_nil, Nat.zero_add] at call
    have Call := Lib.hid call
    clear hg call
    go_enter Try.func12, Try.ntmps12
    go_wp2_with (go_at_call 39; refine (areGuests_any _ _).mono ?_; rw [Hg.out]; rintro e w' ⟨rfl, rfl⟩)
    refine (Call.out _ _ _ ?_).mono ?_
    · intro j u hu
      refine ⟨w.heap.size + 1, 0, rfl, by simp, ?_⟩
      match j with
      | 0 => simp [ccells] at hu; subst hu; simp
      | 1 => simp [ccells] at hu; subst hu; simp
      | 2 => simp [ccells] at hu; subst hu; simp
      | j + 3 => simp [ccells] at hu
    rintro e w2 ⟨rfl, hb2⟩
    simp only [World.size_alloc] at hb2
    go_wp2
    go_ret
    exact ⟨rfl, Below.trans (b := _) (by go_grown) (hb2.mono (by omega))⟩
set_option maxHeartbeats 1000000 in
set_option maxRecDepth 100000 in
theorem isPuzzle_any (p : Int) (l : CL) (A : Option Addr) (c : Nat) (w : World) (hl : l.length ≤ 1048576) (hA : CRead w w.heap.size A (ccells l)) :
    Calls Try.prog 16 #[.agg #[.int .i64 p, .slice A l.length c]] w fun e w' => e = .returned (.bool (isU p l)) ∧ Below w.heap.size w w' := by
  cases hg : isGuests p with
  | false =>
    rw [show isU p l = false from by unfold isU; rw [hg]; rfl]
    have Hg := Lib.hid hg
    clear hg
    go_enter Try.func16, Try.ntmps16
    go_wp2_with (go_at_call 39; refine (areGuests_any _ _).mono ?_; rw [Hg.out]; rintro e w' ⟨rfl, rfl⟩)
    go_ret
    exact ⟨rfl, by go_grown⟩
  | true =>
    have hp : 1 ≤ p ∧ p ≤ 5 := by simpa [isGuests, l1InB] using hg
    obtain ⟨h1, h5⟩ := hp
    have Hg := Lib.hid hg
    by_cases h8 : (l.length : Int) ≤ 8
    · have he : isU p l = l.all (isCB p) := by unfold isU; rw [hg, show decide (l.length ≤ 8) = true from decide_eq_true (by omega)]; simp
      rw [he]
      clear hg he
      have hd : decide ((l.length : Int) ≤ 8) = true := decide_eq_true h8
      go_enter Try.func16, Try.ntmps16
      go_wp2_with (go_at_call 39; refine (areGuests_any _ _).mono ?_; rw [Hg.out]; rintro e w' ⟨rfl, rfl⟩)
      refine (areClues_any p l A c _ h1 h5 hl ((hA.below (B' := w.heap.size) (by go_grown) (Nat.le_refl _)).more (by go_size))).mono ?_
      rintro e w2 ⟨rfl, hb2⟩
      simp only [World.size_alloc] at hb2
      go_wp2
      go_ret
      exact ⟨rfl, Below.trans (b := _) (by go_grown) (hb2.mono (by omega))⟩
    · rw [show isU p l = false from by unfold isU; rw [show decide (l.length ≤ 8) = false from decide_eq_false (by omega)]; simp]
      clear hg
      have hd : decide ((l.length : Int) ≤ 8) = false := decide_eq_false h8
      go_enter Try.func16, Try.ntmps16
      go_wp2_with (go_at_call 39; refine (areGuests_any _ _).mono ?_; rw [Hg.out]; rintro e w' ⟨rfl, rfl⟩)
      go_ret
      exact ⟨rfl, by go_grown⟩
theorem implIsPuzzle_any (p : Int) (l : CL) (A : Option Addr) (c : Nat) (w : World) (hl : l.length ≤ 1048576) (hA : CRead w w.heap.size A (ccells l)) :
    Calls Try.prog 16 #[.agg #[.int .i64 p, .slice A l.length c]] w fun e w' => e = .returned (.bool (resIsPuzzle p l)) ∧ Below w.heap.size w w' := isPuzzle_any p l A c w hl hA
end Go.Proofs.Ytefkcfkicmfhlaa
/-
  'laws.FnExactIsClue' returns true, whatever its arguments: out of the contracts of the model's function and of the program's.
-/
namespace Go.Proofs.Ytefkcfkicmfhlaa
open Go.RowKit

set_option maxHeartbeats 4000000 in
set_option maxRecDepth 100000 in
theorem lawIsClue_any (i0 : Int) (ka1 kb1 kc1 : Int) (W : World)  :
    Calls Try.prog 3 #[.int .i64 i0, .agg #[.int .i64 ka1, .int .i64 kb1, .int .i64 kc1]] W fun e w' => e = .returned (.bool true) ∧ Below W.heap.size W w' := by
  have hone : (0 : Int) ≤ 1 ∧ (1 : Int) ≤ 16777216 := by omega
  obtain ⟨rb, hres⟩ : ∃ r, resIsClue i0 ka1 kb1 kc1 = r := ⟨_, rfl⟩
  have Hres := Lib.hid hres
  clear hres
  go_enter Try.func3, Try.ntmps3
  go_wp2_with fail
  refine (toClue_any ka1 kb1 kc1 _).mono ?_
  rintro e w1 ⟨rfl, hb1⟩
  simp only [World.size_alloc] at hb1
  have g1 : Below W.heap.size W w1 := Below.trans (b := _) (by go_grown) (hb1.mono (by omega))
  have s1 := hb1.size
  simp only [World.size_alloc] at s1
  have f1_0 : w1.cell? ⟨W.heap.size, 0, none⟩ = some (.int .i64 ka1) := carry hb1 (by simp) (by omega)
  have f1_1 : w1.cell? ⟨W.heap.size, 1, none⟩ = some (.int .i64 kb1) := carry hb1 (by simp) (by omega)
  have f1_2 : w1.cell? ⟨W.heap.size, 2, none⟩ = some (.int .i64 kc1) := carry hb1 (by simp) (by omega)
  have k1 : Below W.heap.size W w1 := g1
  go_wp2_with fail
  refine (specIsClue_any i0 ka1 kb1 kc1 _ ).mono ?_
  rw [Hres.out]
  rintro e w2 ⟨rfl, hb2⟩
  have g2 : Below w1.heap.size w1 w2 := hb2
  have s2 := hb2.size
  have f2_0 := carry g2 f1_0 (by omega)
  have f2_1 := carry g2 f1_1 (by omega)
  have f2_2 := carry g2 f1_2 (by omega)
  have k2 := k1.trans (g2.mono k1.size)
  clear f1_0 f1_1 f1_2
  go_wp2_with fail
  refine (toClue_any ka1 kb1 kc1 _).mono ?_
  rintro e w3 ⟨rfl, hb3⟩
  have g3 : Below w2.heap.size w2 w3 := hb3
  have s3 := hb3.size
  have f3_0 := carry g3 f2_0 (by omega)
  have f3_1 := carry g3 f2_1 (by omega)
  have f3_2 := carry g3 f2_2 (by omega)
  have k3 := k2.trans (g3.mono k2.size)
  clear f2_0 f2_1 f2_2
  go_wp2_with fail
  refine (implIsClue_any i0 ka1 kb1 kc1 _ ).mono ?_
  rw [Hres.out]
  rintro e w4 ⟨rfl, hb4⟩
  have g4 : Below w3.heap.size w3 w4 := hb4
  have s4 := hb4.size
  have f4_0 := carry g4 f3_0 (by omega)
  have f4_1 := carry g4 f3_1 (by omega)
  have f4_2 := carry g4 f3_2 (by omega)
  have k4 := k3.trans (g4.mono k3.size)
  clear f3_0 f3_1 f3_2
  go_wp2
  go_ret
  exact ⟨rfl, k4⟩
end Go.Proofs.Ytefkcfkicmfhlaa
/-
  THE PROGRAM's HEAD, LOOKED AT ONCE: which make it is, and that a call may enter it. (The head's text is long: the kernel must not read it twice.)
-/
namespace Go.Proofs.Ytefkcfkicmfhlaa

theorem make_of {P : Program} {rest : List (List Char)} (h : behindMainWord (wordsSigns P.initOrder.toList) = "cut".toList :: rest) : P.make = some .cut := by
  unfold Program.make
  rw [h]
  rfl
theorem strip_cut (rest : List (List Char)) : stripLifts liftWords ("cut".toList :: rest) = ([], "cut".toList :: rest) := rfl
theorem lifts_of {P : Program} {rest : List (List Char)} (h : behindMainWord (wordsSigns P.initOrder.toList) = "cut".toList :: rest) : P.headLifts = [] := by
  unfold Program.headLifts
  rw [h, strip_cut]
  rfl
theorem final_of {P : Program} {rest : List (List Char)} (h : behindMainWord (wordsSigns P.initOrder.toList) = "cut".toList :: rest) : P.liftsFinal = false := by
  unfold Program.liftsFinal
  rw [lifts_of h, h]
  rfl
theorem enter_of {P : Program} {rest : List (List Char)} (h : behindMainWord (wordsSigns P.initOrder.toList) = "cut".toList :: rest) (h1 : P.laysLater = false) (h2 : P.bearsReflect = false) (h3 : P.doorFits [] = true) : P.mayEnter = true := by
  unfold Program.mayEnter
  rw [h]
  show (_ || _ || _) = true
  rw [strip_cut, h1, h2, h3]
  rfl
end Go.Proofs.Ytefkcfkicmfhlaa
/-
  THE PROGRAM's CLOSED FACTS, EACH ONCE; and how a row's facts are put together out of them.
-/
namespace Go.Proofs.Ytefkcfkicmfhlaa
open Go.ChangeShapes Go.WideShapes Go.ChangeAt Go.RowKit

def headSigns : List Char := ([104, 97, 114, 110, 101, 115, 115, 32, 100, 56, 54, 53, 97, 101, 100, 57, 55, 100, 98, 48, 53, 51, 97, 99, 53, 50, 57, 102, 57, 54, 50, 49, 97, 98, 56, 51, 101, 55, 98, 48, 51, 56, 48, 53, 98, 50, 53, 98, 101, 54, 56, 48, 51, 53, 51, 101, 54, 97, 99, 48, 99, 54, 97, 102, 55, 99, 50, 53, 53, 100, 50, 98, 32, 99, 117, 116, 32, 97, 116, 32, 108, 111, 111, 112, 46, 101, 120, 97, 109, 112, 108, 101, 47, 103, 48, 49, 50, 53, 55, 47, 108, 97, 119, 115, 46, 70, 110, 69, 120, 97, 99, 116, 73, 115, 67, 108, 117, 101, 32, 108, 111, 111, 112, 46, 101, 120, 97, 109, 112, 108, 101, 47, 103, 48, 49, 50, 53, 55, 47, 108, 97, 119, 115, 46, 70, 110, 69, 120, 97, 99, 116, 73, 115, 80, 117, 122, 122, 108, 101, 32, 108, 111, 111, 112, 46, 101, 120, 97, 109, 112, 108, 101, 47, 103, 48, 49, 50, 53, 55, 47, 108, 97, 119, 115, 46, 70, 110, 69, 120, 97, 99, 116, 68, 114, 111, 112, 67, 108, 117, 101, 32, 108, 111, 111, 112, 46, 101, 120, 97, 109, 112, 108, 101, 47, 103, 48, 49, 50, 53, 55, 47, 108, 97, 119, 115, 46, 70, 110, 69, 120, 97, 99, 116, 65, 100, 100, 67, 108, 117, 101, 32, 108, 111, 111, 112, 46, 101, 120, 97, 109, 112, 108, 101, 47, 103, 48, 49, 50, 53, 55, 47, 108, 97, 119, 115, 46, 70, 110, 69, 120, 97, 99, 116, 70, 105, 114, 115, 116, 80, 97, 105, 114, 105, 110, 103, 32, 108, 111, 111, 112, 46, 101, 120, 97, 109, 112, 108, 101, 47, 103, 48, 49, 50, 53, 55, 47, 108, 97, 119, 115, 46, 70, 110, 69, 120, 97, 99, 116, 67, 111, 117, 110, 116, 80, 97, 105, 114, 105, 110, 103, 115, 32, 108, 111, 111, 112, 46, 101, 120, 97, 109, 112, 108, 101, 47, 103, 48, 49, 50, 53, 55, 47, 108, 97, 119, 115, 46, 70, 110, 69, 120, 97, 99, 116, 77, 111, 115, 116, 73, 110, 80, 97, 105, 114, 115] : List Nat).map Char.ofNat
set_option maxRecDepth 100000 in
theorem Try.initOrder_is : Try.prog.initOrder = String.ofList headSigns := by kernel_rfl
theorem Try.initOrder_signs : Try.prog.initOrder.toList = headSigns := by rw [Try.initOrder_is]; exact String.toList_ofList
set_option maxRecDepth 100000 in
theorem head_words : (behindMainWord (wordsSigns headSigns)).take 1 = ["cut".toList] := by kernel_rfl
theorem Try.words : ∃ rest, behindMainWord (wordsSigns Try.prog.initOrder.toList) = "cut".toList :: rest := by
  rw [Try.initOrder_signs]
  have h := List.take_append_drop 1 (behindMainWord (wordsSigns headSigns))
  rw [head_words] at h
  exact ⟨_, h.symm⟩
theorem Try.make : Try.prog.make = some .cut := by obtain ⟨_, h⟩ := Try.words; exact make_of h
theorem Try.liftsFinal : Try.prog.liftsFinal = false := by obtain ⟨_, h⟩ := Try.words; exact final_of h
theorem Try.laysLater : Try.prog.laysLater = false := by kernel_rfl
theorem Try.bearsReflect : Try.prog.bearsReflect = false := by kernel_rfl
theorem Try.doorFits : Try.prog.doorFits [] = true := by kernel_rfl
theorem Try.mayEnter : Try.prog.mayEnter = true := by obtain ⟨_, h⟩ := Try.words; exact enter_of h Try.laysLater Try.bearsReflect Try.doorFits
theorem Try.mapsRowed : mapsRowed Try.prog = true := by kernel_rfl
theorem Try.stops : (Try.prog.stops == []) = true := by kernel_rfl
theorem Try.stopKnobs : (Try.prog.stopKnobs == []) = true := by kernel_rfl
theorem Try.plainKeys : Try.prog.plainKeys = true := by kernel_rfl
theorem Try.stopsHeard : Try.prog.stopsHeard = true := by kernel_rfl

/-- What the types of one law give: closed facts on its parameters and its result. -/
def typeFacts (P : Program) (fn : Func) (s : ChangeSpec) (c : OpenClaim) : Bool :=
  fn.params.all (P.readableRec ·) && namedTie P c.named s.vars && (c.stops == []) && (c.knobs == []) &&
  (c.maps == (fn.params.toList ++ s.plain.varTypes P).any (P.mapsRec ·)) && (c.ifaces == (fn.params.toList ++ s.plain.varTypes P).any (P.ifacesRec ·)) && (c.mapsOut == P.mapsAmong fn.resultTypes.toList) &&
  (c.loops == (fn.params.toList ++ s.plain.varTypes P).any (P.loopsFrom ·)) && (c.wideKeys == (fn.params.toList ++ s.plain.varTypes P ++ fn.resultTypes.toList).any (P.wideKeysFrom ·)) &&
  s.vars.all (P.varReadable ·) && fn.resultTypes.all (fun t => P.readableRec t && decide (t < P.types.size)) && (c.ifacesOut == fn.resultTypes.toList.any (P.ifacesRec ·)) && (c.loopsOut == fn.resultTypes.toList.any (P.loopsFrom ·)) && c.shortTexts.isNone &&
  (c.kinds == (if c.domain.isEmpty then [] else fn.params.toList.map fun t => match P.underlying t with | some (.int k) => some k | _ => none)) && (c.pinned == c.pinnedBy) &&
  (c.veiled == (fn.params.toList ++ s.plain.varTypes P ++ fn.resultTypes.toList).any (P.veiledRec ·)) && c.veiledFits P fn.params.toList (fn.params.toList ++ s.plain.varTypes P ++ fn.resultTypes.toList)
theorem joined_all {P : Program} {f : FuncId} {fn : Func} {s : ChangeSpec} {c : OpenClaim} (k1 : c.wf (OpenSpec.ofChange s) = true) (kt : typeFacts P fn s c = true)
    (k10 : (c.inPlace == P.inPlace f) = true) (k11 : (c.unfollowed == P.unfollowed f) = true) (k12 : (c.recurses == P.recurses f) = true) (k13 : (c.named == P.varsNamed f) = true)
    (e2 : laidOutB P = true) (e3 : mapsRowed P = true) (e7 : (P.stops == []) = true) (e9 : (P.stopKnobs == []) = true) (e22 : (c.plainKeys == P.plainKeys) = true) (e23 : P.stopsHeard = true) (e24 : P.mayEnter = true)
    (e24b : (c.lifted == P.liftsFinal) = true) (e24c : (P.make == some c.make) = true) : joinedFacts P f fn s c = true := by
  unfold typeFacts at kt
  unfold joinedFacts
  simp only [Bool.and_eq_true] at kt ⊢
  obtain ⟨⟨⟨⟨⟨⟨⟨⟨⟨⟨⟨⟨⟨⟨⟨⟨⟨t1, t2⟩, t3⟩, t4⟩, t5⟩, t6⟩, t7⟩, t8⟩, t9⟩, t10⟩, t11⟩, t12⟩, t13⟩, t14⟩, t15⟩, t16⟩, t17⟩, t18⟩ := kt
  exact ⟨⟨⟨⟨⟨⟨⟨⟨⟨⟨⟨⟨⟨⟨⟨⟨⟨⟨⟨⟨⟨⟨⟨⟨⟨⟨⟨⟨⟨⟨⟨k1, e2⟩, e3⟩, t1⟩, t2⟩, t3⟩, e7⟩, t4⟩, e9⟩, k10⟩, k11⟩, k12⟩, k13⟩, t5⟩, t6⟩, t7⟩, t8⟩, t9⟩, t10⟩, t11⟩, t12⟩, t13⟩, e22⟩, t14⟩, e23⟩, e24⟩, e24b⟩, e24c⟩, t15⟩, t16⟩, t17⟩, t18⟩
theorem joined_of {f : FuncId} {fn : Func} {s : ChangeSpec} {c : OpenClaim} (k1 : c.wf (OpenSpec.ofChange s) = true) (kt : typeFacts Try.prog fn s c = true)
    (k10 : (c.inPlace == Try.prog.inPlace f) = true) (k11 : (c.unfollowed == Try.prog.unfollowed f) = true) (k12 : (c.recurses == Try.prog.recurses f) = true) (k13 : (c.named == Try.prog.varsNamed f) = true)
    (k22 : c.plainKeys = true) (k24b : c.lifted = false) (k24c : c.make = .cut) : joinedFacts Try.prog f fn s c = true :=
  joined_all k1 kt k10 k11 k12 k13 Try.laidOut Try.mapsRowed Try.stops Try.stopKnobs (by rw [k22, Try.plainKeys]; rfl) Try.stopsHeard Try.mayEnter (by rw [k24b, Try.liftsFinal]; rfl) (by rw [k24c, Try.make]; rfl)
end Go.Proofs.Ytefkcfkicmfhlaa
