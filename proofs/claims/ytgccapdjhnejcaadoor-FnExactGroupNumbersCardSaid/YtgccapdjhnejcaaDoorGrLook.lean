/-
  THE MODEL's LOOK FOR ALL GROUPS ('spec.grLook', 'spec.grGroups'), by its contract: what it has found grows in a cell of its caller's.
-/
import Derived.Test.YtgccapdjhnejcaaDoorTrG
import Derived.Test.YtgccapdjhnejcaaDoorThrees
import Derived.Deep.RegionLaw
import Derived.Deep.AppendLies
namespace Go.Proofs.YtgccapdjhnejcaaDoor
open Go.RowKit

/-- the longer lists of tied candidates behind those told, in order -/
def subsC (t : Nat → Nat → Bool) : List Int → List Nat → List (List Int)
  | _, [] => []
  | told, a :: cs => (told ++ [(a : Int)]) :: (subsC t (told ++ [(a : Int)]) (cs.filter (t a)) ++ subsC t told cs)
termination_by _ cs => cs.length
decreasing_by
  · simp only [List.length_cons, List.length_unattach]
    refine Nat.lt_succ_of_le (Nat.le_trans (List.length_filter_le _ _) ?_)
    simp
  · simp
theorem subsC_nil (t : Nat → Nat → Bool) (told : List Int) : subsC t told [] = [] := by simp [subsC]
theorem subsC_cons (t : Nat → Nat → Bool) (told : List Int) (a : Nat) (cs : List Nat) : subsC t told (a :: cs) = (told ++ [(a : Int)]) :: (subsC t (told ++ [(a : Int)]) (cs.filter (t a)) ++ subsC t told cs) := by rw [subsC]
theorem subsC_few (t : Nat → Nat → Bool) : ∀ (told : List Int) (cs : List Nat), (subsC t told cs).length + 1 ≤ 2 ^ cs.length := by
  intro told cs
  induction h : cs.length using Nat.strongRecOn generalizing told cs with
  | _ n ih =>
    match cs with
    | [] => rw [subsC_nil]; simp at h; subst h; simp
    | a :: cs =>
      simp only [List.length_cons] at h
      have h0 : (cs.filter (t a)).length ≤ cs.length := List.length_filter_le _ _
      have h1 := ih (cs.filter (t a)).length (by omega) (told ++ [(a : Int)]) _ rfl
      have h2 := ih cs.length (by omega) told _ rfl
      have h3 : 2 ^ (cs.filter (t a)).length ≤ 2 ^ cs.length := Nat.pow_le_pow_right (by omega) h0
      rw [subsC_cons, ← h, Nat.pow_succ]
      simp only [List.length_cons, List.length_append]
      omega
/-- the world behind a look: all below the found one's cell is as it was, and all rows of numbers above it -/
structure Kept (o : Nat) (w w' : World) : Prop where
  low : Below o w w'
  rows : ∀ (A : Option Addr) (c : Nat) (x : List Int), w.ownsRow (o + 1) 3 1 (.slice A x.length c) x.length (icells x) → w'.ownsRow (o + 1) 3 1 (.slice A x.length c) x.length (icells x)
theorem Kept.refl (o : Nat) (w : World) : Kept o w w := ⟨Below.refl _ _, fun _ _ _ h => h⟩
theorem Kept.trans {o : Nat} {a b c : World} (h : Kept o a b) (k : Kept o b c) : Kept o a c := ⟨h.low.trans k.low, fun A c x hx => k.rows A c x (h.rows A c x hx)⟩
theorem Kept.of_below {o : Nat} {w w' : World} (h : Below w.heap.size w w') (ho : o ≤ w.heap.size) : Kept o w w' := ⟨h.mono ho, fun _ _ _ hx => own_below hx h (Nat.le_refl _)⟩
/-- what has been found, in its cell -/
structure Found (w : World) (o : Nat) (LL : List (List Int)) (A : Option Addr) (c : Nat) (hs : List Value) : Prop where
  box : w.heap[o]? = some (.cells #[.slice A LL.length c] 48 (0, 0))
  rows : LRows w (o + 1) (.slice A LL.length c) LL hs
section
variable {w w' : World} {o c : Nat} {LL : List (List Int)} {A : Option Addr} {hs : List Value}
theorem Found.lt (h : Found w o LL A c hs) : o < w.heap.size := (Array.getElem?_eq_some_iff.1 h.box).1
theorem Found.below (h : Found w o LL A c hs) (hb : Below w.heap.size w w') : Found w' o LL A c hs := ⟨by rw [hb.block o h.lt]; exact h.box, h.rows.below hb⟩
theorem Found.cell (h : Found w o LL A c hs) : w.cell? ⟨o, 0, none⟩ = some (.slice A LL.length c) := by rw [cell_of_row _ _ _ _ _ _ h.box]; rfl
theorem Found.thawed (h : Found w o LL A c hs) : w.frozen? ⟨o, 0, none⟩ = false := frozen_of_row _ _ 0 _ _ h.box
theorem Found.push (h : Found w o LL A c hs) {q : List Int} {A2 : Option Addr} {c2 : Nat} (own2 : w.ownsRow (o + 1) 3 1 (.slice A2 q.length c2) q.length (icells q))
    {w3 : World} {g3 c3 : Nat} (own3 : w3.ownsRow (o + 1) 25 1 (.slice (some ⟨g3, 0, none⟩) (LL.length + 1) c3) (LL.length + 1) (hs ++ [.slice A2 q.length c2]))
    (gr3 : (w.alloc (Obj.cells #[.slice A2 q.length c2] 25)).grownBy w3 (Value.slice A LL.length c).ownBlock) :
    w3.cell? ⟨o, 0, none⟩ = some (.slice A LL.length c) ∧ w3.frozen? ⟨o, 0, none⟩ = false ∧ w3.heap.size ≥ w.heap.size ∧
    Found (w3.setCell ⟨o, 0, none⟩ (.slice (some ⟨g3, 0, none⟩) (LL.length + 1) c3)) o (LL ++ [q]) (some ⟨g3, 0, none⟩) c3 (hs ++ [.slice A2 q.length c2]) ∧ Kept o w (w3.setCell ⟨o, 0, none⟩ (.slice (some ⟨g3, 0, none⟩) (LL.length + 1) c3)) := by
  obtain ⟨X, hX⟩ : ∃ X, w.alloc (Obj.cells #[.slice A2 q.length c2] 25) = X := ⟨_, rfl⟩
  have kX : Below w.heap.size w X := by rw [← hX]; go_grown
  have zX : X.heap.size = w.heap.size + 1 := by rw [← hX]; simp
  have nX : X.heap[w.heap.size]? = some (Obj.cells #[.slice A2 q.length c2] 25 (0, 0)) := by rw [← hX]; exact heap_alloc_new w _
  rw [hX] at gr3
  have hlt := h.lt
  have fX := h.below kX
  have ne : some o ≠ (Value.slice A LL.length c).ownBlock := fun e => by have := (fX.rows.own.lt o e.symm).1; omega
  have b3 : w3.heap[o]? = some (.cells #[.slice A LL.length c] 48 (0, 0)) := by rw [gr3.block o fX.lt ne]; exact fX.box
  have s3 := gr3.size
  have r2 : LRows X (o + 1) (.slice (some ⟨w.heap.size, 0, none⟩) 1 1) [q] [.slice A2 q.length c2] := ⟨⟨by simp, .inr ⟨w.heap.size, 1, _, rfl, by omega, nX, Nat.le_refl _, by simp [maxLen], by simp, by simp⟩⟩, fun i l hi => by
    match i with
    | 0 => simp at hi; subst hi; exact ⟨A2, c2, rfl, own_below own2 kX (Nat.le_refl _)⟩
    | i + 1 => simp at hi, fun e => by simp at e⟩
  have el : (LL ++ [q]).length = LL.length + 1 := by simp
  have r3 := LRows.append fX.rows r2 own3 gr3 (by simp)
  have setg : ∀ v, w3.grownBy (w3.setCell ⟨o, 0, none⟩ v) (some o) := fun v => ⟨rfl, rfl, rfl, by simp, fun k _ hk => heap_setCell_other _ _ _ _ (fun e => hk (by rw [e]))⟩
  have low : ∀ {e : TypeId} {size n : Nat} {v : Value} {xs : List Value}, w3.ownsRow (o + 1) e size v n xs → ∀ u, (w3.setCell ⟨o, 0, none⟩ u).ownsRow (o + 1) e size v n xs := fun hv u => hv.kept (setg u) (.inr fun e => by have := (hv.lt o e).1; omega)
  refine ⟨by rw [cell_of_row _ _ _ _ _ _ b3]; rfl, frozen_of_row _ _ 0 _ _ b3, by omega, ⟨by rw [el]; exact heap_setCell_same w3 o 0 _ _ _ b3, ⟨by rw [el]; have e3 := r3.own; rw [el] at e3; exact low e3 _, fun i l hi => ?_, fun e => by simp at e⟩⟩, ?_, ?_⟩
  · obtain ⟨Ai, ci, e, oi⟩ := r3.row i l hi
    exact ⟨Ai, ci, e, low oi _⟩
  · exact (((kX.mono (Nat.le_of_lt hlt)).grown gr3 (by omega) (fun k hk => by have := (fX.rows.own.lt k hk).1; omega)).setCell (p := ⟨o, 0, none⟩) (Nat.le_refl _) _)
  · intro B d x hx
    have hx2 := own_below hx kX (Nat.le_refl _)
    exact low (hx2.kept gr3 (blocks_apart fX.rows.own hx2 (show (25 : TypeId) ≠ 3 by decide))) _
end

set_option maxHeartbeats 1000000 in
set_option maxRecDepth 100000 in
theorem grJoins_any (n a : Nat) (t : Nat → Nat → Bool) (A : Option Addr) (c : Nat) (G : Nat → Nat) (B : Nat) (q : List Int) (Bq : Option Addr) (d : Nat) (w : World) (hn : n ≤ 12) (ha : a < n) (tab : TabG w B (.slice A n c) n n G t)
    (hq : ∀ x ∈ q, 0 ≤ x ∧ x < n) (hlq : q.length ≤ 1048576) (hB : CRead w w.heap.size Bq (icells q)) :
    Calls Tryd.prog 52 #[.slice A n c, .slice Bq q.length d, .int .i64 a] w fun e w' => e = .returned (.bool (q.all fun y => t a y.toNat)) ∧ w = w' := by
  obtain ⟨g, rfl⟩ := own_form tab.own (by omega)
  have d0 := tab.outer ha
  have hai : (a : Int) < n := by omega
  go_enter Tryd.func52, Tryd.ntmps52
  go_wp2
  go_loop [11] (fun i => ∃ k : Nat, k ≤ q.length ∧ i = .int .i64 k ∧ ∀ (j : Nat) (x : Int), j < k → q[j]? = some x → t a x.toNat = true) (fun i => q.length - (intOf i).toNat)
  case atStart => exact ⟨0, Nat.zero_le _, rfl, fun j x hj => by omega⟩
  case round =>
    obtain ⟨k, hk, rfl, hg⟩ := hrel
    have Hg := Lib.hid hg
    clear hg
    by_cases hlt : k < q.length
    · obtain ⟨x, hx⟩ := getSome q k hlt
      obtain ⟨b, off, rfl, hbb, c0⟩ := hB.int hx
      have hx0 := hq x (List.mem_of_getElem? hx)
      obtain ⟨y, rfl⟩ : ∃ y : Nat, x = y := ⟨x.toNat, by omega⟩
      have hki : (k : Int) < (q.length : Int) := by omega
      have hyi : (y : Int) < n := by omega
      have d1 := tab.cell ha (show y < n by omega)
      have Hx := Lib.hid hx
      clear hx
      cases ht : t a y with
      | false =>
        have e : (q.all fun y => t a y.toNat) = false := by
          rw [List.all_eq_false]
          exact ⟨_, List.mem_of_getElem? Hx.out, by simp [ht]⟩
        have He := Lib.hid e
        rw [ht] at d1
        clear e ht
        go_wp2
        go_ret
        exact ⟨by rw [He.out]; rfl, rfl⟩
      | true =>
        rw [ht] at d1
        have Ht := Lib.hid ht
        clear ht
        go_wp2
        go_round
        case rel =>
          refine ⟨k + 1, by omega, by go_num, fun j z hj hz => ?_⟩
          by_cases hjk : j = k
          · subst hjk
            rw [Hx.out] at hz
            simp only [Option.some.injEq] at hz
            subst hz
            exact Ht.out
          · exact Hg.out j z (by omega) hz
        case measure => simp [intOf]; omega
    · have hkl : k = q.length := by omega
      have hge : ¬ ((k : Int) < (q.length : Int)) := by omega
      have e : (q.all fun y => t a y.toNat) = true := by
        rw [List.all_eq_true]
        intro x hx
        obtain ⟨j, hj, e⟩ := List.getElem_of_mem hx
        exact Hg.out j x (by omega) (by rw [List.getElem?_eq_getElem hj, e])
      have He := Lib.hid e
      clear e
      go_wp2
      go_ret
      exact ⟨by rw [He.out]; rfl, rfl⟩
set_option maxHeartbeats 4000000 in
set_option maxRecDepth 100000 in
theorem grLook_any (n : Nat) (hn : n ≤ 12) (t : Nat → Nat → Bool) (hsym : ∀ i j, t i j = t j i) (At : Option Addr) (ct : Nat) (G : Nat → Nat) (B0 : Nat) (wt : World) (tab : TabG wt B0 (.slice At n ct) n n G t) (o : Nat) (hwo : wt.heap.size ≤ o) :
    ∀ (m f : Nat) (q : List Int) (A : Option Addr) (c : Nat) (w : World) (LL : List (List Int)) (A0 : Option Addr) (c0 : Nat) (hs0 : List Value), n - f ≤ m → f ≤ n → q.length ≤ f → Below o wt w → (∀ x ∈ q, 0 ≤ x ∧ x < n) →
    w.ownsRow (o + 1) 3 1 (.slice A q.length c) q.length (icells q) → (q = [] → A = none ∧ c = 0) → Found w o LL A0 c0 hs0 → LL.length + (subsC t q (candR t n q f)).length + 1 ≤ 4096 →
    Calls Tryd.prog 96 #[.slice At n ct, .slice A q.length c, .int .i64 f, .pointer (some ⟨o, 0, none⟩)] w fun e w' => e = .returned (.tuple #[]) ∧ Kept o w w' ∧ ∃ A' c' hs', Found w' o (LL ++ (q :: subsC t q (candR t n q f))) A' c' hs' := by
  obtain ⟨i0, hi, hz0, hz1, hz2⟩ := info_parts Tryd.infoInt
  obtain ⟨i1, hj, hy0, hy1, hy2⟩ := info_parts Tryd.infoIntsG
  have Tab := Lib.hid tab
  clear tab
  intro m
  induction m using Nat.strongRecOn with
  | _ m ih =>
    intro f q A c w LL A0 c0 hs0 hm hf hqf hwt hq own hnil found hfew
    have hlt0 := found.lt
    have cell0 := found.cell
    have thaw0 := found.thawed
    have hLf : LL.length ≤ 4096 := by omega
    obtain ⟨R, hR⟩ : ∃ R, q :: subsC t q (candR t n q f) = R := ⟨_, rfl⟩
    rw [hR]
    have HR := Lib.hid hR
    have Hq := Lib.hid hq
    have Hfew := Lib.hid hfew
    have Hnil := Lib.hid hnil
    have Found0 := Lib.hid found
    have Own0 := Lib.hid own
    have hq100 : q.length ≤ 1048576 := by omega
    clear hR hq hfew hnil found own
    go_enter Tryd.func96, Tryd.ntmps96
    go_wp2_with fail
    go_region_law (first
      | (go_simp; go_at_call 50; refine (l1Own_all q A c w.drew hq100 (CRead.of_own (own_below Own0.out ((Below.refl _ _).drew) (Nat.le_refl _))) Hnil.out).mono ?_; rintro e w2 ⟨A2, c2, rfl, own2, hb2⟩; have hX2 : Below w.heap.size w w2 := (Below.refl _ _).drew.trans hb2; have found2 := Found0.out.below hX2; have s2 := hX2.size; have kq : ∀ ob : Obj, (w2.alloc ob).cell? ⟨o, 0, none⟩ = some (.slice A0 LL.length c0) := fun ob => (World.cell?_alloc_lt w2 _ _ (by simp; omega)).trans found2.cell; have r1 := found2.cell)
      | (refine step_append_lies _ (by rfl) _ _ _ (by rfl) (o + 1) 25 i1 _ 1 24 Tryd.underlying48 hj hy0 hy1 hy2 (by rfl) (by decide) _ LL.length hs0 (by rfl) (found2.rows.own.alloc _) ⟨w2.heap.size, 0, none⟩ 1 1 [.slice A2 q.length c2] (by rfl) rfl (one_cell (by simp)) (one_one rfl) (by decide) (by unfold maxLen; omega) (by omega) (by simp; omega) (w2.heap.size + 1) (by simp) ?_; intro g3 c3 w3 own3 gr3 hat3 hlt3; obtain ⟨y0, y1, y2, found3, kept3⟩ := found2.push (own_lower own2 (by simp; omega)) own3 gr3))
    all_goals
      have kw3 := (Kept.of_below hX2 (Nat.le_of_lt hlt0)).trans kept3
      obtain ⟨X, hX⟩ : ∃ X, w3.setCell { block := o, off := 0 } (Value.slice (some { block := g3, off := 0 }) (LL.length + 1) c3) = X := ⟨_, rfl⟩
      rw [hX] at found3 kw3 ⊢
      clear hX kept3 own3 gr3 hat3 hlt3 y0 y1 y2 own2 hX2 found2 s2 hb2 kq r1 cell0 thaw0
      have Kw3 := Lib.hid kw3
      have Found3 := Lib.hid found3
      clear kw3 found3
      go_wp2_with fail
      go_loopw [8] (fun i wr => ∃ (a : Nat) (done : List (List Int)) (A' : Option Addr) (c' : Nat) (hs' : List Value), f ≤ a ∧ a ≤ n ∧ i = .int .i64 a ∧ Kept o w wr ∧ Found wr o done A' c' hs' ∧ LL ++ R = done ++ subsC t q (candR t n q a)) (fun i _ => n - (intOf i).toNat)
      case atStart => exact ⟨f, LL ++ [q], _, _, _, Nat.le_refl _, hf, rfl, Kw3.out, Found3.out, by rw [← HR.out]; simp⟩
      case round =>
        clear Kw3 Found3
        obtain ⟨a, done, A', c', hs', hfa, han, rfl, kr, foundr, hL⟩ := hrel
        have lowr : Below o wt wr := hwt.trans kr.low
        have tabr := Tab.out.below lowr hwo
        have ownr := kr.rows A c q Own0.out
        have hltr := foundr.lt
        have hLl := congrArg List.length hL
        rw [List.length_append, List.length_append] at hLl
        have hRl : R.length = (subsC t q (candR t n q f)).length + 1 := by rw [← HR.out]; simp
        have hfw := Hfew.out
        have HL := Lib.hid hL
        have Kr := Lib.hid kr
        have Foundr := Lib.hid foundr
        have Ownr := Lib.hid ownr
        have Tabr := Lib.hid tabr
        have Lowr := Lib.hid lowr
        clear hL kr foundr ownr tabr lowr
        by_cases hlt : a < n
        · have hai : (a : Int) < n := by omega
          go_wp2_with fail
          refine (grJoins_any n a t At ct G B0 q A c _ hn hlt Tabr.out Hq.out hq100 (CRead.of_own Ownr.out)).mono ?_
          rintro e w1 ⟨rfl, rfl⟩
          cases hk : (q.all fun y => t a y.toNat) with
          | false =>
            have Hk := Lib.hid hk
            clear hk
            go_wp2
            go_roundw
            case rel => exact ⟨a + 1, done, A', c', hs', by omega, by omega, by go_num, Kr.out, Foundr.out, by rw [HL.out, candR_no hlt Hk.out]⟩
            case measure => simp [intOf]; omega
          | true =>
            have Hk := Lib.hid hk
            clear hk
            go_wp2_with fail
            refine (l1Own_all q A c wr hq100 (CRead.of_own Ownr.out) Hnil.out).mono ?_
            rintro e w5 ⟨A5, c5, rfl, own5, hb5⟩
            have s5 := hb5.size
            go_wp2_with (at_builtin; refine wpList_append_own _ rfl _ _ 25 rfl wr.heap.size 3 i0 _ 1 8 Tryd.underlying25 hi hz0 hz1 hz2 rfl (by decide) _ _ _ rfl (own5.alloc _) ⟨w5.heap.size, 0, none⟩ 1 1 [.int .i64 a] rfl rfl (one_cell (by simp)) (one_one rfl) (by unfold maxLen; omega) (by omega) (by simp; omega) ?_; intro v6 w6 own6 gr6 _; obtain ⟨A6, c6, rfl, _⟩ := own_shape own6)
            have hb6 : Below wr.heap.size wr w6 := (hb5.alloc s5 _).grown gr6 (by simp; omega) (fun k hk => (own5.lt k hk).1)
            have k6 := Kr.out.trans (Kept.of_below hb6 (Nat.le_of_lt hltr))
            have found6 := Foundr.out.below hb6
            have hll : (q ++ [(a : Int)]).length = q.length + 1 := by simp
            have e1 := candR_yes hlt Hk.out
            have e2 := candR_tied hsym n q a
            rw [show fromQ (q ++ [(a : Int)]) = a + 1 from by unfold fromQ; simp] at e2
            have hL2 := HL.out
            rw [e1, subsC_cons, e2] at hL2
            have hl2 := congrArg List.length hL2
            simp only [List.length_append, List.length_cons] at hl2
            have hfew6 : done.length + (subsC t (q ++ [(a : Int)]) (candR t n (q ++ [(a : Int)]) (a + 1))).length + 1 ≤ 4096 := by omega
            have ihc := ih (n - (a + 1)) (by omega) (a + 1) (q ++ [(a : Int)]) A6 c6 w6 done A' c' hs' (Nat.le_refl _) (by omega) (by rw [hll]; omega) (hwt.trans k6.low) (fun x hx => by rcases List.mem_append.1 hx with h | h; exact Hq.out x h; simp at h; omega)
              (by rw [icells_append, hll]; exact own_lower own6 (by omega)) (fun e => by simp at e) found6 hfew6
            rw [hll, show (((a + 1 : Nat)) : Int) = (a : Int) + 1 from by omega] at ihc
            have IHC := Lib.hid ihc
            have K6 := Lib.hid k6
            have HL2 := Lib.hid hL2
            clear ihc own5 own6 gr6 hb5 hb6 found6 k6 hL2 hl2 e1 e2 hLl HL Foundr Ownr Tabr
            go_wp2_with fail
            refine IHC.out.mono ?_
            rintro e w7 ⟨rfl, kept7, A7, c7, hs7, found7⟩
            have k7 := K6.out.trans kept7
            clear IHC kept7
            go_wp2
            go_roundw
            case rel => exact ⟨a + 1, _, A7, c7, hs7, by omega, by omega, by go_num, k7, found7, by rw [HL2.out]; simp⟩
            case measure => simp [intOf]; omega
        · have hal : a = n := by omega
          subst hal
          have hge : ¬ ((a : Int) < a) := by omega
          have e := HL.out
          rw [candR_end _ _ _ (Nat.le_refl _), subsC_nil, List.append_nil] at e
          have HE := Lib.hid e
          clear e HL
          go_wp2
          refine show _ = [] ∧ _ from ⟨rfl, .tuple #[], by simp [results, Tryd.results96, go_sem], ?_⟩
          exact ⟨rfl, Kr.out, A', c', hs', by rw [HE.out]; exact Foundr.out⟩
set_option maxHeartbeats 1000000 in
set_option maxRecDepth 100000 in
theorem grGroups_any (n : Nat) (hn : n ≤ 12) (t : Nat → Nat → Bool) (hsym : ∀ i j, t i j = t j i) (At : Option Addr) (ct : Nat) (G : Nat → Nat) (B0 : Nat) (w : World) (tab : TabG w B0 (.slice At n ct) n n G t) :
    Calls Tryd.prog 64 #[.slice At n ct] w (GotLL w ([] :: subsC t [] (List.range n))) := by
  have hc : candR t n [] 0 = List.range n := by
    unfold candR
    rw [List.filter_eq_self.2 (by simp), Nat.sub_zero, List.range_eq_range']
  have hfew := subsC_few t [] (List.range n)
  have h12 : 2 ^ (List.range n).length ≤ 2 ^ 12 := Nat.pow_le_pow_right (by omega) (by simp; omega)
  obtain ⟨X, hX⟩ : ∃ X, w.alloc (Obj.cells #[.slice none 0 0] 48) = X := ⟨_, rfl⟩
  have kX : Below w.heap.size w X := by rw [← hX]; go_grown
  have fX : Found X w.heap.size [] none 0 [] := ⟨by rw [← hX]; exact heap_alloc_new w _, LRows.none _ _⟩
  have g := grLook_any n hn t hsym At ct G B0 w tab w.heap.size (Nat.le_refl _) n 0 [] none 0 X [] none 0 [] (by omega) (by omega) (by simp) kX (by simp) (World.ownsRow_nil _ _ _ _) (fun _ => ⟨rfl, rfl⟩) fX (by rw [hc]; simp; omega)
  rw [hc] at g
  simp only [List.nil_append, List.length_nil] at g
  obtain ⟨R, hR⟩ : ∃ R, [] :: subsC t [] (List.range n) = R := ⟨_, rfl⟩
  rw [hR] at g ⊢
  have Gg := Lib.hid g
  have HX := Lib.hid hX
  have KX := Lib.hid kX
  clear g hX kX fX hfew h12 hR hc
  go_enter Tryd.func64, Tryd.ntmps64
  go_wp2_with fail
  rw [HX.out]
  refine Gg.out.mono ?_
  rintro e w4 ⟨rfl, kept, A4, c4, hs4, found4⟩
  have cell4 := found4.cell
  have k4 := KX.out.trans kept.low
  have rows4 := found4.rows.lower (B' := w.heap.size) (by omega)
  clear found4 kept Gg
  go_wp2
  go_ret
  exact ⟨A4, c4, hs4, rfl, rows4, k4⟩
theorem subsC_longer (t : Nat → Nat → Bool) : ∀ (told : List Int) (cs : List Nat), ∀ l ∈ subsC t told cs, told.length < l.length := by
  intro told cs
  induction h : cs.length using Nat.strongRecOn generalizing told cs with
  | _ n ih =>
    match cs with
    | [] => rw [subsC_nil]; simp
    | a :: cs =>
      simp only [List.length_cons] at h
      have h0 : (cs.filter (t a)).length ≤ cs.length := List.length_filter_le _ _
      rw [subsC_cons]
      intro l hl
      rcases List.mem_cons.1 hl with rfl | hl
      · simp
      · rcases List.mem_append.1 hl with hl | hl
        · have := ih _ (by omega) (told ++ [(a : Int)]) _ rfl l hl
          simp at this
          omega
        · exact ih _ (by omega) told cs rfl l hl
theorem subsC_size (t : Nat → Nat → Bool) : ∀ (k : Nat) (told : List Int) (cs : List Nat), (told :: subsC t told cs).filter (fun l => l.length == told.length + k) = listsC t k told cs := by
  intro k told cs
  induction h : cs.length using Nat.strongRecOn generalizing k told cs with
  | _ n ih =>
    match k with
    | 0 =>
      rw [listsC_zero, List.filter_cons_of_pos (by simp), List.filter_eq_nil_iff.2 (fun l hl => by have := subsC_longer t told cs l hl; simp; omega)]
    | k + 1 =>
      rw [List.filter_cons_of_neg (by simp)]
      match cs with
      | [] => rw [subsC_nil, listsC_nil]; rfl
      | a :: cs =>
        simp only [List.length_cons] at h
        have h0 : (cs.filter (t a)).length ≤ cs.length := List.length_filter_le _ _
        have h1 := ih (cs.filter (t a)).length (by omega) k (told ++ [(a : Int)]) _ rfl
        have h2 := ih cs.length (by omega) (k + 1) told cs rfl
        rw [List.filter_cons_of_neg (by simp)] at h2
        rw [show (told ++ [(a : Int)]).length + k = told.length + (k + 1) from by simp; omega] at h1
        rw [subsC_cons, ← List.cons_append, List.filter_append, h1, h2, listsC_cons]
theorem subsC_has {t : Nat → Nat → Bool} {cs : List Nat} {k : Nat} : (listsC t k [] cs).isEmpty = false ↔ ∃ l ∈ ([] :: subsC t [] cs), l.length = k := by
  rw [← subsC_size t k [] cs]
  simp only [List.isEmpty_eq_false_iff_exists_mem, List.mem_filter, beq_iff_eq, List.length_nil, Nat.zero_add]
theorem subsC_short (t : Nat → Nat → Bool) : ∀ (told : List Int) (cs : List Nat), ∀ l ∈ subsC t told cs, l.length ≤ told.length + cs.length := by
  intro told cs
  induction h : cs.length using Nat.strongRecOn generalizing told cs with
  | _ n ih =>
    match cs with
    | [] => rw [subsC_nil]; simp
    | a :: cs =>
      simp only [List.length_cons] at h
      have h0 : (cs.filter (t a)).length ≤ cs.length := List.length_filter_le _ _
      rw [subsC_cons]
      intro l hl
      rcases List.mem_cons.1 hl with rfl | hl
      · simp; omega
      · rcases List.mem_append.1 hl with hl | hl
        · have := ih _ (by omega) (told ++ [(a : Int)]) _ rfl l hl
          simp at this
          omega
        · have := ih _ (by omega) told cs rfl l hl
          omega
end Go.Proofs.YtgccapdjhnejcaaDoor
