/-
  Texts put together for the claim of 'FriendThrees' (pack 5): GrLook, TriP, Ties3, TriQ, Tri, ThreesAt, Put.
-/
import Derived.Test.YtnpljmipicjacaaDoorFriendThreesP1
import Derived.Test.YtnpljmipicjacaaDoorFriendThreesP2
import Derived.Test.YtnpljmipicjacaaDoorFriendThreesP3
import Derived.Test.YtnpljmipicjacaaDoorFriendThreesP4
import Derived.Deep.RegionLaw
import Derived.Deep.AppendLies
import Derived.BigRegion
import Derived.BigQuiet
import Derived.Deep.DeepCutAuto
import Derived.Laws.AppendOwnNone
/-
  THE MODEL's LOOK FOR ALL GROUPS ('spec.grLook', 'spec.grGroups'), by its contract: what it has found grows in a cell of its caller's.
-/
namespace Go.Proofs.YtnpljmipicjacaaDoor
open Go.RowKit

/-- the longer lists of tied candidates behind those told, in order -/
def subsC (t : Nat → Nat → Bool) : List Int → List Nat → List (List Int)
  | _, [] => []
  | told, a :: cs => (told ++ [(a : Int)]) :: (subsC t (told ++ [(a : Int)]) (cs.filter (t a)) ++ subsC t told cs)
termination_by _ cs => cs.length
decreasing_by
  · simp only [List.length_cons, List.length_unattach]
    refine Nat.lt_succ_of_le (Nat.le_trans (List.length_filter_le _ _) ?_)
    simp
  · simp
theorem subsC_nil (t : Nat → Nat → Bool) (told : List Int) : subsC t told [] = [] := by simp [subsC]
theorem subsC_cons (t : Nat → Nat → Bool) (told : List Int) (a : Nat) (cs : List Nat) : subsC t told (a :: cs) = (told ++ [(a : Int)]) :: (subsC t (told ++ [(a : Int)]) (cs.filter (t a)) ++ subsC t told cs) := by rw [subsC]
theorem subsC_few (t : Nat → Nat → Bool) : ∀ (told : List Int) (cs : List Nat), (subsC t told cs).length + 1 ≤ 2 ^ cs.length := by
  intro told cs
  induction h : cs.length using Nat.strongRecOn generalizing told cs with
  | _ n ih =>
    match cs with
    | [] => rw [subsC_nil]; simp at h; subst h; simp
    | a :: cs =>
      simp only [List.length_cons] at h
      have h0 : (cs.filter (t a)).length ≤ cs.length := List.length_filter_le _ _
      have h1 := ih (cs.filter (t a)).length (by omega) (told ++ [(a : Int)]) _ rfl
      have h2 := ih cs.length (by omega) told _ rfl
      have h3 : 2 ^ (cs.filter (t a)).length ≤ 2 ^ cs.length := Nat.pow_le_pow_right (by omega) h0
      rw [subsC_cons, ← h, Nat.pow_succ]
      simp only [List.length_cons, List.length_append]
      omega
/-- the world behind a look: all below the found one's cell is as it was, and all rows of numbers above it -/
structure Kept (o : Nat) (w w' : World) : Prop where
  low : Below o w w'
  rows : ∀ (A : Option Addr) (c : Nat) (x : List Int), w.ownsRow (o + 1) 3 1 (.slice A x.length c) x.length (icells x) → w'.ownsRow (o + 1) 3 1 (.slice A x.length c) x.length (icells x)
theorem Kept.refl (o : Nat) (w : World) : Kept o w w := ⟨Below.refl _ _, fun _ _ _ h => h⟩
theorem Kept.trans {o : Nat} {a b c : World} (h : Kept o a b) (k : Kept o b c) : Kept o a c := ⟨h.low.trans k.low, fun A c x hx => k.rows A c x (h.rows A c x hx)⟩
theorem Kept.of_below {o : Nat} {w w' : World} (h : Below w.heap.size w w') (ho : o ≤ w.heap.size) : Kept o w w' := ⟨h.mono ho, fun _ _ _ hx => own_below hx h (Nat.le_refl _)⟩
/-- what has been found, in its cell -/
structure Found (w : World) (o : Nat) (LL : List (List Int)) (A : Option Addr) (c : Nat) (hs : List Value) : Prop where
  box : w.heap[o]? = some (.cells #[.slice A LL.length c] 42 (0, 0))
  rows : LRows w (o + 1) (.slice A LL.length c) LL hs
section
variable {w w' : World} {o c : Nat} {LL : List (List Int)} {A : Option Addr} {hs : List Value}
theorem Found.lt (h : Found w o LL A c hs) : o < w.heap.size := (Array.getElem?_eq_some_iff.1 h.box).1
theorem Found.below (h : Found w o LL A c hs) (hb : Below w.heap.size w w') : Found w' o LL A c hs := ⟨by rw [hb.block o h.lt]; exact h.box, h.rows.below hb⟩
theorem Found.cell (h : Found w o LL A c hs) : w.cell? ⟨o, 0, none⟩ = some (.slice A LL.length c) := by rw [cell_of_row _ _ _ _ _ _ h.box]; rfl
theorem Found.thawed (h : Found w o LL A c hs) : w.frozen? ⟨o, 0, none⟩ = false := frozen_of_row _ _ 0 _ _ h.box
theorem Found.push (h : Found w o LL A c hs) {q : List Int} {A2 : Option Addr} {c2 : Nat} (own2 : w.ownsRow (o + 1) 3 1 (.slice A2 q.length c2) q.length (icells q))
    {w3 : World} {g3 c3 : Nat} (own3 : w3.ownsRow (o + 1) 25 1 (.slice (some ⟨g3, 0, none⟩) (LL.length + 1) c3) (LL.length + 1) (hs ++ [.slice A2 q.length c2]))
    (gr3 : (w.alloc (Obj.cells #[.slice A2 q.length c2] 25)).grownBy w3 (Value.slice A LL.length c).ownBlock) :
    w3.cell? ⟨o, 0, none⟩ = some (.slice A LL.length c) ∧ w3.frozen? ⟨o, 0, none⟩ = false ∧ w3.heap.size ≥ w.heap.size ∧
    Found (w3.setCell ⟨o, 0, none⟩ (.slice (some ⟨g3, 0, none⟩) (LL.length + 1) c3)) o (LL ++ [q]) (some ⟨g3, 0, none⟩) c3 (hs ++ [.slice A2 q.length c2]) ∧ Kept o w (w3.setCell ⟨o, 0, none⟩ (.slice (some ⟨g3, 0, none⟩) (LL.length + 1) c3)) := by
  obtain ⟨X, hX⟩ : ∃ X, w.alloc (Obj.cells #[.slice A2 q.length c2] 25) = X := ⟨_, rfl⟩
  have kX : Below w.heap.size w X := by rw [← hX]; go_grown
  have zX : X.heap.size = w.heap.size + 1 := by rw [← hX]; simp
  have nX : X.heap[w.heap.size]? = some (Obj.cells #[.slice A2 q.length c2] 25 (0, 0)) := by rw [← hX]; exact heap_alloc_new w _
  rw [hX] at gr3
  have hlt := h.lt
  have fX := h.below kX
  have ne : some o ≠ (Value.slice A LL.length c).ownBlock := fun e => by have := (fX.rows.own.lt o e.symm).1; omega
  have b3 : w3.heap[o]? = some (.cells #[.slice A LL.length c] 42 (0, 0)) := by rw [gr3.block o fX.lt ne]; exact fX.box
  have s3 := gr3.size
  have r2 : LRows X (o + 1) (.slice (some ⟨w.heap.size, 0, none⟩) 1 1) [q] [.slice A2 q.length c2] := ⟨⟨by simp, .inr ⟨w.heap.size, 1, _, rfl, by omega, nX, Nat.le_refl _, by simp [maxLen], by simp, by simp⟩⟩, fun i l hi => by
    match i with
    | 0 => simp at hi; subst hi; exact ⟨A2, c2, rfl, own_below own2 kX (Nat.le_refl _)⟩
    | i + 1 => simp at hi, fun e => by simp at e⟩
  have el : (LL ++ [q]).length = LL.length + 1 := by simp
  have r3 := LRows.append fX.rows r2 own3 gr3 (by simp)
  have setg : ∀ v, w3.grownBy (w3.setCell ⟨o, 0, none⟩ v) (some o) := fun v => ⟨rfl, rfl, rfl, by simp, fun k _ hk => heap_setCell_other _ _ _ _ (fun e => hk (by rw [e]))⟩
  have low : ∀ {e : TypeId} {size n : Nat} {v : Value} {xs : List Value}, w3.ownsRow (o + 1) e size v n xs → ∀ u, (w3.setCell ⟨o, 0, none⟩ u).ownsRow (o + 1) e size v n xs := fun hv u => hv.kept (setg u) (.inr fun e => by have := (hv.lt o e).1; omega)
  refine ⟨by rw [cell_of_row _ _ _ _ _ _ b3]; rfl, frozen_of_row _ _ 0 _ _ b3, by omega, ⟨by rw [el]; exact heap_setCell_same w3 o 0 _ _ _ b3, ⟨by rw [el]; have e3 := r3.own; rw [el] at e3; exact low e3 _, fun i l hi => ?_, fun e => by simp at e⟩⟩, ?_, ?_⟩
  · obtain ⟨Ai, ci, e, oi⟩ := r3.row i l hi
    exact ⟨Ai, ci, e, low oi _⟩
  · exact (((kX.mono (Nat.le_of_lt hlt)).grown gr3 (by omega) (fun k hk => by have := (fX.rows.own.lt k hk).1; omega)).setCell (p := ⟨o, 0, none⟩) (Nat.le_refl _) _)
  · intro B d x hx
    have hx2 := own_below hx kX (Nat.le_refl _)
    exact low (hx2.kept gr3 (blocks_apart fX.rows.own hx2 (show (25 : TypeId) ≠ 3 by decide))) _
end

set_option maxHeartbeats 1000000 in
set_option maxRecDepth 100000 in
theorem grJoins_any (n a : Nat) (t : Nat → Nat → Bool) (A : Option Addr) (c : Nat) (G : Nat → Nat) (B : Nat) (q : List Int) (Bq : Option Addr) (d : Nat) (w : World) (hn : n ≤ 12) (ha : a < n) (tab : TabG w B (.slice A n c) n n G t)
    (hq : ∀ x ∈ q, 0 ≤ x ∧ x < n) (hlq : q.length ≤ 1048576) (hB : CRead w w.heap.size Bq (icells q)) :
    Calls Tryd.prog 40 #[.slice A n c, .slice Bq q.length d, .int .i64 a] w fun e w' => e = .returned (.bool (q.all fun y => t a y.toNat)) ∧ w = w' := by
  obtain ⟨g, rfl⟩ := own_form tab.own (by omega)
  have d0 := tab.outer ha
  have hai : (a : Int) < n := by omega
  go_enter Tryd.func40, Tryd.ntmps40
  go_wp2
  go_loop [11] (fun i => ∃ k : Nat, k ≤ q.length ∧ i = .int .i64 k ∧ ∀ (j : Nat) (x : Int), j < k → q[j]? = some x → t a x.toNat = true) (fun i => q.length - (intOf i).toNat)
  case atStart => exact ⟨0, Nat.zero_le _, rfl, fun j x hj => by omega⟩
  case round =>
    obtain ⟨k, hk, rfl, hg⟩ := hrel
    have Hg := Lib.hid hg
    clear hg
    by_cases hlt : k < q.length
    · obtain ⟨x, hx⟩ := getSome q k hlt
      obtain ⟨b, off, rfl, hbb, c0⟩ := hB.int hx
      have hx0 := hq x (List.mem_of_getElem? hx)
      obtain ⟨y, rfl⟩ : ∃ y : Nat, x = y := ⟨x.toNat, by omega⟩
      have hki : (k : Int) < (q.length : Int) := by omega
      have hyi : (y : Int) < n := by omega
      have d1 := tab.cell ha (show y < n by omega)
      have Hx := Lib.hid hx
      clear hx
      cases ht : t a y with
      | false =>
        have e : (q.all fun y => t a y.toNat) = false := by
          rw [List.all_eq_false]
          exact ⟨_, List.mem_of_getElem? Hx.out, by simp [ht]⟩
        have He := Lib.hid e
        rw [ht] at d1
        clear e ht
        go_wp2
        go_ret
        exact ⟨by rw [He.out]; rfl, rfl⟩
      | true =>
        rw [ht] at d1
        have Ht := Lib.hid ht
        clear ht
        go_wp2
        go_round
        case rel =>
          refine ⟨k + 1, by omega, by go_num, fun j z hj hz => ?_⟩
          by_cases hjk : j = k
          · subst hjk
            rw [Hx.out] at hz
            simp only [Option.some.injEq] at hz
            subst hz
            exact Ht.out
          · exact Hg.out j z (by omega) hz
        case measure => simp [intOf]; omega
    · have hkl : k = q.length := by omega
      have hge : ¬ ((k : Int) < (q.length : Int)) := by omega
      have e : (q.all fun y => t a y.toNat) = true := by
        rw [List.all_eq_true]
        intro x hx
        obtain ⟨j, hj, e⟩ := List.getElem_of_mem hx
        exact Hg.out j x (by omega) (by rw [List.getElem?_eq_getElem hj, e])
      have He := Lib.hid e
      clear e
      go_wp2
      go_ret
      exact ⟨by rw [He.out]; rfl, rfl⟩
set_option maxHeartbeats 4000000 in
set_option maxRecDepth 100000 in
theorem grLook_any (n : Nat) (hn : n ≤ 12) (t : Nat → Nat → Bool) (hsym : ∀ i j, t i j = t j i) (At : Option Addr) (ct : Nat) (G : Nat → Nat) (B0 : Nat) (wt : World) (tab : TabG wt B0 (.slice At n ct) n n G t) (o : Nat) (hwo : wt.heap.size ≤ o) :
    ∀ (m f : Nat) (q : List Int) (A : Option Addr) (c : Nat) (w : World) (LL : List (List Int)) (A0 : Option Addr) (c0 : Nat) (hs0 : List Value), n - f ≤ m → f ≤ n → q.length ≤ f → Below o wt w → (∀ x ∈ q, 0 ≤ x ∧ x < n) →
    w.ownsRow (o + 1) 3 1 (.slice A q.length c) q.length (icells q) → (q = [] → A = none ∧ c = 0) → Found w o LL A0 c0 hs0 → LL.length + (subsC t q (candR t n q f)).length + 1 ≤ 4096 →
    Calls Tryd.prog 90 #[.slice At n ct, .slice A q.length c, .int .i64 f, .pointer (some ⟨o, 0, none⟩)] w fun e w' => e = .returned (.tuple #[]) ∧ Kept o w w' ∧ ∃ A' c' hs', Found w' o (LL ++ (q :: subsC t q (candR t n q f))) A' c' hs' := by
  obtain ⟨i0, hi, hz0, hz1, hz2⟩ := info_parts Tryd.infoInt
  obtain ⟨i1, hj, hy0, hy1, hy2⟩ := info_parts Tryd.infoIntsG
  have Tab := Lib.hid tab
  clear tab
  intro m
  induction m using Nat.strongRecOn with
  | _ m ih =>
    intro f q A c w LL A0 c0 hs0 hm hf hqf hwt hq own hnil found hfew
    have hlt0 := found.lt
    have cell0 := found.cell
    have thaw0 := found.thawed
    have hLf : LL.length ≤ 4096 := by omega
    obtain ⟨R, hR⟩ : ∃ R, q :: subsC t q (candR t n q f) = R := ⟨_, rfl⟩
    rw [hR]
    have HR := Lib.hid hR
    have Hq := Lib.hid hq
    have Hfew := Lib.hid hfew
    have Hnil := Lib.hid hnil
    have Found0 := Lib.hid found
    have Own0 := Lib.hid own
    have hq100 : q.length ≤ 1048576 := by omega
    clear hR hq hfew hnil found own
    go_enter Tryd.func90, Tryd.ntmps90
    go_wp2_with fail
    go_region_law (first
      | (go_simp; go_at_call 38; refine (l1Own_all q A c w.drew hq100 (CRead.of_own (own_below Own0.out ((Below.refl _ _).drew) (Nat.le_refl _))) Hnil.out).mono ?_; rintro e w2 ⟨A2, c2, rfl, own2, hb2⟩; have hX2 : Below w.heap.size w w2 := (Below.refl _ _).drew.trans hb2; have found2 := Found0.out.below hX2; have s2 := hX2.size; have kq : ∀ ob : Obj, (w2.alloc ob).cell? ⟨o, 0, none⟩ = some (.slice A0 LL.length c0) := fun ob => (World.cell?_alloc_lt w2 _ _ (by simp; omega)).trans found2.cell; have r1 := found2.cell)
      | (refine step_append_lies _ (by rfl) _ _ _ (by rfl) (o + 1) 25 i1 _ 1 24 Tryd.underlying42 hj hy0 hy1 hy2 (by rfl) (by decide) _ LL.length hs0 (by rfl) (found2.rows.own.alloc _) ⟨w2.heap.size, 0, none⟩ 1 1 [.slice A2 q.length c2] (by rfl) rfl (one_cell (by simp)) (one_one rfl) (by decide) (by unfold maxLen; omega) (by omega) (by simp; omega) (w2.heap.size + 1) (by simp) ?_; intro g3 c3 w3 own3 gr3 hat3 hlt3; obtain ⟨y0, y1, y2, found3, kept3⟩ := found2.push (own_lower own2 (by simp; omega)) own3 gr3))
    all_goals
      have kw3 := (Kept.of_below hX2 (Nat.le_of_lt hlt0)).trans kept3
      obtain ⟨X, hX⟩ : ∃ X, w3.setCell { block := o, off := 0 } (Value.slice (some { block := g3, off := 0 }) (LL.length + 1) c3) = X := ⟨_, rfl⟩
      rw [hX] at found3 kw3 ⊢
      clear hX kept3 own3 gr3 hat3 hlt3 y0 y1 y2 own2 hX2 found2 s2 hb2 kq r1 cell0 thaw0
      have Kw3 := Lib.hid kw3
      have Found3 := Lib.hid found3
      clear kw3 found3
      go_wp2_with fail
      go_loopw [8] (fun i wr => ∃ (a : Nat) (done : List (List Int)) (A' : Option Addr) (c' : Nat) (hs' : List Value), f ≤ a ∧ a ≤ n ∧ i = .int .i64 a ∧ Kept o w wr ∧ Found wr o done A' c' hs' ∧ LL ++ R = done ++ subsC t q (candR t n q a)) (fun i _ => n - (intOf i).toNat)
      case atStart => exact ⟨f, LL ++ [q], _, _, _, Nat.le_refl _, hf, rfl, Kw3.out, Found3.out, by rw [← HR.out]; simp⟩
      case round =>
        clear Kw3 Found3
        obtain ⟨a, done, A', c', hs', hfa, han, rfl, kr, foundr, hL⟩ := hrel
        have lowr : Below o wt wr := hwt.trans kr.low
        have tabr := Tab.out.below lowr hwo
        have ownr := kr.rows A c q Own0.out
        have hltr := foundr.lt
        have hLl := congrArg List.length hL
        rw [List.length_append, List.length_append] at hLl
        have hRl : R.length = (subsC t q (candR t n q f)).length + 1 := by rw [← HR.out]; simp
        have hfw := Hfew.out
        have HL := Lib.hid hL
        have Kr := Lib.hid kr
        have Foundr := Lib.hid foundr
        have Ownr := Lib.hid ownr
        have Tabr := Lib.hid tabr
        have Lowr := Lib.hid lowr
        clear hL kr foundr ownr tabr lowr
        by_cases hlt : a < n
        · have hai : (a : Int) < n := by omega
          go_wp2_with fail
          refine (grJoins_any n a t At ct G B0 q A c _ hn hlt Tabr.out Hq.out hq100 (CRead.of_own Ownr.out)).mono ?_
          rintro e w1 ⟨rfl, rfl⟩
          cases hk : (q.all fun y => t a y.toNat) with
          | false =>
            have Hk := Lib.hid hk
            clear hk
            go_wp2
            go_roundw
            case rel => exact ⟨a + 1, done, A', c', hs', by omega, by omega, by go_num, Kr.out, Foundr.out, by rw [HL.out, candR_no hlt Hk.out]⟩
            case measure => simp [intOf]; omega
          | true =>
            have Hk := Lib.hid hk
            clear hk
            go_wp2_with fail
            refine (l1Own_all q A c wr hq100 (CRead.of_own Ownr.out) Hnil.out).mono ?_
            rintro e w5 ⟨A5, c5, rfl, own5, hb5⟩
            have s5 := hb5.size
            go_wp2_with (at_builtin; refine wpList_append_own _ rfl _ _ 25 rfl wr.heap.size 3 i0 _ 1 8 Tryd.underlying25 hi hz0 hz1 hz2 rfl (by decide) _ _ _ rfl (own5.alloc _) ⟨w5.heap.size, 0, none⟩ 1 1 [.int .i64 a] rfl rfl (one_cell (by simp)) (one_one rfl) (by unfold maxLen; omega) (by omega) (by simp; omega) ?_; intro v6 w6 own6 gr6 _; obtain ⟨A6, c6, rfl, _⟩ := own_shape own6)
            have hb6 : Below wr.heap.size wr w6 := (hb5.alloc s5 _).grown gr6 (by simp; omega) (fun k hk => (own5.lt k hk).1)
            have k6 := Kr.out.trans (Kept.of_below hb6 (Nat.le_of_lt hltr))
            have found6 := Foundr.out.below hb6
            have hll : (q ++ [(a : Int)]).length = q.length + 1 := by simp
            have e1 := candR_yes hlt Hk.out
            have e2 := candR_tied hsym n q a
            rw [show fromQ (q ++ [(a : Int)]) = a + 1 from by unfold fromQ; simp] at e2
            have hL2 := HL.out
            rw [e1, subsC_cons, e2] at hL2
            have hl2 := congrArg List.length hL2
            simp only [List.length_append, List.length_cons] at hl2
            have hfew6 : done.length + (subsC t (q ++ [(a : Int)]) (candR t n (q ++ [(a : Int)]) (a + 1))).length + 1 ≤ 4096 := by omega
            have ihc := ih (n - (a + 1)) (by omega) (a + 1) (q ++ [(a : Int)]) A6 c6 w6 done A' c' hs' (Nat.le_refl _) (by omega) (by rw [hll]; omega) (hwt.trans k6.low) (fun x hx => by rcases List.mem_append.1 hx with h | h; exact Hq.out x h; simp at h; omega)
              (by rw [icells_append, hll]; exact own_lower own6 (by omega)) (fun e => by simp at e) found6 hfew6
            rw [hll, show (((a + 1 : Nat)) : Int) = (a : Int) + 1 from by omega] at ihc
            have IHC := Lib.hid ihc
            have K6 := Lib.hid k6
            have HL2 := Lib.hid hL2
            clear ihc own5 own6 gr6 hb5 hb6 found6 k6 hL2 hl2 e1 e2 hLl HL Foundr Ownr Tabr
            go_wp2_with fail
            refine IHC.out.mono ?_
            rintro e w7 ⟨rfl, kept7, A7, c7, hs7, found7⟩
            have k7 := K6.out.trans kept7
            clear IHC kept7
            go_wp2
            go_roundw
            case rel => exact ⟨a + 1, _, A7, c7, hs7, by omega, by omega, by go_num, k7, found7, by rw [HL2.out]; simp⟩
            case measure => simp [intOf]; omega
        · have hal : a = n := by omega
          subst hal
          have hge : ¬ ((a : Int) < a) := by omega
          have e := HL.out
          rw [candR_end _ _ _ (Nat.le_refl _), subsC_nil, List.append_nil] at e
          have HE := Lib.hid e
          clear e HL
          go_wp2
          refine show _ = [] ∧ _ from ⟨rfl, .tuple #[], by simp [results, Tryd.results90, go_sem], ?_⟩
          exact ⟨rfl, Kr.out, A', c', hs', by rw [HE.out]; exact Foundr.out⟩
set_option maxHeartbeats 1000000 in
set_option maxRecDepth 100000 in
theorem grGroups_any (n : Nat) (hn : n ≤ 12) (t : Nat → Nat → Bool) (hsym : ∀ i j, t i j = t j i) (At : Option Addr) (ct : Nat) (G : Nat → Nat) (B0 : Nat) (w : World) (tab : TabG w B0 (.slice At n ct) n n G t) :
    Calls Tryd.prog 82 #[.slice At n ct] w (GotLL w ([] :: subsC t [] (List.range n))) := by
  have hc : candR t n [] 0 = List.range n := by
    unfold candR
    rw [List.filter_eq_self.2 (by simp), Nat.sub_zero, List.range_eq_range']
  have hfew := subsC_few t [] (List.range n)
  have h12 : 2 ^ (List.range n).length ≤ 2 ^ 12 := Nat.pow_le_pow_right (by omega) (by simp; omega)
  obtain ⟨X, hX⟩ : ∃ X, w.alloc (Obj.cells #[.slice none 0 0] 42) = X := ⟨_, rfl⟩
  have kX : Below w.heap.size w X := by rw [← hX]; go_grown
  have fX : Found X w.heap.size [] none 0 [] := ⟨by rw [← hX]; exact heap_alloc_new w _, LRows.none _ _⟩
  have g := grLook_any n hn t hsym At ct G B0 w tab w.heap.size (Nat.le_refl _) n 0 [] none 0 X [] none 0 [] (by omega) (by omega) (by simp) kX (by simp) (World.ownsRow_nil _ _ _ _) (fun _ => ⟨rfl, rfl⟩) fX (by rw [hc]; simp; omega)
  rw [hc] at g
  simp only [List.nil_append, List.length_nil] at g
  obtain ⟨R, hR⟩ : ∃ R, [] :: subsC t [] (List.range n) = R := ⟨_, rfl⟩
  rw [hR] at g ⊢
  have Gg := Lib.hid g
  have HX := Lib.hid hX
  have KX := Lib.hid kX
  clear g hX kX fX hfew h12 hR hc
  go_enter Tryd.func82, Tryd.ntmps82
  go_wp2_with fail
  rw [HX.out]
  refine Gg.out.mono ?_
  rintro e w4 ⟨rfl, kept, A4, c4, hs4, found4⟩
  have cell4 := found4.cell
  have k4 := KX.out.trans kept.low
  have rows4 := found4.rows.lower (B' := w.heap.size) (by omega)
  clear found4 kept Gg
  go_wp2
  go_ret
  exact ⟨A4, c4, hs4, rfl, rows4, k4⟩
theorem subsC_longer (t : Nat → Nat → Bool) : ∀ (told : List Int) (cs : List Nat), ∀ l ∈ subsC t told cs, told.length < l.length := by
  intro told cs
  induction h : cs.length using Nat.strongRecOn generalizing told cs with
  | _ n ih =>
    match cs with
    | [] => rw [subsC_nil]; simp
    | a :: cs =>
      simp only [List.length_cons] at h
      have h0 : (cs.filter (t a)).length ≤ cs.length := List.length_filter_le _ _
      rw [subsC_cons]
      intro l hl
      rcases List.mem_cons.1 hl with rfl | hl
      · simp
      · rcases List.mem_append.1 hl with hl | hl
        · have := ih _ (by omega) (told ++ [(a : Int)]) _ rfl l hl
          simp at this
          omega
        · exact ih _ (by omega) told cs rfl l hl
theorem subsC_size (t : Nat → Nat → Bool) : ∀ (k : Nat) (told : List Int) (cs : List Nat), (told :: subsC t told cs).filter (fun l => l.length == told.length + k) = listsC t k told cs := by
  intro k told cs
  induction h : cs.length using Nat.strongRecOn generalizing k told cs with
  | _ n ih =>
    match k with
    | 0 =>
      rw [listsC_zero, List.filter_cons_of_pos (by simp), List.filter_eq_nil_iff.2 (fun l hl => by have := subsC_longer t told cs l hl; simp; omega)]
    | k + 1 =>
      rw [List.filter_cons_of_neg (by simp)]
      match cs with
      | [] => rw [subsC_nil, listsC_nil]; rfl
      | a :: cs =>
        simp only [List.length_cons] at h
        have h0 : (cs.filter (t a)).length ≤ cs.length := List.length_filter_le _ _
        have h1 := ih (cs.filter (t a)).length (by omega) k (told ++ [(a : Int)]) _ rfl
        have h2 := ih cs.length (by omega) (k + 1) told cs rfl
        rw [List.filter_cons_of_neg (by simp)] at h2
        rw [show (told ++ [(a : Int)]).length + k = told.length + (k + 1) from by simp; omega] at h1
        rw [subsC_cons, ← List.cons_append, List.filter_append, h1, h2, listsC_cons]
theorem subsC_has {t : Nat → Nat → Bool} {cs : List Nat} {k : Nat} : (listsC t k [] cs).isEmpty = false ↔ ∃ l ∈ ([] :: subsC t [] cs), l.length = k := by
  rw [← subsC_size t k [] cs]
  simp only [List.isEmpty_eq_false_iff_exists_mem, List.mem_filter, beq_iff_eq, List.length_nil, Nat.zero_add]
theorem subsC_short (t : Nat → Nat → Bool) : ∀ (told : List Int) (cs : List Nat), ∀ l ∈ subsC t told cs, l.length ≤ told.length + cs.length := by
  intro told cs
  induction h : cs.length using Nat.strongRecOn generalizing told cs with
  | _ n ih =>
    match cs with
    | [] => rw [subsC_nil]; simp
    | a :: cs =>
      simp only [List.length_cons] at h
      have h0 : (cs.filter (t a)).length ≤ cs.length := List.length_filter_le _ _
      rw [subsC_cons]
      intro l hl
      rcases List.mem_cons.1 hl with rfl | hl
      · simp; omega
      · rcases List.mem_append.1 hl with hl | hl
        · have := ih _ (by omega) (told ++ [(a : Int)]) _ rfl l hl
          simp at this
          omega
        · have := ih _ (by omega) told cs rfl l hl
          omega
end Go.Proofs.YtnpljmipicjacaaDoor
/-
  TRIPLES COUNTED, as plain lists. Nothing here speaks of the program.
-/
namespace Go.Proofs.YtnpljmipicjacaaDoor
open Go.RowKit

def cnt2 (Q : Nat → Nat → Bool) : List Nat → Nat
  | [] => 0
  | b :: cs => cs.countP (Q b) + cnt2 Q cs
def cnt3 (P : Nat → Nat → Nat → Bool) : List Nat → Nat
  | [] => 0
  | a :: cs => cnt2 (P a) cs + cnt3 P cs
/-- how many of three pairs are tied -/
def tri (t : Nat → Nat → Bool) (a b c : Nat) : Nat := (if t a b then 1 else 0) + (if t a c then 1 else 0) + (if t b c then 1 else 0)
def triB (t : Nat → Nat → Bool) (i a b c : Nat) : Bool := decide (tri t a b c = i)
theorem lists1 (t : Nat → Nat → Bool) (told : List Int) (cs : List Nat) : (listsC t 1 told cs).length = cs.length := by
  induction cs with
  | nil => rw [listsC_nil]; rfl
  | cons a cs ih => rw [listsC_cons, listsC_zero, List.length_append, ih]; simp; omega
theorem lists2 (t : Nat → Nat → Bool) (told : List Int) (cs : List Nat) : (listsC t 2 told cs).length = cnt2 t cs := by
  induction cs with
  | nil => rw [listsC_nil]; rfl
  | cons a cs ih => rw [listsC_cons, List.length_append, lists1, ih, cnt2, List.countP_eq_length_filter]
theorem cnt2_filter (p : Nat → Bool) (Q : Nat → Nat → Bool) (cs : List Nat) : cnt2 Q (cs.filter p) = cnt2 (fun b c => p b && p c && Q b c) cs := by
  induction cs with
  | nil => rfl
  | cons b cs ih =>
    rw [cnt2]
    cases hp : p b with
    | true =>
      rw [List.filter_cons_of_pos hp, cnt2, ih, List.countP_filter]
      congr 1
      exact List.countP_congr fun c _ => by simp [Bool.and_comm]
    | false =>
      rw [List.filter_cons_of_neg (by simp [hp]), ih]
      have : cs.countP (fun c => p b && p c && Q b c) = 0 := List.countP_eq_zero.2 fun c _ => by simp [hp]
      simp only [hp] at this ⊢
      omega
theorem lists3 (t : Nat → Nat → Bool) (told : List Int) (cs : List Nat) : (listsC t 3 told cs).length = cnt3 (triB t 3) cs := by
  induction cs with
  | nil => rw [listsC_nil]; rfl
  | cons a cs ih =>
    rw [listsC_cons, List.length_append, lists2, ih, cnt3, cnt2_filter]
    congr 1
    congr 1
    funext b c
    unfold triB tri
    cases t a b <;> cases t a c <;> cases t b c <;> rfl
theorem cnt2_sum (Q0 Q1 Q2 Q3 : Nat → Nat → Bool) (h : ∀ b c, (if Q0 b c then 1 else 0) + (if Q1 b c then 1 else 0) + (if Q2 b c then 1 else 0) + (if Q3 b c then 1 else 0) = 1) (cs : List Nat) :
    cnt2 Q0 cs + cnt2 Q1 cs + cnt2 Q2 cs + cnt2 Q3 cs = cnt2 (fun _ _ => true) cs := by
  induction cs with
  | nil => rfl
  | cons b cs ih =>
    simp only [cnt2]
    have : cs.countP (Q0 b) + cs.countP (Q1 b) + cs.countP (Q2 b) + cs.countP (Q3 b) = cs.countP (fun _ => true) := by
      clear ih
      induction cs with
      | nil => rfl
      | cons c cs ih2 =>
        simp only [List.countP_cons]
        have := h b c
        simp only [if_true]
        omega
    omega
theorem cnt3_sum (t : Nat → Nat → Bool) (cs : List Nat) : cnt3 (triB t 0) cs + cnt3 (triB t 1) cs + cnt3 (triB t 2) cs + cnt3 (triB t 3) cs = cnt3 (fun _ _ _ => true) cs := by
  induction cs with
  | nil => rfl
  | cons a cs ih =>
    simp only [cnt3]
    have := cnt2_sum (triB t 0 a) (triB t 1 a) (triB t 2 a) (triB t 3 a) (fun b c => by
      unfold triB tri
      cases t a b <;> cases t a c <;> cases t b c <;> rfl) cs
    omega
theorem cnt3_ways : ∀ n : Fin 13, ((cnt3 (fun _ _ _ => true) (List.range n.val) : Nat) : Int) = waysI (n.val : Int) 3 := by decide
end Go.Proofs.YtnpljmipicjacaaDoor
/-
  TIES THAT ARE MISSING ('missing', 'strangersIn'), by their contracts. Written by wip/tools/gen_ties3.py.
-/
namespace Go.Proofs.YtnpljmipicjacaaDoor
open Go.RowKit

def missT (T : Nat → Nat) (n : Nat) : Nat → Nat := fun i => if i < n then (2 ^ n - 1) &&& (65535 - (T i ||| 2 ^ i)) else 0
def strangeF (n : Nat) (t : Nat → Nat → Bool) : Nat → Nat → Bool := fun a b => decide (a < n) && decide (b < n) && decide (a ≠ b) && !t a b
theorem not_bits (x : Nat) (hx : x < 65536) (b : Nat) (hb : b < 16) : (65535 - x).testBit b = !x.testBit b := by
  have := Nat.testBit_two_pow_sub_succ (n := 16) (x := x) hx b
  rw [show 2 ^ 16 - (x + 1) = 65535 - x from by omega] at this
  rw [this]
  simp [hb]
theorem miss_of {T : Nat → Nat} {t : Nat → Nat → Bool} (h : TiesOf T t) {n : Nat} (hn : n ≤ 12) : TiesOf (missT T n) (strangeF n t) := by
  refine ⟨fun a b ha hb => ?_, fun a ha => ?_⟩
  · unfold missT strangeF
    by_cases hlt : a < n
    · rw [if_pos hlt, Nat.testBit_and, Nat.testBit_two_pow_sub_one, not_bits _ (or_lt (h.lt a ha) (by omega)) b hb, Nat.testBit_or, Nat.testBit_two_pow, h.bit a b ha hb]
      by_cases h1 : a = b
      · simp [h1]
      · simp [hlt, h1]
    · rw [if_neg hlt, Nat.zero_testBit]
      simp [hlt]
  · unfold missT
    split
    · have := Nat.and_le_left (n := 2 ^ n - 1) (m := 65535 - (T a ||| 2 ^ a))
      have h2 := two_lt (a := n) (by omega)
      omega
    · omega

set_option maxHeartbeats 4000000 in
set_option maxRecDepth 100000 in
theorem missing_any (T : Nat → Nat) (hT : ∀ i, i < 12 → T i < 65536) (n : Nat) (hn : n ≤ 12) (w : World) :
    Calls Tryd.prog 77 #[.agg (tcells T), .int .i64 n] w fun e w' => e = .returned (.agg (tcells (missT T n))) ∧ Below w.heap.size w w' := by
  obtain ⟨W, hW⟩ : ∃ W, ((w.alloc (Obj.cells (tcells T) 63)).alloc (Obj.cells #[.int .u16 0, .int .u16 0, .int .u16 0, .int .u16 0, .int .u16 0, .int .u16 0, .int .u16 0, .int .u16 0, .int .u16 0, .int .u16 0, .int .u16 0, .int .u16 0] 63)).alloc (Obj.cells #[.int .u16 0, .int .u16 0, .int .u16 0, .int .u16 0, .int .u16 0, .int .u16 0, .int .u16 0, .int .u16 0, .int .u16 0, .int .u16 0, .int .u16 0, .int .u16 0] 63) = W := ⟨_, rfl⟩
  have kW : Below w.heap.size w W := by rw [← hW]; go_grown
  have zW : W.heap.size = w.heap.size + 3 := by rw [← hW]; simp
  have row0 : W.rowIs w.heap.size 63 12 (fun j => .int .u16 (T j)) := by rw [← hW]; exact ((rowIs_u16 w T _).alloc _).alloc _
  have rowR : W.rowIs (w.heap.size + 1) 63 12 (fun _ => .int .u16 0) := by
    rw [← hW]
    have := rowIs_u16 (w.alloc (Obj.cells (tcells T) 63)) (fun _ => 0) 63
    simp only [World.size_alloc] at this
    exact this.alloc _
  have rowU : W.rowIs (w.heap.size + 2) 63 12 (fun _ => .int .u16 0) := by
    rw [← hW]
    have := rowIs_u16 ((w.alloc (Obj.cells (tcells T) 63)).alloc (Obj.cells #[.int .u16 0, .int .u16 0, .int .u16 0, .int .u16 0, .int .u16 0, .int .u16 0, .int .u16 0, .int .u16 0, .int .u16 0, .int .u16 0, .int .u16 0, .int .u16 0] 63)) (fun _ => 0) 63
    simp only [World.size_alloc] at this
    exact this
  obtain ⟨E, hE⟩ : ∃ E, 2 ^ n - 1 = E := ⟨_, rfl⟩
  have hEl : E < 65536 := by have := two_lt (a := n) (by omega); omega
  have ev := fun (X : World) => everybody_any n hn X
  simp only [hE] at ev
  have EV := Lib.hid ev
  have HE := Lib.hid hE
  have R0 := Lib.hid row0
  have RR := Lib.hid rowR
  have RU := Lib.hid rowU
  have HW := Lib.hid hW
  have KW := Lib.hid kW
  clear ev hE row0 rowR rowU hW kW
  unfold tcells at HW ⊢
  go_enter Tryd.func77, Tryd.ntmps77
  go_upto_region 2 with fail
  rw [HW.out]
  go_wp2_with fail
  go_loopw [8] (fun i wr => ∃ a : Nat, a ≤ n ∧ i = .int .i64 a ∧ wr.rowIs (w.heap.size + 2) 63 12 (fun j => .int .u16 ((if j < a then missT T n j else 0 : Nat) : Int)) ∧ Below (w.heap.size + 2) W wr) (fun i _ => n - (intOf i).toNat)
  case atStart => exact ⟨0, Nat.zero_le _, rfl, RU.out.congr fun j _ => by simp, Below.refl _ _⟩
  case round =>
    obtain ⟨a, ha, rfl, rowU, hb⟩ := hrel
    have s0 := hb.size
    by_cases hlt : a < n
    · have hai : (a : Int) < n := by omega
      have ha12 : a < 12 := by omega
      have hai12 : (a : Int) < 12 := by omega
      have row := R0.out.of_block (hb.block w.heap.size (by omega))
      have q0 := row.cell ha12
      have f0 := rowU.frozen a
      have c0 := rowU.cell ha12
      have o1 := or_bit2 (hT a ha12) (show a < 16 by omega)
      have l1 := or_lt (hT a ha12) (show a < 16 by omega)
      have hm : missT T n a = E &&& (65535 - (T a ||| 2 ^ a)) := by unfold missT; rw [if_pos hlt, HE.out]
      obtain ⟨r, hr⟩ : ∃ r, T a ||| 2 ^ a = r := ⟨_, rfl⟩
      rw [hr] at o1 l1 hm
      have o2 := u16_andNot_nat E r hEl l1
      rw [← hm] at o2
      have rowN := rowU.set a (.int .u16 ((missT T n a : Nat) : Int))
      have rowN' : (wr.setCell ⟨w.heap.size + 2, a, none⟩ (.int .u16 ((missT T n a : Nat) : Int))).rowIs (w.heap.size + 2) 63 12 (fun j => .int .u16 ((if j < a + 1 then missT T n j else 0 : Nat) : Int)) := rowN.congr fun j _ => by
        by_cases h : j = a
        · rw [if_pos h, if_pos (by omega), h]
        · rw [if_neg h]
          have : (j < a) ↔ (j < a + 1) := by omega
          simp only [this]
      have kN := hb.setCell (p := ⟨w.heap.size + 2, a, none⟩) (Nat.le_refl _) (.int .u16 ((missT T n a : Nat) : Int))
      generalize missT T n a = s at *
      have kD := hb.drew.setCell (p := ⟨w.heap.size + 2, a, none⟩) (Nat.le_refl _) (.int .u16 (s : Int))
      have KD := Lib.hid kD
      have ROWN := Lib.hid rowN'
      have KN := Lib.hid kN
      clear rowN rowN' kN kD hm hr row rowU hb
      go_wp2
      go_region_law (first
        | (go_simp; go_at_call 54; refine (EV.out _).mono ?_; rintro e w' ⟨rfl, rfl⟩)
        | fail)
      all_goals (go_wp2_with fail)
      all_goals (go_roundw)
      all_goals first
        | exact ⟨a + 1, by omega, by go_num, ROWN.out, KN.out⟩
        | exact ⟨a + 1, by omega, by go_num, ROWN.out, KD.out⟩
        | exact ⟨a + 1, by omega, by go_num, ROWN.out, KN.out.drew⟩
        | (simp [intOf]; omega)
    · have hal : a = n := by omega
      subst hal
      have hge : ¬ ((a : Int) < a) := by omega
      have rowM : wr.rowIs (w.heap.size + 2) 63 12 (fun j => .int .u16 ((missT T a j : Nat) : Int)) := rowU.congr fun j _ => by unfold missT; by_cases h : j < a <;> simp [h]
      have rowR := RR.out.of_block (hb.block _ (by omega))
      have kr : Below w.heap.size w wr := KW.out.trans (hb.mono (by omega))
      obtain ⟨M, hM⟩ : ∃ M, missT T a = M := ⟨_, rfl⟩
      rw [hM] at rowM
      have HM := Lib.hid hM
      clear hM
      clear hb rowU
      have r0 := rowM.cell (i := 0) (by omega)
      have r1 := rowM.cell (i := 1) (by omega)
      have r2 := rowM.cell (i := 2) (by omega)
      have r3 := rowM.cell (i := 3) (by omega)
      have r4 := rowM.cell (i := 4) (by omega)
      have r5 := rowM.cell (i := 5) (by omega)
      have r6 := rowM.cell (i := 6) (by omega)
      have r7 := rowM.cell (i := 7) (by omega)
      have r8 := rowM.cell (i := 8) (by omega)
      have r9 := rowM.cell (i := 9) (by omega)
      have r10 := rowM.cell (i := 10) (by omega)
      have r11 := rowM.cell (i := 11) (by omega)
      have g0 := rowR.cell (i := 0) (by omega)
      have g1 := rowR.cell (i := 1) (by omega)
      have g2 := rowR.cell (i := 2) (by omega)
      have g3 := rowR.cell (i := 3) (by omega)
      have g4 := rowR.cell (i := 4) (by omega)
      have g5 := rowR.cell (i := 5) (by omega)
      have g6 := rowR.cell (i := 6) (by omega)
      have g7 := rowR.cell (i := 7) (by omega)
      have g8 := rowR.cell (i := 8) (by omega)
      have g9 := rowR.cell (i := 9) (by omega)
      have g10 := rowR.cell (i := 10) (by omega)
      have g11 := rowR.cell (i := 11) (by omega)
      have e0 := rowR.frozen 0
      have e1 := rowR.frozen 1
      have e2 := rowR.frozen 2
      have e3 := rowR.frozen 3
      have e4 := rowR.frozen 4
      have e5 := rowR.frozen 5
      have e6 := rowR.frozen 6
      have e7 := rowR.frozen 7
      have e8 := rowR.frozen 8
      have e9 := rowR.frozen 9
      have e10 := rowR.frozen 10
      have e11 := rowR.frozen 11
      have KR := Lib.hid kr
      clear rowM rowR kr
      go_wp2
      refine bodyPost_ret (v := .agg #[.int .u16 (M 0), .int .u16 (M 1), .int .u16 (M 2), .int .u16 (M 3), .int .u16 (M 4), .int .u16 (M 5), .int .u16 (M 6), .int .u16 (M 7), .int .u16 (M 8), .int .u16 (M 9), .int .u16 (M 10), .int .u16 (M 11)]) (by simp [results, Tryd.results77, go_sem, g0, g1, g2, g3, g4, g5, g6, g7, g8, g9, g10, g11]) rfl ?_
      rw [HM.out]
      exact ⟨rfl, ((((((((((((KR.out.setCell (p := ⟨w.heap.size + 1, 0, none⟩) (by simp) _).setCell (p := ⟨w.heap.size + 1, 1, none⟩) (by simp) _).setCell (p := ⟨w.heap.size + 1, 2, none⟩) (by simp) _).setCell (p := ⟨w.heap.size + 1, 3, none⟩) (by simp) _).setCell (p := ⟨w.heap.size + 1, 4, none⟩) (by simp) _).setCell (p := ⟨w.heap.size + 1, 5, none⟩) (by simp) _).setCell (p := ⟨w.heap.size + 1, 6, none⟩) (by simp) _).setCell (p := ⟨w.heap.size + 1, 7, none⟩) (by simp) _).setCell (p := ⟨w.heap.size + 1, 8, none⟩) (by simp) _).setCell (p := ⟨w.heap.size + 1, 9, none⟩) (by simp) _).setCell (p := ⟨w.heap.size + 1, 10, none⟩) (by simp) _).setCell (p := ⟨w.heap.size + 1, 11, none⟩) (by simp) _)⟩

theorem strangersIn_fact {n : Nat} {l : PL} (h : isP n l = true) : TiesOf (missT (friendsT l) n) (strangeF n (adj l)) := miss_of (friendsT_of h) (by have := (isP_range h).2; omega)
end Go.Proofs.YtnpljmipicjacaaDoor
/-
  TRIPLES COUNTED ONE AFTER THE OTHER, as plain numbers: what is counted and what is still to come. Nothing here speaks of the program.
-/
namespace Go.Proofs.YtnpljmipicjacaaDoor
open Go.RowKit

def c1 (Q : Nat → Bool) (n c : Nat) : Nat := (List.range' c (n - c)).countP Q
def c2 (Q : Nat → Nat → Bool) (n b : Nat) : Nat := cnt2 Q (List.range' b (n - b))
def c3 (P : Nat → Nat → Nat → Bool) (n a : Nat) : Nat := cnt3 P (List.range' a (n - a))
theorem range_step {n a : Nat} (h : a < n) : List.range' a (n - a) = a :: List.range' (a + 1) (n - (a + 1)) := by
  have : n - a = (n - (a + 1)) + 1 := by omega
  rw [this, List.range'_succ]
theorem c1_step {Q : Nat → Bool} {n c : Nat} (h : c < n) : c1 Q n c = (if Q c then 1 else 0) + c1 Q n (c + 1) := by
  unfold c1
  rw [range_step h, List.countP_cons]
  omega
theorem c1_end {Q : Nat → Bool} {n c : Nat} (h : n ≤ c) : c1 Q n c = 0 := by
  unfold c1
  rw [show n - c = 0 by omega]
  rfl
theorem c2_step {Q : Nat → Nat → Bool} {n b : Nat} (h : b < n) : c2 Q n b = c1 (Q b) n (b + 1) + c2 Q n (b + 1) := by
  unfold c2 c1
  rw [range_step h, cnt2]
theorem c2_end {Q : Nat → Nat → Bool} {n b : Nat} (h : n ≤ b) : c2 Q n b = 0 := by
  unfold c2
  rw [show n - b = 0 by omega]
  rfl
theorem c3_step {P : Nat → Nat → Nat → Bool} {n a : Nat} (h : a < n) : c3 P n a = c2 (P a) n (a + 1) + c3 P n (a + 1) := by
  unfold c3 c2
  rw [range_step h, cnt3]
theorem c3_end {P : Nat → Nat → Nat → Bool} {n a : Nat} (h : n ≤ a) : c3 P n a = 0 := by
  unfold c3
  rw [show n - a = 0 by omega]
  rfl
/-- how many triples have so many pairs tied -/
def totT (t : Nat → Nat → Bool) (n i : Nat) : Nat := cnt3 (triB t i) (List.range n)
theorem totT_start (t : Nat → Nat → Bool) (n i : Nat) : c3 (triB t i) n 0 = totT t n i := by
  unfold c3 totT
  rw [Nat.sub_zero, List.range_eq_range']
theorem totT_sum (t : Nat → Nat → Bool) {n : Nat} (hn : n ≤ 12) : (totT t n 0 : Int) + totT t n 1 + totT t n 2 + totT t n 3 = waysI n 3 := by
  have h1 := cnt3_sum t (List.range n)
  have h2 := cnt3_ways ⟨n, by omega⟩
  simp only at h2
  unfold totT
  omega
theorem totT_le (t : Nat → Nat → Bool) {n : Nat} (hn : n ≤ 12) (i : Nat) (hi : i < 4) : totT t n i ≤ 10000 := by
  have h := totT_sum t hn
  have h2 := (waysI_bound (n := (n : Int)) (k := 3) (.inl ⟨by omega, by omega, by omega⟩)).2
  match i, hi with
  | 0, _ => omega
  | 1, _ => omega
  | 2, _ => omega
  | 3, _ => omega
theorem tri_le (t : Nat → Nat → Bool) (a b c : Nat) : tri t a b c < 4 := by
  unfold tri
  split <;> split <;> split <;> omega
/-- the four counts -/
def quad (f : Nat → Nat) : List Int := [(f 0 : Int), (f 1 : Int), (f 2 : Int), (f 3 : Int)]
theorem quad_at (f : Nat → Nat) {k : Nat} (h : k < 4) : (quad f)[k]? = some (f k : Int) := by
  match k, h with
  | 0, _ => rfl
  | 1, _ => rfl
  | 2, _ => rfl
  | 3, _ => rfl
theorem quad_set (f : Nat → Nat) {k : Nat} (h : k < 4) : (quad f).set k ((f k : Int) + 1) = quad (upN f k (f k + 1)) := by
  match k, h with
  | 0, _ => simp [quad, upN]
  | 1, _ => simp [quad, upN]
  | 2, _ => simp [quad, upN]
  | 3, _ => simp [quad, upN]
theorem upN_count (f : Nat → Nat) (k i : Nat) : upN f k (f k + 1) i = f i + (if k = i then 1 else 0) := by
  by_cases h : k = i
  · subst h; simp [upN]
  · rw [upN_ne _ _ (fun e => h e.symm), if_neg h]; rfl
theorem cnt2_congr {Q Q' : Nat → Nat → Bool} : ∀ (cs : List Nat), cs.Pairwise (· < ·) → (∀ b c, b ∈ cs → c ∈ cs → b < c → Q b c = Q' b c) → cnt2 Q cs = cnt2 Q' cs := by
  intro cs
  induction cs with
  | nil => intro _ _; rfl
  | cons b cs ih =>
    intro hs h
    obtain ⟨hb, hs'⟩ := List.pairwise_cons.1 hs
    rw [cnt2, cnt2, ih hs' fun x y hx hy hxy => h x y (List.mem_cons_of_mem _ hx) (List.mem_cons_of_mem _ hy) hxy]
    congr 1
    exact List.countP_congr fun c hc => by rw [h b c List.mem_cons_self (List.mem_cons_of_mem _ hc) (hb c hc)]
theorem cnt3_congr {P P' : Nat → Nat → Nat → Bool} : ∀ (cs : List Nat), cs.Pairwise (· < ·) → (∀ a b c, a ∈ cs → b ∈ cs → c ∈ cs → a < b → b < c → P a b c = P' a b c) → cnt3 P cs = cnt3 P' cs := by
  intro cs
  induction cs with
  | nil => intro _ _; rfl
  | cons a cs ih =>
    intro hs h
    obtain ⟨ha, hs'⟩ := List.pairwise_cons.1 hs
    rw [cnt3, cnt3, ih hs' fun x y z hx hy hz hxy hyz => h x y z (List.mem_cons_of_mem _ hx) (List.mem_cons_of_mem _ hy) (List.mem_cons_of_mem _ hz) hxy hyz]
    congr 1
    exact cnt2_congr cs hs' fun b c hb hc hbc => h a b c List.mem_cons_self (List.mem_cons_of_mem _ hb) (List.mem_cons_of_mem _ hc) (ha b hb) hbc
theorem threes_friends (n : Nat) (l : PL) : (listsC (adj l) 3 [] (List.range n)).length = totT (adj l) n 3 := lists3 _ _ _
theorem threes_strange (n : Nat) (l : PL) : (listsC (strangeF n (adj l)) 3 [] (List.range n)).length = totT (adj l) n 0 := by
  rw [lists3]
  unfold totT
  refine cnt3_congr _ List.pairwise_lt_range fun a b c ha hb hc hab hbc => ?_
  have ha' := List.mem_range.1 ha
  have hb' := List.mem_range.1 hb
  have hc' := List.mem_range.1 hc
  unfold triB tri strangeF
  have e1 : a ≠ b := by omega
  have e2 : a ≠ c := by omega
  have e3 : b ≠ c := by omega
  simp only [ha', hb', hc', decide_true, Bool.true_and, ne_eq, e1, e2, e3, not_false_eq_true]
  cases adj l a b <;> cases adj l a c <;> cases adj l b c <;> rfl
def resCountThrees (p : Int) (l : PL) : Int × Int × Int × Bool :=
  if isP p l then ((totT (adj l) p.toNat 3 : Int), (totT (adj l) p.toNat 0 : Int), (totT (adj l) p.toNat 1 : Int) + (totT (adj l) p.toNat 2 : Int), true) else (0, 0, 0, false)
end Go.Proofs.YtnpljmipicjacaaDoor
/-
  'CountThrees': the model's and the program's, by their contracts.
-/
namespace Go.Proofs.YtnpljmipicjacaaDoor
open Go.RowKit

theorem threeB (x y z : Bool) (t : Nat → Nat → Bool) (a b c : Nat) (hx : t a b = x) (hy : t a c = y) (hz : t b c = z) : tri t a b c = (if x then 1 else 0) + (if y then 1 else 0) + (if z then 1 else 0) := by unfold tri; rw [hx, hy, hz]

def nthB (u1 u2 u3 : Bool) (j : Nat) : Bool := if j = 0 then u1 else if j = 1 then u2 else u3
def partB (u1 u2 u3 : Bool) (j : Nat) : Nat := (if 0 < j then (if u1 then 1 else 0) else 0) + (if 1 < j then (if u2 then 1 else 0) else 0) + (if 2 < j then (if u3 then 1 else 0) else 0)
theorem partB_succ (u1 u2 u3 : Bool) {j : Nat} (h : j < 3) : partB u1 u2 u3 (j + 1) = partB u1 u2 u3 j + (if nthB u1 u2 u3 j then 1 else 0) := by
  match j, h with
  | 0, _ => cases u1 <;> cases u2 <;> cases u3 <;> rfl
  | 1, _ => cases u1 <;> cases u2 <;> cases u3 <;> rfl
  | 2, _ => cases u1 <;> cases u2 <;> cases u3 <;> rfl
theorem partB_le (u1 u2 u3 : Bool) (j : Nat) : partB u1 u2 u3 j ≤ 3 := by
  unfold partB
  repeat' split
  all_goals omega
theorem nthB_cells (w : World) (ty : TypeId) (u1 u2 u3 : Bool) {j : Nat} (h : j < 3) : (w.alloc (Obj.cells #[.bool u1, .bool u2, .bool u3] ty)).cell? ⟨w.heap.size, j, none⟩ = some (.bool (nthB u1 u2 u3 j)) := by
  match j, h with
  | 0, _ => simp [nthB]
  | 1, _ => simp [nthB]
  | 2, _ => simp [nthB]

set_option maxHeartbeats 4000000 in
set_option maxRecDepth 100000 in
theorem trThrees_any (p : Int) (l : PL) (A : Option Addr) (c : Nat) (w : World) (hp : isP p l = true) (hA : CRead w w.heap.size A (pcells l)) :
    Calls Tryd.prog 51 #[.agg #[.int .i64 p, .slice A l.length c]] w fun e w' => ∃ g, e = .returned (.slice (some ⟨g, 0, none⟩) 4 4) ∧ w'.ownsRow w.heap.size 3 1 (.slice (some ⟨g, 0, none⟩) 4 4) 4 (icells (quad (totT (adj l) p.toNat))) ∧ Below w.heap.size w w' := by
  obtain ⟨i0, hi, hz0, hz1, hz2⟩ := info_parts Tryd.infoInt
  obtain ⟨n, rfl⟩ : ∃ n : Nat, p = n := ⟨p.toNat, by have := isP_range hp; omega⟩
  have hn := isP_range hp
  have hn12 : n ≤ 12 := by omega
  simp only [Int.toNat_natCast]
  have Hp := Lib.hid hp
  have htot := totT_le (adj l) hn12
  have hst := totT_start (adj l) n
  have hstep : ∀ i a, a < n → c3 (triB (adj l) i) n a = c2 (triB (adj l) i a) n (a + 1) + c3 (triB (adj l) i) n (a + 1) := fun i a h => c3_step h
  have hstep2 : ∀ i a b, b < n → c2 (triB (adj l) i a) n b = c1 (triB (adj l) i a b) n (b + 1) + c2 (triB (adj l) i a) n (b + 1) := fun i a b h => c2_step h
  have hstep1 : ∀ i a b c, c < n → c1 (triB (adj l) i a b) n c = (if triB (adj l) i a b c then 1 else 0) + c1 (triB (adj l) i a b) n (c + 1) := fun i a b c h => c1_step h
  have Htot := Lib.hid htot
  have Hst := Lib.hid hst
  have Hstep := Lib.hid hstep
  have Hstep2 := Lib.hid hstep2
  have Hstep1 := Lib.hid hstep1
  clear hp htot hst hstep hstep2 hstep1
  go_enter Tryd.func51, Tryd.ntmps51
  go_wp2_with fail
  refine (paTable_any _ _ _ _ _ Hp.out ((hA.below (B' := w.heap.size) (by go_grown) (Nat.le_refl _)).more (by go_size))).mono ?_
  simp only [Int.toNat_natCast]
  rintro e w1 ⟨A1, k1, G, rfl, tab1, hb1⟩
  simp only [World.size_alloc] at hb1 tab1
  have s1 := hb1.size
  simp only [World.size_alloc] at s1
  have kw : Below w.heap.size w w1 := Below.trans (b := _) (by go_grown) (hb1.mono (by omega))
  go_wp2_with (at_make; refine wpList_make_full _ rfl _ _ 25 rfl w1.heap.size 3 i0 _ 1 Tryd.underlying25 hi hz0 hz1 _ _ _ _ 4 rfl rfl (by omega) (by omega) (by rw [hz2]; omega) (by unfold maxLen; omega) (Nat.le_refl _) ?_; intro w2 hown2 hgr2)
  rw [show Value.cells (.int .i64 0) = #[.int .i64 0] from rfl, made_ints] at hown2
  have hb2 : Below w1.heap.size w1 w2 := below_of_gb hgr2 (Nat.le_refl _)
  have own0 : w2.ownsRow w1.heap.size 3 1 (.slice (some ⟨w1.heap.size, 0, none⟩) 4 4) 4 (icells (quad fun _ => 0)) := hown2
  have Tab := Lib.hid tab1
  clear hown2 hgr2 tab1
  have Own0 := Lib.hid own0
  have Kw := Lib.hid kw
  have Hb2 := Lib.hid hb2
  have zz := hb2.size
  clear own0 kw hb2 hb1 hA
  go_wp2
  go_loopw [16] (fun i wr => ∃ (a : Nat) (f : Nat → Nat), a ≤ n ∧ i = .int .i64 a ∧ (∀ i, f i + c3 (triB (adj l) i) n a = totT (adj l) n i) ∧ wr.ownsRow w1.heap.size 3 1 (.slice (some ⟨w1.heap.size, 0, none⟩) 4 4) 4 (icells (quad f)) ∧ Below w1.heap.size w1 wr) (fun i _ => n - (intOf i).toNat)
  case atStart => exact ⟨0, fun _ => 0, Nat.zero_le _, rfl, fun i => by rw [Hst.out, Nat.zero_add], Own0.out, Hb2.out⟩
  case round =>
    clear Own0 Hb2
    obtain ⟨a, f, ha, rfl, hf, own, hb⟩ := hrel
    have Hf := Lib.hid hf
    have Own := Lib.hid own
    have Hb := Lib.hid hb
    clear hf own hb
    by_cases hlt : a < n
    · have hai : (a : Int) < n := by omega
      go_wp2
      go_loopw [6] (fun i wb => ∃ (b : Nat) (f : Nat → Nat), a < b ∧ b ≤ n ∧ i = .int .i64 b ∧ (∀ i, f i + (c2 (triB (adj l) i a) n b + c3 (triB (adj l) i) n (a + 1)) = totT (adj l) n i) ∧ wb.ownsRow w1.heap.size 3 1 (.slice (some ⟨w1.heap.size, 0, none⟩) 4 4) 4 (icells (quad f)) ∧ Below w1.heap.size w1 wb) (fun i _ => n - (intOf i).toNat)
      case atStart => exact ⟨a + 1, f, by omega, by omega, by go_num, fun i => by rw [← Hstep.out i a hlt]; exact Hf.out i, Own.out, Hb.out⟩
      case round =>
        clear Hf Own Hb
        obtain ⟨b, f, hab, hbn, rfl, hf, own, hb⟩ := hrel
        have Hf := Lib.hid hf
        have Own := Lib.hid own
        have Hb := Lib.hid hb
        clear hf own hb
        by_cases hbt : b < n
        · have hbi : (b : Int) < n := by omega
          go_wp2
          go_loopw [7] (fun i wc => ∃ (c : Nat) (f : Nat → Nat), b < c ∧ c ≤ n ∧ i = .int .i64 c ∧ (∀ i, f i + (c1 (triB (adj l) i a b) n c + (c2 (triB (adj l) i a) n (b + 1) + c3 (triB (adj l) i) n (a + 1))) = totT (adj l) n i) ∧ wc.ownsRow w1.heap.size 3 1 (.slice (some ⟨w1.heap.size, 0, none⟩) 4 4) 4 (icells (quad f)) ∧ Below w1.heap.size w1 wc) (fun i _ => n - (intOf i).toNat)
          case atStart => exact ⟨b + 1, f, by omega, by omega, by go_num, fun i => by have h1 := Hf.out i; rw [Hstep2.out i a b hbt] at h1; omega, Own.out, Hb.out⟩
          case round =>
            clear Hf Own Hb
            obtain ⟨c, f, hbc, hcn, rfl, hf, own, hb⟩ := hrel
            by_cases hct : c < n
            · have hci : (c : Int) < n := by omega
              have tab := Tab.out.below hb (Nat.le_refl _)
              obtain ⟨g, hgA⟩ := own_form tab.own (by omega)
              subst hgA
              have d1 := tab.outer hlt
              have d2 := tab.outer hbt
              have e1 := tab.cell hlt hbt
              have e2 := tab.cell hlt hct
              have e3 := tab.cell hbt hct
              have x1 := tab.blk hlt
              have x2 := tab.blk hbt
              have zr := hb.size
              have go := own_lt tab.own
              have oo := own_lt own
              obtain ⟨u1, hu1⟩ : ∃ u, adj l a b = u := ⟨_, rfl⟩
              obtain ⟨u2, hu2⟩ : ∃ u, adj l a c = u := ⟨_, rfl⟩
              obtain ⟨u3, hu3⟩ : ∃ u, adj l b c = u := ⟨_, rfl⟩
              have htri := threeB u1 u2 u3 _ a b c hu1 hu2 hu3
              rw [hu1] at e1
              rw [hu2] at e2
              rw [hu3] at e3
              have Htri := Lib.hid htri
              have Hf := Lib.hid hf
              have Own := Lib.hid own
              have Hb := Lib.hid hb
              clear htri hf own tab hb hu1 hu2 hu3
              go_wp2
              go_region
              obtain ⟨X, hX⟩ : ∃ X, (wr.alloc (Obj.cells #[.bool u1, .bool u2, .bool u3] 4)).drew = X := ⟨_, rfl⟩
              have hb : Below w1.heap.size w1 X := by rw [← hX]; exact (Hb.out.alloc (by omega) _).drew
              have hbr : Below wr.heap.size wr X := by rw [← hX]; exact ((Below.refl _ wr).alloc (Nat.le_refl _) _).drew
              have hcell : ∀ j, j < 3 → X.cell? ⟨wr.heap.size, j, none⟩ = some (.bool (nthB u1 u2 u3 j)) := fun j hj => by rw [← hX]; exact nthB_cells wr _ u1 u2 u3 hj
              have own := own_below Own.out hbr (Nat.le_refl _)
              have zX := hbr.size
              rw [hX]
              have Hcell := Lib.hid hcell
              have OwnX := Lib.hid own
              have HbX := Lib.hid hb
              clear hX hcell own hb hbr d1 d2 e1 e2 e3 Own Hb
              go_wp2
              go_loopw [8, 58] (fun v i wx => ∃ j : Nat, j ≤ 3 ∧ i = .int .i64 j ∧ v = .int .i64 (partB u1 u2 u3 j : Nat) ∧ X = wx) (fun _ i _ => 3 - (intOf i).toNat)
              case atStart => exact ⟨0, by omega, by go_num, by go_num, rfl⟩
              case round =>
                obtain ⟨j, hj, rfl, rfl, rfl⟩ := hrel
                have hle := partB_le u1 u2 u3 j
                by_cases hj3 : j < 3
                · have hji : (j : Int) < 3 := by omega
                  have cj := Hcell.out j hj3
                  have hs := partB_succ u1 u2 u3 hj3
                  obtain ⟨m, hm⟩ : ∃ m, partB u1 u2 u3 j = m := ⟨_, rfl⟩
                  rw [hm] at hs hle ⊢
                  cases hu : nthB u1 u2 u3 j with
                  | true =>
                    rw [hu] at cj hs
                    have Hs := Lib.hid hs
                    clear hs hu hm
                    go_wp2
                    go_roundw
                    case rel => exact ⟨j + 1, by omega, by go_num, by rw [Hs.out]; simp, trivial⟩
                    case measure => simp [intOf]; omega
                  | false =>
                    rw [hu] at cj hs
                    have Hs := Lib.hid hs
                    clear hs hu hm
                    go_wp2
                    go_roundw
                    case rel => exact ⟨j + 1, by omega, by go_num, by rw [Hs.out]; simp, trivial⟩
                    case measure => simp [intOf]; omega
                · have hje : j = 3 := by omega
                  have ht : tri (adj l) a b c = partB u1 u2 u3 j := by rw [Htri.out, hje]; rfl
                  have hge : ¬ ((j : Int) < 3) := by omega
                  obtain ⟨m, hm⟩ : ∃ m, partB u1 u2 u3 j = m := ⟨_, rfl⟩
                  rw [hm] at ht hle ⊢
                  have hm4 : m < 4 := by omega
                  have hmi : (m : Int) < 4 := by omega
                  have hat := quad_at f hm4
                  have cu := own_intAt OwnX.out hat
                  have fu := OwnX.out.frozenAt m
                  have hset := own_setInt OwnX.out m ((f m : Int) + 1)
                  rw [quad_set f hm4] at hset
                  have hfm : f m ≤ 10000 := by have h1 := Hf.out m; have h2 := Htot.out m hm4; omega
                  have hnew : ∀ i, upN f m (f m + 1) i + (c1 (triB (adj l) i a b) n (c + 1) + (c2 (triB (adj l) i a) n (b + 1) + c3 (triB (adj l) i) n (a + 1))) = totT (adj l) n i := fun i => by
                    have h1 := Hf.out i
                    have h2 := Hstep1.out i a b c hct
                    rw [upN_count]
                    unfold triB at h1 h2 ⊢
                    rw [ht] at h2
                    simp only [decide_eq_true_eq] at h2
                    omega
                  have hbs := HbX.out.setCell (p := ⟨w1.heap.size, m, none⟩) (Nat.le_refl _) (.int .i64 ((f m : Int) + 1))
                  obtain ⟨f2, hf2⟩ : ∃ f2, upN f m (f m + 1) = f2 := ⟨_, rfl⟩
                  rw [hf2] at hset
                  simp only [hf2] at hnew
                  obtain ⟨F, hF⟩ : ∃ F, f m = F := ⟨_, rfl⟩
                  rw [hF] at cu hset hfm hbs
                  have Hset := Lib.hid hset
                  have Hnew := Lib.hid hnew
                  have Hbs := Lib.hid hbs
                  have Hle := Lib.hid hle
                  clear hat hset hnew hbs hm ht hF hje Hf hf2
                  go_wp2
                  go_roundw
                  case rel => exact ⟨c + 1, f2, by omega, by omega, by go_num, Hnew.out, Hset.out, Hbs.out⟩
                  case measure => simp [intOf]; omega
            · have hce : c = n := by omega
              subst hce
              have hge : ¬ ((c : Int) < c) := by omega
              have Hf := Lib.hid hf
              clear hf
              go_wp2
              go_roundw
              case rel => exact ⟨b + 1, f, by omega, by omega, by go_num, fun i => by have h1 := Hf.out i; rw [c1_end (Nat.le_refl _)] at h1; omega, own, hb⟩
              case measure => simp [intOf]; omega
        · have hbe : b = n := by omega
          subst hbe
          have hge : ¬ ((b : Int) < b) := by omega
          go_wp2
          go_roundw
          case rel => exact ⟨a + 1, f, by omega, by go_num, fun i => by have h1 := Hf.out i; rw [c2_end (Nat.le_refl _)] at h1; omega, Own.out, Hb.out⟩
          case measure => simp [intOf]; omega
    · have hae : a = n := by omega
      subst hae
      have hge : ¬ ((a : Int) < a) := by omega
      have hq : quad f = quad (totT (adj l) a) := by
        unfold quad
        have h0 := Hf.out 0
        have h1 := Hf.out 1
        have h2 := Hf.out 2
        have h3 := Hf.out 3
        rw [c3_end (Nat.le_refl _)] at h0 h1 h2 h3
        rw [← h0, ← h1, ← h2, ← h3]
        rfl
      have own := Own.out
      rw [hq] at own
      have OwnE := Lib.hid own
      clear own hq
      go_wp2
      go_ret
      exact ⟨w1.heap.size, rfl, own_lower OwnE.out (by omega), Kw.out.trans (Hb.out.mono (by omega))⟩
set_option maxHeartbeats 8000000 in
set_option maxRecDepth 100000 in
theorem strangersIn_any (p : Int) (l : PL) (A : Option Addr) (c : Nat) (w : World) (hp : isP p l = true) (hA : CRead w w.heap.size A (pcells l)) :
    Calls Tryd.prog 55 #[.agg #[.int .i64 p, .slice A l.length c]] w fun e w' => e = .returned (.agg (tcells (missT (friendsT l) p.toNat))) ∧ Below w.heap.size w w' := by
  obtain ⟨n, rfl⟩ : ∃ n : Nat, p = n := ⟨p.toNat, by have := isP_range hp; omega⟩
  have hn := isP_range hp
  have hn12 : n ≤ 12 := by omega
  rw [Int.toNat_natCast]
  have hT := friendsT_of hp
  have h1 := fun (X : World) => missing_any (friendsT l) hT.lt n hn12 X
  obtain ⟨M, hM⟩ : ∃ M, missT (friendsT l) n = M := ⟨_, rfl⟩
  simp only [hM] at h1 ⊢
  obtain ⟨F, hF⟩ : ∃ F, friendsT l = F := ⟨_, rfl⟩
  have h2 := fun (X : World) (hX : CRead X X.heap.size A (pcells l)) => friendsIn_any n l A c X hp hX
  simp only [hF] at h1 h2
  have H1 := Lib.hid h1
  have H2 := Lib.hid h2
  have Hp := Lib.hid hp
  clear hp hT h1 h2 hM hF
  go_enter Tryd.func55, Tryd.ntmps55
  go_wp2
  obtain ⟨W, hW⟩ : ∃ W, (w.alloc (Obj.cells #[.int .i64 (n : Int), .slice A l.length c] 31)).alloc (Obj.cells #[.int .u16 0, .int .u16 0, .int .u16 0, .int .u16 0, .int .u16 0, .int .u16 0, .int .u16 0, .int .u16 0, .int .u16 0, .int .u16 0, .int .u16 0, .int .u16 0] 63) = W := ⟨_, rfl⟩
  have kW : Below w.heap.size w W := by rw [← hW]; go_grown
  have zW : W.heap.size = w.heap.size + 2 := by rw [← hW]; simp
  have p0 : W.cell? ⟨w.heap.size, 0, none⟩ = some (.int .i64 n) := by rw [← hW]; exact (World.cell?_alloc_lt _ _ _ (by simp)).trans (by simp)
  have p1 : W.cell? ⟨w.heap.size, 1, none⟩ = some (.slice A l.length c) := by rw [← hW]; exact (World.cell?_alloc_lt _ _ _ (by simp)).trans (by simp)
  have rowR : W.rowIs (w.heap.size + 1) 63 12 (fun _ => .int .u16 0) := by
    rw [← hW]
    have := rowIs_u16 (w.alloc (Obj.cells #[.int .i64 (n : Int), .slice A l.length c] 31)) (fun _ => 0) 63
    simp only [World.size_alloc] at this
    exact this
  rw [hW]
  clear hW
  have RR := Lib.hid rowR
  have zW1 : w.heap.size + 1 < W.heap.size := by omega
  have zW2 : w.heap.size ≤ W.heap.size := by omega
  clear rowR zW
  unfold tcells at H1 H2
  go_region_law (first
    | (go_simp; go_at_call 46; refine (H2.out _ ((hA.below kW.drew (Nat.le_refl _)).more zW2)).mono ?_; rintro e w3 ⟨rfl, _, hb3⟩; have g3 : Below W.heap.size W w3 := (Below.refl _ _).drew.trans hb3; have y0 := carry g3 p0 (by omega); have y1 := carry g3 p1 (by omega); have s3 := g3.size; have k3 := kW.trans (g3.mono kW.size))
    | (go_simp; go_at_call 77; refine (H1.out w3).mono ?_; rintro e w4 ⟨rfl, hb4⟩; have s4 := hb4.size; have k4 := k3.trans (hb4.mono k3.size); have row4 := RR.out.of_block ((hb4.block (w.heap.size + 1) (by omega)).trans (g3.block (w.heap.size + 1) (by omega))); have r0 := row4.cell (i := 0) (by omega); have r1 := row4.cell (i := 1) (by omega); have r2 := row4.cell (i := 2) (by omega); have r3 := row4.cell (i := 3) (by omega); have r4 := row4.cell (i := 4) (by omega); have r5 := row4.cell (i := 5) (by omega); have r6 := row4.cell (i := 6) (by omega); have r7 := row4.cell (i := 7) (by omega); have r8 := row4.cell (i := 8) (by omega); have r9 := row4.cell (i := 9) (by omega); have r10 := row4.cell (i := 10) (by omega); have r11 := row4.cell (i := 11) (by omega); have e0 := row4.frozen 0; have e1 := row4.frozen 1; have e2 := row4.frozen 2; have e3 := row4.frozen 3; have e4 := row4.frozen 4; have e5 := row4.frozen 5; have e6 := row4.frozen 6; have e7 := row4.frozen 7; have e8 := row4.frozen 8; have e9 := row4.frozen 9; have e10 := row4.frozen 10; have e11 := row4.frozen 11; clear row4)
    | fail)
  all_goals
    have K4 := Lib.hid k4
    clear k4 k3 kW g3 hb3 hb4 y0 y1 p0 p1
    go_wp2
    refine bodyPost_ret (v := .agg #[.int .u16 (M 0), .int .u16 (M 1), .int .u16 (M 2), .int .u16 (M 3), .int .u16 (M 4), .int .u16 (M 5), .int .u16 (M 6), .int .u16 (M 7), .int .u16 (M 8), .int .u16 (M 9), .int .u16 (M 10), .int .u16 (M 11)]) (by simp [results, Tryd.results55, go_sem, r0, r1, r2, r3, r4, r5, r6, r7, r8, r9, r10, r11]) rfl ?_
    exact ⟨rfl, ((((((((((((K4.out.setCell (p := ⟨w.heap.size + 1, 0, none⟩) (by simp) _).setCell (p := ⟨w.heap.size + 1, 1, none⟩) (by simp) _).setCell (p := ⟨w.heap.size + 1, 2, none⟩) (by simp) _).setCell (p := ⟨w.heap.size + 1, 3, none⟩) (by simp) _).setCell (p := ⟨w.heap.size + 1, 4, none⟩) (by simp) _).setCell (p := ⟨w.heap.size + 1, 5, none⟩) (by simp) _).setCell (p := ⟨w.heap.size + 1, 6, none⟩) (by simp) _).setCell (p := ⟨w.heap.size + 1, 7, none⟩) (by simp) _).setCell (p := ⟨w.heap.size + 1, 8, none⟩) (by simp) _).setCell (p := ⟨w.heap.size + 1, 9, none⟩) (by simp) _).setCell (p := ⟨w.heap.size + 1, 10, none⟩) (by simp) _).setCell (p := ⟨w.heap.size + 1, 11, none⟩) (by simp) _)⟩
set_option maxHeartbeats 2000000 in
set_option maxRecDepth 100000 in
theorem specCountThrees_any (p : Int) (l : PL) (A : Option Addr) (c : Nat) (w : World) (hl : l.length ≤ 1048576) (hA : CRead w w.heap.size A (pcells l)) :
    Calls Tryd.prog 20 #[.agg #[.int .i64 p, .slice A l.length c]] w fun e w' => e = .returned (.tuple #[.int .i64 (resCountThrees p l).1, .int .i64 (resCountThrees p l).2.1, .int .i64 (resCountThrees p l).2.2.1, .bool (resCountThrees p l).2.2.2]) ∧ Below w.heap.size w w' := by
  have hr : CRead (w.alloc (Obj.cells #[.int .i64 p, .slice A l.length c] 31)) (w.alloc (Obj.cells #[.int .i64 p, .slice A l.length c] 31)).heap.size A (pcells l) := (hA.below (B' := w.heap.size) (by go_grown) (Nat.le_refl _)).more (by go_size)
  cases hp : isP p l with
  | false =>
    have e : resCountThrees p l = (0, 0, 0, false) := by simp [resCountThrees, hp]
    rw [e]
    have Hp := Lib.hid hp
    clear hp e
    go_enter Tryd.func20, Tryd.ntmps20
    go_wp2_with fail
    refine (paGood_any _ _ _ _ _ hl hr).mono ?_
    rw [Hp.out]
    rintro e w2 ⟨rfl, hb2⟩
    simp only [World.size_alloc] at hb2
    go_wp2
    refine bodyPost_ret (v := .tuple #[.int .i64 0, .int .i64 0, .int .i64 0, .bool false]) (by simp [results, Tryd.results20, go_sem]) rfl ?_
    exact ⟨rfl, Below.trans (b := _) (by go_grown) (hb2.mono (by omega))⟩
  | true =>
    have hn := isP_range hp
    obtain ⟨n, rfl⟩ : ∃ n : Nat, p = n := ⟨p.toNat, by omega⟩
    have h1 := totT_le (adj l) (show n ≤ 12 by omega) 1 (by omega)
    have h2 := totT_le (adj l) (show n ≤ 12 by omega) 2 (by omega)
    have e : resCountThrees n l = ((totT (adj l) n 3 : Int), (totT (adj l) n 0 : Int), (totT (adj l) n 1 : Int) + (totT (adj l) n 2 : Int), true) := by simp [resCountThrees, hp]
    rw [e]
    obtain ⟨T, hT⟩ : ∃ T, totT (adj l) n = T := ⟨_, rfl⟩
    rw [hT] at h1 h2
    simp only [hT]
    have call := fun (W : World) (hW : CRead W W.heap.size A (pcells l)) => trThrees_any n l A c W hp hW
    rw [Int.toNat_natCast, hT] at call
    have Call := Lib.hid call
    have Hp := Lib.hid hp
    clear hp e hT call
    go_enter Tryd.func20, Tryd.ntmps20
    go_wp2_with fail
    refine (paGood_any _ _ _ _ _ hl hr).mono ?_
    rw [Hp.out]
    rintro e w2 ⟨rfl, hb2⟩
    have s2 := hb2.size
    have k2 : Below w.heap.size w w2 := Below.trans (b := _) (by go_grown) (hb2.mono (by simp))
    have c0 : w2.cell? ⟨w.heap.size, 0, none⟩ = some (.int .i64 n) := carry hb2 (by simp) (by simp)
    have c1 : w2.cell? ⟨w.heap.size, 1, none⟩ = some (.slice A l.length c) := carry hb2 (by simp) (by simp)
    go_wp2_with fail
    refine (Call.out _ ((hA.below k2 (Nat.le_refl _)).more k2.size)).mono ?_
    rintro e w3 ⟨g, rfl, own, hb3⟩
    have k3 := k2.trans (hb3.mono k2.size)
    have x0 := own_intAt own (quad_at T (k := 0) (by omega))
    have x1 := own_intAt own (quad_at T (k := 1) (by omega))
    have x2 := own_intAt own (quad_at T (k := 2) (by omega))
    have x3 := own_intAt own (quad_at T (k := 3) (by omega))
    clear own
    go_wp2
    go_quiet (fail)
    go_wp2
    refine bodyPost_ret (v := .tuple #[.int .i64 (T 3 : Int), .int .i64 (T 0 : Int), .int .i64 ((T 1 : Int) + (T 2 : Int)), .bool true]) (by simp [results, Tryd.results20, go_sem]) rfl ?_
    exact ⟨rfl, ⟨k3.os, k3.tape, k3.output, k3.size, k3.block⟩⟩
set_option maxHeartbeats 4000000 in
set_option maxRecDepth 100000 in
theorem implCountThrees_any (p : Int) (l : PL) (A : Option Addr) (c : Nat) (w : World) (hl : l.length ≤ 1048576) (hA : CRead w w.heap.size A (pcells l)) (htab : TabW w) :
    Calls Tryd.prog 21 #[.agg #[.int .i64 p, .slice A l.length c]] w fun e w' => e = .returned (.tuple #[.int .i64 (resCountThrees p l).1, .int .i64 (resCountThrees p l).2.1, .int .i64 (resCountThrees p l).2.2.1, .bool (resCountThrees p l).2.2.2]) ∧ Below w.heap.size w w' := by
  have hr : CRead (w.alloc (Obj.cells #[.int .i64 p, .slice A l.length c] 31)) (w.alloc (Obj.cells #[.int .i64 p, .slice A l.length c] 31)).heap.size A (pcells l) := (hA.below (B' := w.heap.size) (by go_grown) (Nat.le_refl _)).more (by go_size)
  have HTab := Lib.hid htab
  clear htab
  cases hp : isP p l with
  | false =>
    have e : resCountThrees p l = (0, 0, 0, false) := by simp [resCountThrees, hp]
    rw [e]
    have Hp := Lib.hid hp
    clear hp e
    go_enter Tryd.func21, Tryd.ntmps21
    go_wp2_with fail
    refine (isParty_any _ _ _ _ _ hl hr).mono ?_
    rw [Hp.out]
    rintro e w2 ⟨rfl, hb2⟩
    simp only [World.size_alloc] at hb2
    go_wp2
    refine bodyPost_ret (v := .tuple #[.int .i64 0, .int .i64 0, .int .i64 0, .bool false]) (by simp [results, Tryd.results21, go_sem]) rfl ?_
    exact ⟨rfl, Below.trans (b := _) (by go_grown) (hb2.mono (by omega))⟩
  | true =>
    have hn := isP_range hp
    obtain ⟨n, rfl⟩ : ∃ n : Nat, p = n := ⟨p.toNat, by omega⟩
    have hn12 : n ≤ 12 := by omega
    have hsum := totT_sum (adj l) hn12
    have hle0 := totT_le (adj l) hn12 0 (by omega)
    have hle3 := totT_le (adj l) hn12 3 (by omega)
    have hwb := waysI_bound (n := (n : Int)) (k := 3) (.inl ⟨by omega, by omega, by omega⟩)
    have e : resCountThrees n l = ((totT (adj l) n 3 : Int), (totT (adj l) n 0 : Int), (totT (adj l) n 1 : Int) + (totT (adj l) n 2 : Int), true) := by simp [resCountThrees, hp]
    rw [e]
    have hT := friendsT_of hp
    have hset := IsSet.people (n := n) (by omega)
    have hcs : ∀ b ∈ List.range n, b < 12 := fun b hb => by have := List.mem_range.1 hb; omega
    have h5 := fun (X : World) (hX : TabW X) => countTied_any hT hset hcs (size := 3) (by omega) X hX
    have h6 := fun (X : World) (hX : TabW X) => countTied_any (strangersIn_fact hp) hset hcs (size := 3) (by omega) X hX
    have h7 := fun (X : World) => waysToChoose_any (n : Int) 3 X (.inl ⟨by omega, by omega, by omega⟩)
    simp only [show (3 : Int).toNat = 3 from rfl, threes_friends, threes_strange] at h5 h6
    have hdiff : waysI n 3 - (totT (adj l) n 3 : Int) - (totT (adj l) n 0 : Int) = (totT (adj l) n 1 : Int) + (totT (adj l) n 2 : Int) := by omega
    obtain ⟨T, hTT⟩ : ∃ T, totT (adj l) n = T := ⟨_, rfl⟩
    simp only [hTT] at h5 h6 hdiff hle0 hle3 ⊢
    obtain ⟨WW, hWW⟩ : ∃ WW, waysI n 3 = WW := ⟨_, rfl⟩
    simp only [hWW] at h7 hdiff hwb
    have H5 := Lib.hid h5
    have H6 := Lib.hid h6
    have H7 := Lib.hid h7
    have Hd := Lib.hid hdiff
    have Hp := Lib.hid hp
    clear hp e hsum hT hset hcs h5 h6 h7 hdiff hTT hWW
    go_enter Tryd.func21, Tryd.ntmps21
    go_wp2_with fail
    refine (isParty_any _ _ _ _ _ hl hr).mono ?_
    rw [Hp.out]
    rintro e w2 ⟨rfl, hb2⟩
    have s2 := hb2.size
    simp only [World.size_alloc] at s2
    have k2 : Below w.heap.size w w2 := Below.trans (b := _) (by go_grown) (hb2.mono (by simp))
    have c0 : w2.cell? ⟨w.heap.size, 0, none⟩ = some (.int .i64 n) := carry hb2 (by simp) (by simp)
    have c1 : w2.cell? ⟨w.heap.size, 1, none⟩ = some (.slice A l.length c) := carry hb2 (by simp) (by simp)
    have q0 : ∀ z : Ext w2.heap.size w2, z.val.cell? ⟨w.heap.size, 0, none⟩ = some (.int .i64 n) := fun z => z.cell c0 (by omega)
    have q1 : ∀ z : Ext w2.heap.size w2, z.val.cell? ⟨w.heap.size, 1, none⟩ = some (.slice A l.length c) := fun z => z.cell c1 (by omega)
    have hpos := HTab.out.pos
    go_wp2
    refine wp_region_ext w2.heap.size (by kernel_rfl) (by kernel_rfl) ?_
    repeat (go_big_quiet_step ((first
      | (go_at_call 46; exact Calls.ext_of ((friendsIn_any _ l A c _ Hp.out ((hA.below (k2.trans ((Ext.below _).mono k2.size)) (Nat.le_refl _)).more (Nat.le_trans k2.size (Ext.size _)))).mono fun _ _ h => ⟨h.1, h.2.2.mono (Ext.size _)⟩))
      | (go_at_call 54; exact Calls.ext_of ((everybody_any n hn12 _).mono fun _ _ h => ⟨h.1, h.2 ▸ Below.refl _ _⟩))
      | (go_at_call 53; exact Calls.ext_of ((H5.out _ (HTab.out.below (k2.trans ((Ext.below _).mono k2.size)) hpos)).mono fun _ _ h => ⟨h.1, h.2.mono (Ext.size _)⟩)))))
    refine wpQuiet_nil ?_
    rintro w5 ⟨⟨_, hb5⟩, rfl⟩
    have s5 := hb5.size
    have k5 := k2.trans (hb5.mono k2.size)
    have d0 := carry hb5 c0 (by omega)
    have d1 := carry hb5 c1 (by omega)
    have r0 : ∀ z : Ext w5.heap.size w5, z.val.cell? ⟨w.heap.size, 0, none⟩ = some (.int .i64 n) := fun z => z.cell d0 (by omega)
    have r1 : ∀ z : Ext w5.heap.size w5, z.val.cell? ⟨w.heap.size, 1, none⟩ = some (.slice A l.length c) := fun z => z.cell d1 (by omega)
    clear q0 q1 c0 c1
    go_wp2
    refine wp_region_ext w5.heap.size (by kernel_rfl) (by kernel_rfl) ?_
    repeat (go_big_quiet_step ((first
      | (go_at_call 55; exact Calls.ext_of ((strangersIn_any _ l A c _ Hp.out ((hA.below (k5.trans ((Ext.below _).mono k5.size)) (Nat.le_refl _)).more (Nat.le_trans k5.size (Ext.size _)))).mono fun _ _ h => ⟨h.1, h.2.mono (Ext.size _)⟩))
      | (go_at_call 54; exact Calls.ext_of ((everybody_any n hn12 _).mono fun _ _ h => ⟨h.1, h.2 ▸ Below.refl _ _⟩))
      | (go_at_call 53; exact Calls.ext_of ((H6.out _ (HTab.out.below (k5.trans ((Ext.below _).mono k5.size)) hpos)).mono fun _ _ h => ⟨h.1, h.2.mono (Ext.size _)⟩)))))
    refine wpQuiet_nil ?_
    rintro w6 ⟨⟨_, hb6⟩, rfl⟩
    have e0 := carry hb6 d0 (by omega)
    have k6 := k5.trans (hb6.mono k5.size)
    clear r0 r1 d0 d1
    go_wp2_with fail
    refine (H7.out _).mono ?_
    rintro e w7 ⟨rfl, rfl⟩
    go_wp2
    refine bodyPost_ret (v := .tuple #[.int .i64 (T 3 : Int), .int .i64 (T 0 : Int), .int .i64 (WW - (T 3 : Int) - (T 0 : Int)), .bool true]) (by simp [results, Tryd.results21, go_sem]) rfl ?_
    exact ⟨by rw [Hd.out], k6⟩
end Go.Proofs.YtnpljmipicjacaaDoor
/-
  'ThreesAt': the model's and the program's, by their contracts.
-/
namespace Go.Proofs.YtnpljmipicjacaaDoor
open Go.RowKit

theorem adj_of {n : Nat} {l : PL} (h : isP n l = true) {a b : Nat} (hab : adj l a b = true) : a < n ∧ b < n ∧ a ≠ b := by
  have hl := (isP_list h).2.2.1
  unfold adj at hab
  simp only [Bool.or_eq_true, List.contains_iff_mem] at hab
  rcases hab with hab | hab
  · have := hl _ hab; simp only at this; omega
  · have := hl _ hab; simp only at this; omega
theorem adj_self {n : Nat} {l : PL} (h : isP n l = true) (a : Nat) : adj l a a = false := by
  cases e : adj l a a with
  | false => rfl
  | true => exact absurd rfl (adj_of h e).2.2
theorem friends_set {n : Nat} {l : PL} (h : isP n l = true) {T : Nat → Nat} (hT : TiesOf T (adj l)) {a : Nat} (ha : a < n) : IsSet (T a) ((List.range n).filter (adj l a)) := by
  have hn := isP_range h
  refine ⟨List.pairwise_lt_range.filter _, fun b hb => by have := List.mem_range.1 (List.mem_filter.1 hb).1; omega, fun b => ?_⟩
  rw [List.mem_filter, List.mem_range]
  by_cases hb : b < 16
  · rw [hT.bit a b (by omega) hb]
    exact ⟨fun e => ⟨(adj_of h e).2.1, e⟩, fun e => e.2⟩
  · have : (T a).testBit b = false := Nat.testBit_lt_two_pow (Nat.lt_of_lt_of_le (hT.lt a (by omega)) (Nat.pow_le_pow_right (n := 2) (i := 16) (by omega) (by omega)))
    rw [this]
    simp
    omega
def threesAtN (n : Nat) (l : PL) (a : Nat) : Nat := hasN (groupsL n l 3) a
theorem threesAt_eq {n : Nat} {l : PL} (h : isP n l = true) {a : Nat} (ha : a < n) : (listsC (adj l) 2 [] ((List.range n).filter (adj l a))).length = threesAtN n l a := by
  unfold threesAtN groupsL
  rw [hasN_listsC (adj_comm l) (adj_self h a) 2 [] _ List.pairwise_lt_range (List.mem_range.2 ha) (by simp)]
def resThreesAt (p : Int) (l : PL) (a : Int) : Int × Bool := if isP p l && isMan p a then (threesAtN p.toNat l a.toNat, true) else (0, false)

end Go.Proofs.YtnpljmipicjacaaDoor
/-
  'spec.l1Put': a number put into a rising list that lacks it, by its contract.
-/
namespace Go.Proofs.YtnpljmipicjacaaDoor
open Go.RowKit

def putAt (l : List Int) (x : Int) : Nat := (l.takeWhile fun y => decide (y < x)).length
def putI (l : List Int) (x : Int) : List Int := l.take (putAt l x) ++ [x] ++ l.drop (putAt l x)
theorem putAt_le (l : List Int) (x : Int) : putAt l x ≤ l.length := by
  unfold putAt
  induction l with
  | nil => simp
  | cons y l ih =>
    rw [List.takeWhile_cons]
    split
    · simp only [List.length_cons]; omega
    · simp
theorem putAt_lt {l : List Int} {x y : Int} {k : Nat} (h : k < putAt l x) (hy : l[k]? = some y) : y < x := by
  unfold putAt at h
  induction l generalizing k with
  | nil => simp at h
  | cons z l ih =>
    rw [List.takeWhile_cons] at h
    split at h
    · rename_i hz
      cases k with
      | zero =>
        have e : z = y := by simpa using hy
        rw [← e]; exact of_decide_eq_true hz
      | succ k => exact ih (by simpa using h) (by simpa using hy)
    · simp at h
theorem putAt_stop {l : List Int} {x y : Int} (hy : l[putAt l x]? = some y) : ¬ y < x := by
  unfold putAt at hy
  induction l with
  | nil => simp at hy
  | cons z l ih =>
    rw [List.takeWhile_cons] at hy
    split at hy
    · exact ih (by simpa using hy)
    · rename_i hz
      have e : z = y := by simpa using hy
      rw [← e]
      intro h
      exact hz (decide_eq_true h)
theorem icells_take (l : List Int) (k : Nat) : icells (l.take k) = (icells l).take k := by simp [icells]
theorem icells_drop (l : List Int) (k : Nat) : icells (l.drop k) = (icells l).drop k := by simp [icells]

set_option maxHeartbeats 2000000 in
set_option maxRecDepth 100000 in
theorem l1Put_any (l : List Int) (x : Int) (g c : Nat) (w : World) (hl : l.length ≤ 12) (hd : l.length ≤ c) (hx : x ∉ l) (hA : CRead w w.heap.size (some ⟨g, 0, none⟩) (icells l)) (hgw : g < w.heap.size) :
    Calls Tryd.prog 41 #[.slice (some ⟨g, 0, none⟩) l.length c, .int .i64 x] w fun e w' => ∃ A' c', e = .returned (.slice A' (l.length + 1) c') ∧ w'.ownsRow w.heap.size 3 1 (.slice A' (l.length + 1) c') (l.length + 1) (icells (putI l x)) ∧ Below w.heap.size w w' := by
  obtain ⟨i0, hi, hz0, hz1, hz2⟩ := info_parts Tryd.infoInt
  have hpl := putAt_le l x
  have H : Aside (∀ j u, (icells l)[j]? = some u → w.cell? ((⟨g, 0, none⟩ : Addr).add j) = some u) := read_add_I hA
  have hat : ∀ k y, l[k]? = some y → w.cell? ⟨g, k, none⟩ = some (.int .i64 y) := fun k y h => by
    have := H.out k _ (icells_at h)
    rw [Addr.add_lit, Nat.zero_add] at this
    exact this
  have Hat := Lib.hid hat
  clear hA hat
  go_enter Tryd.func41, Tryd.ntmps41
  go_wp2_with fail
  go_loopw [5] (fun i wr => ∃ k : Nat, k ≤ putAt l x ∧ i = .int .i64 k ∧ w = wr) (fun i _ => putAt l x - (intOf i).toNat)
  case atStart => exact ⟨0, Nat.zero_le _, rfl, rfl⟩
  case round =>
    obtain ⟨k, hk, rfl, rfl⟩ := hrel
    by_cases hlt : k < putAt l x
    · obtain ⟨y, hy⟩ := getSome l k (by omega)
      have hyx := putAt_lt hlt hy
      have d0 := Hat.out k y hy
      have hki : (k : Int) < (l.length : Int) := by omega
      have Hy := Lib.hid hy
      clear hy
      go_wp2
      go_roundw
      case rel => exact ⟨k + 1, by omega, by go_num, trivial⟩
      case measure => simp [intOf]; omega
    · have hkl : k = putAt l x := by omega
      have HT := Lib.hid (show ∀ j u, (icells (l.take k))[j]? = some u → w.cell? ((⟨g, 0, none⟩ : Addr).add j) = some u from fun j u hj => H.out j u (by
        rw [icells_take, List.getElem?_take] at hj
        split at hj
        · exact hj
        · cases hj))
      have HD := Lib.hid (show ∀ j u, (icells (l.drop k))[j]? = some u → w.cell? ((⟨g, k, none⟩ : Addr).add j) = some u from fun j u hj => by
        rw [icells_drop, List.getElem?_drop] at hj
        have := H.out _ u hj
        rw [Addr.add_lit] at this ⊢
        rwa [Nat.zero_add] at this)
      by_cases hln : k < l.length
      · obtain ⟨y, hy⟩ := getSome l k hln
        have hyx := putAt_stop (hkl ▸ hy)
        have d0 := Hat.out k y hy
        have hki : (k : Int) < (l.length : Int) := by omega
        have hne : (y == x) = false := by
          rw [beq_eq_false_iff_ne]
          rintro rfl
          exact hx (List.mem_of_getElem? hy)
        have Hkl := Lib.hid hkl
        clear hy hkl
        have hkc : ¬ (c - k = 0) := by omega
        have hn : k + 1 + (l.length - k) = l.length + 1 := by omega
        go_wp2_with (at_builtin; first | (refine wpList_append_own _ rfl _ _ 25 rfl w.heap.size 3 i0 _ 1 8 Tryd.underlying25 hi hz0 hz1 hz2 rfl (by decide) (.slice A2 (k + 1) c2) (k + 1) _ rfl own2 ⟨g, k, none⟩ (l.length - k) (c - k) (icells (l.drop k)) rfl (by rw [icells_length, List.length_drop]; omega) (fun j u hj => by have h5 := HD.out j u hj; rw [Addr.add_lit] at h5 ⊢; exact carry k2 h5 hgw) (icells_one _) (by unfold maxLen; omega) (by omega) k2.size ?_; intro v3 w3 own3 gr3 _; have k3 : Below w.heap.size w w3 := k2.grown gr3 k2.size (fun m hm => (own2.lt m hm).1); obtain ⟨A3, c3, rfl, _⟩ := own_shape own3) | (refine wpList_append_own _ rfl _ _ 25 rfl w.heap.size 3 i0 _ 1 8 Tryd.underlying25 hi hz0 hz1 hz2 rfl (by decide) (.slice A1 k c1) k _ rfl (own1.alloc _) ⟨w1.heap.size, 0, none⟩ 1 1 [.int .i64 x] rfl rfl (one_cell (by simp)) (one_one rfl) (by unfold maxLen; omega) (by omega) (by have := k1.size; simp; omega) ?_; intro v2 w2 own2 gr2 _; have k2 : Below w.heap.size w w2 := (k1.alloc k1.size _).grown gr2 (by have := k1.size; simp; omega) (fun m hm => (own1.lt m hm).1); obtain ⟨A2, c2, rfl, _⟩ := own_shape own2) | (refine wpList_append_own _ rfl _ _ 25 rfl w.heap.size 3 i0 _ 1 8 Tryd.underlying25 hi hz0 hz1 hz2 rfl (by decide) (.slice (some ⟨w.heap.size, 0, none⟩) 0 0) 0 [] rfl (World.ownsRow_made w #[] 0 (Nat.le_refl _) (Nat.zero_le _) rfl) ⟨g, 0, none⟩ k c (icells (l.take k)) rfl (by rw [icells_length, List.length_take]; omega) (fun j u hj => Lib.cell?_alloc_some _ (HT.out j u hj)) (icells_one _) (by unfold maxLen; omega) (by omega) (by simp) ?_; intro v1 w1 own1 gr1 _; have k1 : Below w.heap.size w w1 := ((Below.refl _ w).alloc (Nat.le_refl _) _).grown gr1 (by simp) (by intro m hm; simp [Value.ownBlock] at hm; omega); simp only [Nat.zero_add, List.nil_append] at own1; obtain ⟨A1, c1, rfl, _⟩ := own_shape own1))
        go_ret
        refine ⟨A3, c3, rfl, ?_, k3⟩
        rw [hn] at own3
        rw [putI, ← Hkl.out, icells_append, icells_append]
        exact own3
      · have hki : ¬ ((k : Int) < (l.length : Int)) := by omega
        have Hkl := Lib.hid hkl
        have Hdn := Lib.hid (show icells (l.drop k) = [] by rw [List.drop_of_length_le (by omega)]; rfl)
        have hn : k + 1 + (l.length - k) = l.length + 1 := by omega
        clear hkl
        by_cases hkc : c - k = 0
        · go_wp2_with (at_builtin; first | (refine wpList_append_own _ rfl _ _ 25 rfl w.heap.size 3 i0 _ 1 8 Tryd.underlying25 hi hz0 hz1 hz2 rfl (by decide) (.slice A2 (k + 1) c2) (k + 1) _ rfl own2 ⟨g, 0, none⟩ (l.length - k) 0 (icells (l.drop k)) rfl (by rw [icells_length, List.length_drop]; omega) (fun j u hj => by rw [Hdn.out] at hj; cases hj) (icells_one _) (by unfold maxLen; omega) (by omega) k2.size ?_; intro v3 w3 own3 gr3 _; have k3 : Below w.heap.size w w3 := k2.grown gr3 k2.size (fun m hm => (own2.lt m hm).1); obtain ⟨A3, c3, rfl, _⟩ := own_shape own3) | (refine wpList_append_own _ rfl _ _ 25 rfl w.heap.size 3 i0 _ 1 8 Tryd.underlying25 hi hz0 hz1 hz2 rfl (by decide) (.slice A1 k c1) k _ rfl (own1.alloc _) ⟨w1.heap.size, 0, none⟩ 1 1 [.int .i64 x] rfl rfl (one_cell (by simp)) (one_one rfl) (by unfold maxLen; omega) (by omega) (by have := k1.size; simp; omega) ?_; intro v2 w2 own2 gr2 _; have k2 : Below w.heap.size w w2 := (k1.alloc k1.size _).grown gr2 (by have := k1.size; simp; omega) (fun m hm => (own1.lt m hm).1); obtain ⟨A2, c2, rfl, _⟩ := own_shape own2) | (refine wpList_append_own _ rfl _ _ 25 rfl w.heap.size 3 i0 _ 1 8 Tryd.underlying25 hi hz0 hz1 hz2 rfl (by decide) (.slice (some ⟨w.heap.size, 0, none⟩) 0 0) 0 [] rfl (World.ownsRow_made w #[] 0 (Nat.le_refl _) (Nat.zero_le _) rfl) ⟨g, 0, none⟩ k c (icells (l.take k)) rfl (by rw [icells_length, List.length_take]; omega) (fun j u hj => Lib.cell?_alloc_some _ (HT.out j u hj)) (icells_one _) (by unfold maxLen; omega) (by omega) (by simp) ?_; intro v1 w1 own1 gr1 _; have k1 : Below w.heap.size w w1 := ((Below.refl _ w).alloc (Nat.le_refl _) _).grown gr1 (by simp) (by intro m hm; simp [Value.ownBlock] at hm; omega); simp only [Nat.zero_add, List.nil_append] at own1; obtain ⟨A1, c1, rfl, _⟩ := own_shape own1))
          go_ret
          refine ⟨A3, c3, rfl, ?_, k3⟩
          rw [hn] at own3
          rw [putI, ← Hkl.out, icells_append, icells_append]
          exact own3
        · go_wp2_with (at_builtin; first | (refine wpList_append_own _ rfl _ _ 25 rfl w.heap.size 3 i0 _ 1 8 Tryd.underlying25 hi hz0 hz1 hz2 rfl (by decide) (.slice A2 (k + 1) c2) (k + 1) _ rfl own2 ⟨g, k, none⟩ (l.length - k) (c - k) (icells (l.drop k)) rfl (by rw [icells_length, List.length_drop]; omega) (fun j u hj => by have h5 := HD.out j u hj; rw [Addr.add_lit] at h5 ⊢; exact carry k2 h5 hgw) (icells_one _) (by unfold maxLen; omega) (by omega) k2.size ?_; intro v3 w3 own3 gr3 _; have k3 : Below w.heap.size w w3 := k2.grown gr3 k2.size (fun m hm => (own2.lt m hm).1); obtain ⟨A3, c3, rfl, _⟩ := own_shape own3) | (refine wpList_append_own _ rfl _ _ 25 rfl w.heap.size 3 i0 _ 1 8 Tryd.underlying25 hi hz0 hz1 hz2 rfl (by decide) (.slice A1 k c1) k _ rfl (own1.alloc _) ⟨w1.heap.size, 0, none⟩ 1 1 [.int .i64 x] rfl rfl (one_cell (by simp)) (one_one rfl) (by unfold maxLen; omega) (by omega) (by have := k1.size; simp; omega) ?_; intro v2 w2 own2 gr2 _; have k2 : Below w.heap.size w w2 := (k1.alloc k1.size _).grown gr2 (by have := k1.size; simp; omega) (fun m hm => (own1.lt m hm).1); obtain ⟨A2, c2, rfl, _⟩ := own_shape own2) | (refine wpList_append_own _ rfl _ _ 25 rfl w.heap.size 3 i0 _ 1 8 Tryd.underlying25 hi hz0 hz1 hz2 rfl (by decide) (.slice (some ⟨w.heap.size, 0, none⟩) 0 0) 0 [] rfl (World.ownsRow_made w #[] 0 (Nat.le_refl _) (Nat.zero_le _) rfl) ⟨g, 0, none⟩ k c (icells (l.take k)) rfl (by rw [icells_length, List.length_take]; omega) (fun j u hj => Lib.cell?_alloc_some _ (HT.out j u hj)) (icells_one _) (by unfold maxLen; omega) (by omega) (by simp) ?_; intro v1 w1 own1 gr1 _; have k1 : Below w.heap.size w w1 := ((Below.refl _ w).alloc (Nat.le_refl _) _).grown gr1 (by simp) (by intro m hm; simp [Value.ownBlock] at hm; omega); simp only [Nat.zero_add, List.nil_append] at own1; obtain ⟨A1, c1, rfl, _⟩ := own_shape own1))
          go_ret
          refine ⟨A3, c3, rfl, ?_, k3⟩
          rw [hn] at own3
          rw [putI, ← Hkl.out, icells_append, icells_append]
          exact own3

set_option maxHeartbeats 2000000 in
set_option maxRecDepth 100000 in
theorem l1Put_nil (x : Int) (w : World) :
    Calls Tryd.prog 41 #[.slice none 0 0, .int .i64 x] w fun e w' => ∃ A' c', e = .returned (.slice A' 1 c') ∧ w'.ownsRow w.heap.size 3 1 (.slice A' 1 c') 1 (icells [x]) ∧ Below w.heap.size w w' := by
  obtain ⟨i0, hi, hz0, hz1, hz2⟩ := info_parts Tryd.infoInt
  go_enter Tryd.func41, Tryd.ntmps41
  go_wp2_with fail
  go_loopw [5] (fun i wr => i = .int .i64 0 ∧ w = wr) (fun _ _ => 0)
  case atStart => exact ⟨rfl, rfl⟩
  case round =>
    obtain ⟨rfl, rfl⟩ := hrel
    go_wp2_with (at_builtin; first | (refine wpList_append_own_none rfl _ _ 25 rfl w.heap.size 3 i0 1 Tryd.underlying25 hi (.slice A2 1 c2) 1 _ rfl own2 rfl ?_) | (refine wpList_append_own_none rfl _ _ 25 rfl w.heap.size 3 i0 1 Tryd.underlying25 hi (.slice (some ⟨w.heap.size, 0, none⟩) 0 0) 0 [] rfl (World.ownsRow_made w #[] 0 (Nat.le_refl _) (Nat.zero_le _) rfl) rfl ?_) | (refine wpList_append_own _ rfl _ _ 25 rfl w.heap.size 3 i0 _ 1 8 Tryd.underlying25 hi hz0 hz1 hz2 rfl (by decide) (.slice (some ⟨w.heap.size, 0, none⟩) 0 0) 0 [] rfl ((World.ownsRow_made w #[] 0 (Nat.le_refl _) (Nat.zero_le _) rfl).alloc _) ⟨w.heap.size + 1, 0, none⟩ 1 1 [.int .i64 x] rfl rfl (one_cell (by simp)) (one_one rfl) (by unfold maxLen; omega) (by omega) (by simp; omega) ?_; intro v2 w2 own2 gr2 _; have k2 : Below w.heap.size w w2 := (((Below.refl _ w).alloc (Nat.le_refl _) _).alloc (by simp) _).grown gr2 (by simp; omega) (by intro m hm; simp [Value.ownBlock] at hm; omega); simp only [Nat.zero_add, List.nil_append] at own2; obtain ⟨A2, c2, rfl, _⟩ := own_shape own2))
    go_ret
    exact ⟨A2, c2, rfl, own2, k2⟩
end Go.Proofs.YtnpljmipicjacaaDoor
