/-
  Texts put together for the claim of 'FriendThrees' (pack 7): FrThrees, LawFriendThrees, Said, Head, Facts, Door.
-/
import Derived.Test.YtnpljmipicjacaaDoorFriendThreesP1
import Derived.Test.YtnpljmipicjacaaDoorFriendThreesP2
import Derived.Test.YtnpljmipicjacaaDoorFriendThreesP3
import Derived.Test.YtnpljmipicjacaaDoorFriendThreesP4
import Derived.Test.YtnpljmipicjacaaDoorFriendThreesP5
import Derived.Test.YtnpljmipicjacaaDoorFriendThreesP6
import Derived.Deep.RegionHeld3
import Derived.Stop.RegionWithIn
import Derived.Deep.AppendLies
import Derived.Deep.RegionLawGrows
import Derived.Test.YtnpljmipicjacaaDoorRows
import Derived.ProofKit
import Derived.OpenShut
import Derived.Deep.SlicePairs
import Derived.Lib.SmallJoins
import Derived.Test.YtnpljmipicjacaaDoorTie
import Derived.Test.YtnpljmipicjacaaDoorCards
import Derived.Lib.LaidTab
import Derived.LaidHandle
import Derived.SevenTiedAt
/-
  'FriendThrees': the model's and the program's, by their contracts.
-/
namespace Go.Proofs.YtnpljmipicjacaaDoor
open Go.RowKit Go.Shelf
attribute [local go_sem] Oper.semAt_some

def resFriendThrees (p : Int) (l : PL) : List (List Int) × Bool := if isP p l then (groupsL p.toNat l 3, true) else ([], false)
theorem resFriendThrees_len (p : Int) (l : PL) : (resFriendThrees p l).1.length ≤ 1048576 ∧ sumL (resFriendThrees p l).1 ≤ 1048576 := by
  unfold resFriendThrees
  split
  · rename_i h
    have hn := isP_range h
    have h1 := groupsL_few (n := p.toNat) (by omega) l 3
    have h2 := sumL_le (LL := groupsL p.toNat l 3) (m := 3) fun x hx => by have := listsC_size (adj l) 3 [] _ x hx; simp at this; omega
    simp only
    omega
  · simp [sumL]

set_option maxHeartbeats 2000000 in
set_option maxRecDepth 100000 in
theorem specFriendThrees_any (p : Int) (l : PL) (A : Option Addr) (c : Nat) (w : World) (hl : l.length ≤ 1048576) (hA : CRead w w.heap.size A (pcells l)) :
    Calls Tryd.prog 22 #[.agg #[.int .i64 p, .slice A l.length c]] w (ReadRowsOk w (resFriendThrees p l).1 (resFriendThrees p l).2) := by
  have hr : CRead (w.alloc (Obj.cells #[.int .i64 p, .slice A l.length c] 31)) (w.alloc (Obj.cells #[.int .i64 p, .slice A l.length c] 31)).heap.size A (pcells l) := (hA.below (B' := w.heap.size) (by go_grown) (Nat.le_refl _)).more (by go_size)
  cases hp : isP p l with
  | false =>
    have e : resFriendThrees p l = ([], false) := by simp [resFriendThrees, hp]
    rw [e]
    have Hp := Lib.hid hp
    clear hp e
    go_enter Tryd.func22, Tryd.ntmps22
    go_wp2_with fail
    refine (paGood_any _ _ _ _ _ hl hr).mono ?_
    rw [Hp.out]
    rintro e w2 ⟨rfl, hb2⟩
    simp only [World.size_alloc] at hb2
    go_wp2
    go_ret2
    exact ⟨none, 0, rfl, SRead.nil _ _ _, Below.trans (b := _) (by go_grown) (hb2.mono (by omega))⟩
  | true =>
    obtain ⟨n, rfl⟩ : ∃ n : Nat, p = n := ⟨p.toNat, by have := isP_range hp; omega⟩
    have hn := isP_range hp
    have e : resFriendThrees n l = (groupsL n l 3, true) := by simp [resFriendThrees, hp]
    rw [e]
    unfold groupsL
    obtain ⟨LL, hLL⟩ : ∃ LL, listsC (adj l) 3 [] (List.range n) = LL := ⟨_, rfl⟩
    rw [hLL]
    have HLL := Lib.hid hLL
    have Hp := Lib.hid hp
    clear hp e hLL
    go_enter Tryd.func22, Tryd.ntmps22
    go_wp2_with fail
    refine (paGood_any _ _ _ _ _ hl hr).mono ?_
    rw [Hp.out]
    rintro e w2 ⟨rfl, hb2⟩
    have s2 := hb2.size
    have k2 : Below w.heap.size w w2 := Below.trans (b := _) (by go_grown) (hb2.mono (by simp))
    have c0 : w2.cell? ⟨w.heap.size, 0, none⟩ = some (.int .i64 n) := carry hb2 (by simp) (by simp)
    have c1 : w2.cell? ⟨w.heap.size, 1, none⟩ = some (.slice A l.length c) := carry hb2 (by simp) (by simp)
    go_wp2_with fail
    refine (paTable_any _ _ _ _ _ Hp.out ((hA.below k2 (Nat.le_refl _)).more k2.size)).mono ?_
    rw [Int.toNat_natCast]
    rintro e w3 ⟨A3, c3, G, rfl, tab, hb3⟩
    have k3 := k2.trans (hb3.mono k2.size)
    have g := trGroups_any n (by omega) (adj l) (adj_comm l) A3 c3 G _ 3 [] none 0 w3 tab (by simp) (by simp) CRead.nil (fun _ => ⟨rfl, rfl⟩)
    rw [show fromQ [] = 0 from rfl, candR_all] at g
    simp only [List.length_nil, Nat.zero_add] at g
    rw [HLL.out] at g
    have Gg := Lib.hid g
    clear g c0 c1 tab
    go_wp2_with fail
    refine Gg.out.mono ?_
    rintro e w4 ⟨A4, c4, hs, rfl, rows, hb4⟩
    have rd := rows.read
    have Rd := Lib.hid rd
    clear rd rows Gg
    go_wp2
    go_ret2
    exact ⟨A4, c4, rfl, Rd.out, k3.trans (hb4.mono k3.size)⟩
/-! ## Rows of lists whose blocks are apart, as headers -/
def ApartV (hs : List Value) : Prop := hs.Pairwise fun x y => x.ownBlock = none ∨ x.ownBlock ≠ y.ownBlock
theorem rowsL_of {w : World} {B : Nat} {v : Value} {LL : List (List Int)} {hs : List Value} (h : LRows w B v LL hs) (ha : ApartV hs) : ∃ R C, RowsL w B v LL R C := by
  have hl := h.length
  have key : ∀ i, i < LL.length → ∃ A c, hs[i]? = some (.slice A (LL.getD i []).length c) ∧ w.ownsRow B 3 1 (.slice A (LL.getD i []).length c) (LL.getD i []).length (icells (LL.getD i [])) := fun i hi => by
    obtain ⟨A, c, e, o⟩ := h.row i LL[i] (List.getElem?_eq_getElem hi)
    have e2 : LL.getD i [] = LL[i] := by rw [List.getD_eq_getElem?_getD, List.getElem?_eq_getElem hi]; rfl
    rw [e2]
    exact ⟨A, c, e, o⟩
  have key2 : ∀ i, ∃ Ac : Option Addr × Nat, i < LL.length → hs[i]? = some (.slice Ac.1 (LL.getD i []).length Ac.2) ∧ w.ownsRow B 3 1 (.slice Ac.1 (LL.getD i []).length Ac.2) (LL.getD i []).length (icells (LL.getD i [])) := fun i => by
    by_cases hi : i < LL.length
    · obtain ⟨A, c, e⟩ := key i hi
      exact ⟨(A, c), fun _ => e⟩
    · exact ⟨(none, 0), fun h => absurd h hi⟩
  obtain ⟨f, hf⟩ := Classical.axiomOfChoice key2
  have hmap : hs = (List.range LL.length).map fun i => Value.slice (f i).1 (LL.getD i []).length (f i).2 := by
    refine List.ext_getElem (by simp [hl]) fun i h1 h2 => ?_
    have := (hf i (by omega)).1
    rw [List.getElem?_eq_getElem h1] at this
    simp only [List.getElem_map, List.getElem_range]
    exact Option.some.inj this
  refine ⟨fun i => (f i).1, fun i => (f i).2, ⟨by rw [← hmap]; exact h.own, fun i hi => ⟨rfl, (hf i hi).2⟩, fun i j hi hj hij => ?_⟩⟩
  have hp := List.pairwise_iff_getElem.1 ha
  have gi : ∀ i (hi : i < LL.length), hs[i]'(by omega) = Value.slice (f i).1 (LL.getD i []).length (f i).2 := fun i hi => by
    have := (hf i hi).1
    rw [List.getElem?_eq_getElem (by omega)] at this
    exact Option.some.inj this
  rcases Nat.lt_or_gt_of_ne hij with h1 | h1
  · have := hp i j (by omega) (by omega) h1
    rwa [gi i hi, gi j hj] at this
  · have := hp j i (by omega) (by omega) h1
    rw [gi i hi, gi j hj] at this
    cases e : (Value.slice (f i).1 (LL.getD i []).length (f i).2).ownBlock with
    | none => exact .inl rfl
    | some k =>
      right
      intro e2
      rcases this with h3 | h3
      · rw [h3] at e2; cases e2
      · rw [e] at h3; exact h3 e2.symm

/-- An operation's step, in a round. -/
theorem oper_in {l n : Nat} {P : Program} {o : Oper} {a : Act} {w : World} {K : Act → World → Prop} {Q : Exit → Act → World → Prop} (hdef : ∀ c, o.op ≠ .defer c) (h : o.wp P a w K Q) : o.wpIn (Fence.wide.inRound l) n P a w K Q := by
  refine ⟨fun _ _ => trivial, ?_⟩
  rw [show (Fence.wide.inRound l).round = some l from rfl, Oper.semAt_some l _ _ hdef]
  unfold Oper.wp at h
  generalize (execOp a.eval o).run P w = r at *
  cases r with
  | ok x w' =>
    cases x <;> simp only [Oper.upon, Oper.uponIn] at h ⊢
    all_goals first
      | exact h
      | exact ⟨fun h0 => by simp [Fence.wide] at h0, (callsIn_wide.2 h).inRound l⟩
      | exact ⟨fun h0 => by simp [Fence.wide] at h0, fun c cs _ => let ⟨v, w', r, s⟩ := h c cs; ⟨v, w', r, stepsIn_wide.2 s⟩⟩
      | exact h.elim
  | halt x w' => cases x <;> simp only [Oper.upon, Oper.uponIn] at h ⊢ <;> exact h
theorem step_in {l n : Nat} {P : Program} {ops : Array Oper} {o : Oper} {a : Act} {w : World} {K : Act → World → Prop} {Q : Exit → Act → World → Prop} {E E' : Prop} (hg : o.guard = none) (hdef : ∀ c, o.op ≠ .defer c)
    (h : if Region.wanted o (yielded ops a.tmps) = true then Oper.wp P o a w K Q else E') : if Region.wanted o (yielded ops a.tmps) = true then Oper.wpIn (Fence.wide.inRound l) n P o a w K Q else E := by
  have hw : Region.wanted o (yielded ops a.tmps) = true := by simp [Region.wanted, hg]
  rw [if_pos hw] at h ⊢
  exact oper_in hdef h
section
variable {w w' : World} {o c : Nat} {LL : List (List Int)} {A : Option Addr} {hs : List Value} {S : Nat → Prop}
/-- blocks that are not the rows' may change -/
theorem Found.apart (h : Found w o LL A c hs) (ha : Apart S w w') (ho : ¬ S o) (hv : ∀ k, (Value.slice A LL.length c).ownBlock = some k → ¬ S k) (hr : ∀ u ∈ hs, ∀ k, u.ownBlock = some k → ¬ S k) : Found w' o LL A c hs := by
  have key : ∀ {e : TypeId} {n : Nat} {v : Value} {xs : List Value}, w.ownsRow (o + 1) e 1 v n xs → (∀ k, v.ownBlock = some k → ¬ S k) → w'.ownsRow (o + 1) e 1 v n xs := by
    intro e n v xs h1 h2
    obtain ⟨h1, h3⟩ := h1
    rcases h3 with ⟨e1, h0⟩ | ⟨g, cap, cur, e1, hb, hg, hrest⟩
    · exact ⟨h1, .inl ⟨e1, h0⟩⟩
    · exact ⟨h1, .inr ⟨g, cap, cur, e1, hb, (ha.same g (Array.getElem?_eq_some_iff.1 hg).1 (h2 g (by rw [e1]; rfl))).trans hg, hrest⟩⟩
  refine ⟨(ha.same o h.lt ho).trans h.box, key h.rows.own hv, fun i l hi => ?_, h.rows.nil⟩
  obtain ⟨A', c', e, ow⟩ := h.rows.row i l hi
  exact ⟨A', c', e, key ow (hr _ (List.mem_of_getElem? e))⟩
end

set_option maxHeartbeats 4000000 in
set_option maxRecDepth 100000 in
theorem implFriendThrees_any (p : Int) (l : PL) (A : Option Addr) (c : Nat) (w : World) (hl : l.length ≤ 1048576) (hA : CRead w w.heap.size A (pcells l)) (htab : TabW w) :
    Calls Tryd.prog 23 #[.agg #[.int .i64 p, .slice A l.length c]] w (GotRowsOk w (resFriendThrees p l).1 (resFriendThrees p l).2) := by
  obtain ⟨i1, hj, hy0, hy1, hy2⟩ := info_parts Tryd.infoIntsG
  have hr : CRead (w.alloc (Obj.cells #[.int .i64 p, .slice A l.length c] 31)) (w.alloc (Obj.cells #[.int .i64 p, .slice A l.length c] 31)).heap.size A (pcells l) := (hA.below (B' := w.heap.size) (by go_grown) (Nat.le_refl _)).more (by go_size)
  have HTab := Lib.hid htab
  clear htab
  cases hp : isP p l with
  | false =>
    have e : resFriendThrees p l = ([], false) := by simp [resFriendThrees, hp]
    rw [e]
    have Hp := Lib.hid hp
    clear hp e
    go_enter Tryd.func23, Tryd.ntmps23
    go_wp2_with fail
    refine (isParty_any _ _ _ _ _ hl hr).mono ?_
    rw [Hp.out]
    rintro e w2 ⟨rfl, hb2⟩
    simp only [World.size_alloc] at hb2
    go_wp2
    go_ret2
    exact ⟨none, 0, _, _, rfl, RowsL.none _ _, Below.trans (b := _) (by go_grown) (hb2.mono (by omega))⟩
  | true =>
    obtain ⟨n, rfl⟩ : ∃ n : Nat, p = n := ⟨p.toNat, by have := isP_range hp; omega⟩
    have hn := isP_range hp
    have e : resFriendThrees n l = (groupsL n l 3, true) := by simp [resFriendThrees, hp]
    rw [e]
    have hT := friendsT_of hp
    have hset := IsSet.people (n := n) (by omega)
    have hcs : ∀ b ∈ List.range n, b < 12 := fun b hb => by have := List.mem_range.1 hb; omega
    have hfew := groupsL_few (n := n) (by omega) l 3
    have hgot := fun (X : World) (hX : TabW X) => allTied_got hT hset hcs (size := 3) (by omega) X hX
    have hev := fun (X : World) => everybody_any n (by omega) X
    have hfr := fun (X : World) (hX : CRead X X.heap.size A (pcells l)) => friendsIn_any n l A c X hp hX
    unfold groupsL at hfew ⊢
    simp only [show (3 : Int).toNat = 3 from rfl] at hgot
    obtain ⟨LL, hLL⟩ : ∃ LL, listsC (adj l) 3 [] (List.range n) = LL := ⟨_, rfl⟩
    rw [hLL] at hfew ⊢
    obtain ⟨T, hTT⟩ : ∃ T, friendsT l = T := ⟨_, rfl⟩
    obtain ⟨E, hE⟩ : ∃ E, 2 ^ n - 1 = E := ⟨_, rfl⟩
    simp only [hLL, hTT, hE] at hgot hev hfr
    refine (callsIn_wide (n := 5)).1 ?_
    refine callsIn_of_wp_marks Tryd.func23 rfl trivial ?_
    simp only [Tryd.ntmps23, List.size_toArray, List.length_cons, List.length_nil, Nat.reduceAdd, Nat.reduceSub, Array.replicate_succ, Array.replicate_zero, List.push_toArray, List.append_toArray, List.nil_append, List.cons_append]
    refine wpIn_wide.2 ?_
    have Got := Lib.hid hgot
    have Hev := Lib.hid hev
    have Hfr := Lib.hid hfr
    have Hp := Lib.hid hp
    clear hp e hT hset hcs hgot hev hfr hLL hTT hE
    go_wp2_with fail
    refine (isParty_any _ _ _ _ _ hl hr).mono ?_
    rw [Hp.out]
    rintro e w2 ⟨rfl, hb2⟩
    have s2 := hb2.size
    simp only [World.size_alloc] at s2
    have k2 : Below w.heap.size w w2 := Below.trans (b := _) (by go_grown) (hb2.mono (by simp))
    have c0 : w2.cell? ⟨w.heap.size, 0, none⟩ = some (.int .i64 n) := carry hb2 (by simp) (by simp)
    have c1 : w2.cell? ⟨w.heap.size, 1, none⟩ = some (.slice A l.length c) := carry hb2 (by simp) (by simp)
    have hpos := HTab.out.pos
    clear hb2
    go_wp2
    obtain ⟨W, hW⟩ : ∃ W, w2.alloc (Obj.cells #[.slice none 0 0] 42) = W := ⟨_, rfl⟩
    have kW2 : Below w2.heap.size w2 W := by rw [← hW]; go_grown
    have zW : W.heap.size = w2.heap.size + 1 := by rw [← hW]; simp
    have nW : W.heap[w2.heap.size]? = some (Obj.cells #[.slice none 0 0] 42 (0, 0)) := by rw [← hW]; exact heap_alloc_new w2 _
    have kW := k2.trans (kW2.mono k2.size)
    have d0 := carry kW2 c0 (by omega)
    have d1 := carry kW2 c1 (by omega)
    rw [hW]
    have RA := (hA.below kW.drew (Nat.le_refl _)).more kW.drew.size
    have NW := Lib.hid nW
    have KW := Lib.hid kW
    clear hW c0 c1 nW kW2 k2 hA hr
    go_region_held3 (fun w' => w'.cell? ⟨w.heap.size, 0, none⟩ = some (.int .i64 n) ∧ w'.cell? ⟨w.heap.size, 1, none⟩ = some (.slice A l.length c)) (first | exact ⟨d0, d1⟩ | exact ⟨y0, y1⟩ | exact ⟨x0, x1⟩) ((first
      | (go_at_call 46; refine (Hfr.out _ RA).mono ?_; rintro e w3 ⟨rfl, _, hb3⟩; have g3 : Below W.heap.size W w3 := (Below.refl _ _).drew.trans hb3; have y0 := carry g3 d0 (by omega); have y1 := carry g3 d1 (by omega); have s3 := g3.size; have k3 := KW.out.trans (g3.mono KW.out.size))
      | (go_at_call 54; refine (Hev.out _).mono ?_; rintro e w' ⟨rfl, rfl⟩)
      | (go_at_call 58; refine (Got.out w3 (HTab.out.below k3 hpos)).mono ?_; rintro e w4 ⟨lb, rfl, hb4, hseq⟩; have x0 := carry hb4 y0 (by omega); have x1 := carry hb4 y1 (by omega); have s4 := hb4.size; have k4 := k3.trans (hb4.mono k3.size))))
    all_goals
      have Seq1 := Lib.hid hseq
      clear hseq
      go_wp2_with fail
      have bW : Below W.heap.size W w4 := g3.trans (hb4.mono s3)
      have b2 : w4.heap[w2.heap.size]? = some (Obj.cells #[.slice none 0 0] 42 (0, 0)) := (bW.block _ (by omega)).trans NW.out
      have B2 := Lib.hid b2
      have K4 := Lib.hid k4
      clear b2 k4 k3 y0 y1 x0 x1 d0 d1 RA hb4 hb3 g3
      refine wp_rangeFunc_asg rfl (enters_of Tryd.func79 (by kernel_rfl) rfl) Seq1.out (fun j hj => by omega) (fun T x args A C h hs => h.stays hs) (fun T x args W h => h.one)
        (fun S pre Y => (∀ j, S j → w4.heap.size ≤ j ∧ j < Y.heap.size) ∧ w4.heap.size ≤ Y.heap.size ∧ Below w.heap.size w Y ∧ ∃ Ap cp hs, Found Y w2.heap.size pre Ap cp hs ∧ ApartV hs ∧ (∀ k, (Value.slice Ap pre.length cp).ownBlock = some k → w4.heap.size ≤ k ∧ ¬ S k) ∧ ∀ u ∈ hs, ∀ k, u.ownBlock = some k → ¬ S k)
        (fun _ _ _ => False) ?held (fun _ _ _ _ h _ => h.elim) ⟨fun _ h => h.elim, Nat.le_refl _, K4.out, none, 0, [], ⟨B2.out, LRows.none _ _⟩, List.Pairwise.nil, fun k hk => by simp [Value.ownBlock] at hk, fun u hu => by cases hu⟩ (fun v => { tmps := #[.agg #[.int .i64 n, .slice A l.length c], .pointer (some ⟨w.heap.size, 0, none⟩), .slice none 0 0, .bool false, .pointer (some ⟨w2.heap.size, 0, none⟩), v, .agg #[.int .i64 n, .slice A l.length c], .bool true, .bool false, .agg #[.int .i64 n, .slice A l.length c], .agg (tcells T), .pointer (some ⟨w.heap.size, 0, none⟩), .int .i64 n, .int .u16 (E : Nat), .func (.func 79) #[] lb, v, undef, undef, undef, undef, undef, undef], defers := [] }) ?assign ?body ?done (fun _ _ _ _ _ h _ => h.elim)
      case held =>
        rintro S S' pre Y Z ⟨a1, a2, a3, Ap, cp, hs, fnd, ap, a4, a5⟩ hap hS'
        have hsz := hap.below.size
        refine ⟨fun j hj => (hS' j hj).elim (fun h => by have := a1 j h; omega) (fun h => by omega), Nat.le_trans a2 hap.below.size, a3.trans (hap.below_of (Nat.le_trans K4.out.size a2) fun j hj => Nat.le_trans K4.out.size (a1 j hj).1), Ap, cp, hs, fnd.apart hap (fun h => by have := a1 _ h; omega) (fun k hk => (a4 k hk).2) a5, ap, fun k hk => ⟨(a4 k hk).1, fun h => ?_⟩, fun u hu k hk h => ?_⟩
        · rcases hS' k h with h | h
          · exact (a4 k hk).2 h
          · have := (own_lies fnd.rows.own k hk).2; omega
        · rcases hS' k h with h | h
          · exact a5 u hu k hk h
          · obtain ⟨i, hi, rfl⟩ := List.getElem_of_mem hu
            have hl := fnd.rows.length
            obtain ⟨A', c', e, ow⟩ := fnd.rows.row i pre[i] (List.getElem?_eq_getElem (by omega))
            rw [List.getElem?_eq_getElem hi] at e
            rw [Option.some.inj e] at hk
            have := (own_lies ow k hk).2
            omega
      case assign =>
        intro l0 v Y K hK
        gi_wp2
        exact hK
      case body =>
        rintro l0 S' S pre x v Y ⟨a1, a2, a3, Ap, cp, hs, fnd, ap, a4, a5⟩ hrd hTS hz hS' hpx
        obtain ⟨Ax, cx, hv, told, hTb, h100⟩ := hrd
        obtain rfl : v = .slice Ax x.length cx := by simpa using hv
        have Told := Lib.hid told
        have Fnd := Lib.hid fnd
        have cY := fnd.cell
        have fY := fnd.thawed
        clear told fnd hv
        gi_wp2_with fail
        have hpl : pre.length < 4096 := by have := hpx.length_le; simp at this; omega
        have fin : ∀ (Ac : Option Addr) (cc : Nat) (wc : World) (g3 c3 : Nat) (w5 : World), Below Y.heap.size Y wc → wc.ownsRow Y.heap.size 3 1 (.slice Ac x.length cc) x.length (icells x) →
            Found (w5.setCell ⟨w2.heap.size, 0, none⟩ (.slice (some ⟨g3, 0, none⟩) (pre.length + 1) c3)) w2.heap.size (pre ++ [x]) (some ⟨g3, 0, none⟩) c3 (hs ++ [.slice Ac x.length cc]) →
            (wc.alloc (Obj.cells #[.slice Ac x.length cc] 25)).grownBy w5 (Value.slice Ap pre.length cp).ownBlock → ((Value.slice Ap pre.length cp).ownBlock = some g3 ∨ g3 = wc.heap.size + 1) →
            Stays (fun j => S j ∨ (j = 0 ∨ w3.heap.size ≤ j ∧ j < w4.heap.size)) Y (w5.setCell ⟨w2.heap.size, 0, none⟩ (.slice (some ⟨g3, 0, none⟩) (pre.length + 1) c3)) ∧
            ((∀ j, S j → w4.heap.size ≤ j ∧ j < (w5.setCell ⟨w2.heap.size, 0, none⟩ (.slice (some ⟨g3, 0, none⟩) (pre.length + 1) c3)).heap.size) ∧ w4.heap.size ≤ (w5.setCell ⟨w2.heap.size, 0, none⟩ (.slice (some ⟨g3, 0, none⟩) (pre.length + 1) c3)).heap.size ∧ Below w.heap.size w (w5.setCell ⟨w2.heap.size, 0, none⟩ (.slice (some ⟨g3, 0, none⟩) (pre.length + 1) c3)) ∧ ∃ Ap' cp' hs', Found (w5.setCell ⟨w2.heap.size, 0, none⟩ (.slice (some ⟨g3, 0, none⟩) (pre.length + 1) c3)) w2.heap.size (pre ++ [x]) Ap' cp' hs' ∧ ApartV hs' ∧ (∀ k, (Value.slice Ap' (pre ++ [x]).length cp').ownBlock = some k → w4.heap.size ≤ k ∧ ¬ S k) ∧ ∀ u ∈ hs', ∀ k, u.ownBlock = some k → ¬ S k) := by
          intro Ac cc wc g3 c3 w5 h2 own2 found3 gr3 hat3
          have s2c := h2.size
          have sw5 := gr3.size
          rw [World.size_alloc] at sw5
          have newS : ∀ k, (Value.slice Ac x.length cc).ownBlock = some k → Y.heap.size ≤ k ∧ k < wc.heap.size := fun k hk => own_lies own2 k hk
          have hSlt : ∀ j, S j → j < Y.heap.size := fun j hj => (a1 j hj).2
          have hpos4 : 0 < w4.heap.size := by omega
          refine ⟨((((Stays.of_below h2).trans (Stays.alloc _ wc _)).trans (Stays.grown gr3 fun k hk h => ?_)).trans (Stays.setCell (p := ⟨w2.heap.size, 0, none⟩) (fun h => ?_) w5 _)), fun j hj => ⟨(a1 j hj).1, by have := hSlt j hj; simp; omega⟩, by simp; omega, ?_, some ⟨g3, 0, none⟩, c3, _, found3, ?_, fun k hk => ?_, fun u hu k hk => ?_⟩
          · have h4 := a4 k hk
            rcases h with h | h
            · exact h4.2 h
            · omega
          · simp only at h
            rcases h with h | h
            · have := a1 _ h; omega
            · omega
          · refine (Below.grown ((a3.trans (h2.mono (by have := a3.size; omega))).alloc (by have := a3.size; omega) _) gr3 (by have := a3.size; simp; omega) fun k hk => ?_).setCell (p := ⟨w2.heap.size, 0, none⟩) (by simp; omega) _
            have h4 := a4 k hk
            have := K4.out.size
            omega
          · refine List.pairwise_append.2 ⟨ap, by simp, fun u hu y hy => ?_⟩
            simp only [List.mem_singleton] at hy
            subst hy
            cases e1 : u.ownBlock with
            | none => exact .inl rfl
            | some k =>
              right
              intro e2
              have h1 := (newS k e2.symm).1
              obtain ⟨i, hi, rfl⟩ := List.getElem_of_mem hu
              have hl := Fnd.out.rows.length
              obtain ⟨A', c', e, ow⟩ := Fnd.out.rows.row i pre[i] (List.getElem?_eq_getElem (by omega))
              rw [List.getElem?_eq_getElem hi] at e
              rw [Option.some.inj e] at e1
              have := (own_lies ow k e1).2
              omega
          · have hg : g3 = k := by simpa [Value.ownBlock] using hk
            subst hg
            rcases hat3 with h | h
            · exact a4 g3 h
            · refine ⟨by omega, fun hs' => ?_⟩
              have := hSlt _ hs'
              omega
          · rcases List.mem_append.1 hu with hu | hu
            · exact a5 u hu k hk
            · simp only [List.mem_singleton] at hu
              subst hu
              have h1 := (newS k hk).1
              intro hs'
              have := hSlt _ hs'
              omega
        refine wpIn_region_any (by kernel_rfl) ?_
        change wpAnyIn _ _ _ _ _ _ _ _ _ (World.drew _)
        refine wpAnyIn_ready (show Region.ready _ _ _ = [0, 1] from by kernel_rfl) (by simp) ?_
        refine AllReadyIn.cons rfl (fun K hK => ?_) ?_
        · skip
          go_simp
          refine hK _ _ ?_
          clear hK K
          refine wpAnyIn_ready (show Region.ready _ _ _ = [1] from by kernel_rfl) (by simp) ?_
          refine AllReadyIn.cons rfl (fun K hK => ?_) ?_
          · skip
            go_simp
            refine hK _ _ ?_
            clear hK K
            refine wpAnyIn_ready (show Region.ready _ _ _ = [2] from by kernel_rfl) (by simp) ?_
            refine AllReadyIn.cons rfl (fun K hK => ?_) ?_
            · skip
              go_simp
              gi_wp2_with fail
              refine ⟨trivial, (((callsIn_wide (n := 2)).2 (cloneI_any x Ax cx _ (by omega) (CRead.of_own (show World.told Y.drew Ax cx x from Told.out)))).inRound l0).mono ?_⟩
              rintro e wc ⟨Ac, cc, rfl, own2, hb2⟩
              have h2 : Below Y.heap.size Y wc := (Below.refl _ _).drew.trans hb2
              have found2 := Fnd.out.below h2
              have f0 := found2.cell
              have f1 := found2.thawed
              have flt := found2.lt
              have fA : (wc.alloc (Obj.cells #[.slice Ac x.length cc] 25)).cell? ⟨w2.heap.size, 0, none⟩ = some (.slice Ap pre.length cp) := (World.cell?_alloc_lt _ _ _ flt).trans f0
              have s2c := h2.size
              have own2b : wc.ownsRow Y.heap.size 3 1 (.slice Ac x.length cc) x.length (icells x) := own2
              have Own2 := Lib.hid own2b
              clear own2 own2b hb2
              refine (show K _ _ from ?_)
              refine hK _ _ ?_
              clear hK K
              refine wpAnyIn_ready (show Region.ready _ _ _ = [3] from by kernel_rfl) (by simp) ?_
              refine AllReadyIn.cons rfl (fun K hK => ?_) ?_
              · skip
                go_simp
                refine hK _ _ ?_
                clear hK K
                refine wpAnyIn_ready (show Region.ready _ _ _ = [4] from by kernel_rfl) (by simp) ?_
                refine AllReadyIn.cons rfl (fun K hK => ?_) ?_
                · skip
                  refine step_in (E' := True) (by rfl) (fun c h => by cases h) ?_
                  refine step_append_lies _ (by rfl) _ _ _ (by rfl) (w2.heap.size + 1) 25 i1 _ 1 24 Tryd.underlying42 hj hy0 hy1 hy2 (by rfl) (by decide) _ pre.length hs (by rfl) (found2.rows.own.alloc _) ⟨wc.heap.size, 0, none⟩ 1 1 [.slice Ac x.length cc] (by rfl) rfl (one_cell (by simp)) (one_one rfl) (by decide) (by unfold maxLen; omega) (by omega) (by simp; omega) (wc.heap.size + 1) (by simp) ?_
                  intro g3 c3 w5 own3 gr3 hat3 hlt3
                  obtain ⟨y0, y1, y2, found3, kept3⟩ := found2.push (own_lower Own2.out (by omega)) own3 gr3
                  refine hK _ _ ?_
                  clear hK K
                  refine wpAnyIn_ready (show Region.ready _ _ _ = [5] from by kernel_rfl) (by simp) ?_
                  refine AllReadyIn.cons rfl (fun K hK => ?_) ?_
                  · skip
                    go_simp
                    refine hK _ _ ?_
                    clear hK K
                    refine wpAnyIn_done (by kernel_rfl) ?_ _
                    exact fin Ac cc wc g3 c3 w5 h2 Own2.out found3 gr3 hat3
                  exact AllReadyIn.nil
                exact AllReadyIn.nil
              exact AllReadyIn.nil
            exact AllReadyIn.nil
          exact AllReadyIn.nil
        refine AllReadyIn.cons rfl (fun K hK => ?_) ?_
        · skip
          go_simp
          refine hK _ _ ?_
          clear hK K
          refine wpAnyIn_ready (show Region.ready _ _ _ = [0, 2] from by kernel_rfl) (by simp) ?_
          refine AllReadyIn.cons rfl (fun K hK => ?_) ?_
          · skip
            go_simp
            refine hK _ _ ?_
            clear hK K
            refine wpAnyIn_ready (show Region.ready _ _ _ = [2] from by kernel_rfl) (by simp) ?_
            refine AllReadyIn.cons rfl (fun K hK => ?_) ?_
            · skip
              go_simp
              gi_wp2_with fail
              refine ⟨trivial, (((callsIn_wide (n := 2)).2 (cloneI_any x Ax cx _ (by omega) (CRead.of_own (show World.told Y.drew Ax cx x from Told.out)))).inRound l0).mono ?_⟩
              rintro e wc ⟨Ac, cc, rfl, own2, hb2⟩
              have h2 : Below Y.heap.size Y wc := (Below.refl _ _).drew.trans hb2
              have found2 := Fnd.out.below h2
              have f0 := found2.cell
              have f1 := found2.thawed
              have flt := found2.lt
              have fA : (wc.alloc (Obj.cells #[.slice Ac x.length cc] 25)).cell? ⟨w2.heap.size, 0, none⟩ = some (.slice Ap pre.length cp) := (World.cell?_alloc_lt _ _ _ flt).trans f0
              have s2c := h2.size
              have own2b : wc.ownsRow Y.heap.size 3 1 (.slice Ac x.length cc) x.length (icells x) := own2
              have Own2 := Lib.hid own2b
              clear own2 own2b hb2
              refine (show K _ _ from ?_)
              refine hK _ _ ?_
              clear hK K
              refine wpAnyIn_ready (show Region.ready _ _ _ = [3] from by kernel_rfl) (by simp) ?_
              refine AllReadyIn.cons rfl (fun K hK => ?_) ?_
              · skip
                go_simp
                refine hK _ _ ?_
                clear hK K
                refine wpAnyIn_ready (show Region.ready _ _ _ = [4] from by kernel_rfl) (by simp) ?_
                refine AllReadyIn.cons rfl (fun K hK => ?_) ?_
                · skip
                  refine step_in (E' := True) (by rfl) (fun c h => by cases h) ?_
                  refine step_append_lies _ (by rfl) _ _ _ (by rfl) (w2.heap.size + 1) 25 i1 _ 1 24 Tryd.underlying42 hj hy0 hy1 hy2 (by rfl) (by decide) _ pre.length hs (by rfl) (found2.rows.own.alloc _) ⟨wc.heap.size, 0, none⟩ 1 1 [.slice Ac x.length cc] (by rfl) rfl (one_cell (by simp)) (one_one rfl) (by decide) (by unfold maxLen; omega) (by omega) (by simp; omega) (wc.heap.size + 1) (by simp) ?_
                  intro g3 c3 w5 own3 gr3 hat3 hlt3
                  obtain ⟨y0, y1, y2, found3, kept3⟩ := found2.push (own_lower Own2.out (by omega)) own3 gr3
                  refine hK _ _ ?_
                  clear hK K
                  refine wpAnyIn_ready (show Region.ready _ _ _ = [5] from by kernel_rfl) (by simp) ?_
                  refine AllReadyIn.cons rfl (fun K hK => ?_) ?_
                  · skip
                    go_simp
                    refine hK _ _ ?_
                    clear hK K
                    refine wpAnyIn_done (by kernel_rfl) ?_ _
                    exact fin Ac cc wc g3 c3 w5 h2 Own2.out found3 gr3 hat3
                  exact AllReadyIn.nil
                exact AllReadyIn.nil
              exact AllReadyIn.nil
            exact AllReadyIn.nil
          refine AllReadyIn.cons rfl (fun K hK => ?_) ?_
          · skip
            go_simp
            gi_wp2_with fail
            refine ⟨trivial, (((callsIn_wide (n := 2)).2 (cloneI_any x Ax cx _ (by omega) (CRead.of_own (show World.told Y.drew Ax cx x from Told.out)))).inRound l0).mono ?_⟩
            rintro e wc ⟨Ac, cc, rfl, own2, hb2⟩
            have h2 : Below Y.heap.size Y wc := (Below.refl _ _).drew.trans hb2
            have found2 := Fnd.out.below h2
            have f0 := found2.cell
            have f1 := found2.thawed
            have flt := found2.lt
            have fA : (wc.alloc (Obj.cells #[.slice Ac x.length cc] 25)).cell? ⟨w2.heap.size, 0, none⟩ = some (.slice Ap pre.length cp) := (World.cell?_alloc_lt _ _ _ flt).trans f0
            have s2c := h2.size
            have own2b : wc.ownsRow Y.heap.size 3 1 (.slice Ac x.length cc) x.length (icells x) := own2
            have Own2 := Lib.hid own2b
            clear own2 own2b hb2
            refine (show K _ _ from ?_)
            refine hK _ _ ?_
            clear hK K
            refine wpAnyIn_ready (show Region.ready _ _ _ = [0, 3] from by kernel_rfl) (by simp) ?_
            refine AllReadyIn.cons rfl (fun K hK => ?_) ?_
            · skip
              go_simp
              refine hK _ _ ?_
              clear hK K
              refine wpAnyIn_ready (show Region.ready _ _ _ = [3] from by kernel_rfl) (by simp) ?_
              refine AllReadyIn.cons rfl (fun K hK => ?_) ?_
              · skip
                go_simp
                refine hK _ _ ?_
                clear hK K
                refine wpAnyIn_ready (show Region.ready _ _ _ = [4] from by kernel_rfl) (by simp) ?_
                refine AllReadyIn.cons rfl (fun K hK => ?_) ?_
                · skip
                  refine step_in (E' := True) (by rfl) (fun c h => by cases h) ?_
                  refine step_append_lies _ (by rfl) _ _ _ (by rfl) (w2.heap.size + 1) 25 i1 _ 1 24 Tryd.underlying42 hj hy0 hy1 hy2 (by rfl) (by decide) _ pre.length hs (by rfl) (found2.rows.own.alloc _) ⟨wc.heap.size, 0, none⟩ 1 1 [.slice Ac x.length cc] (by rfl) rfl (one_cell (by simp)) (one_one rfl) (by decide) (by unfold maxLen; omega) (by omega) (by simp; omega) (wc.heap.size + 1) (by simp) ?_
                  intro g3 c3 w5 own3 gr3 hat3 hlt3
                  obtain ⟨y0, y1, y2, found3, kept3⟩ := found2.push (own_lower Own2.out (by omega)) own3 gr3
                  refine hK _ _ ?_
                  clear hK K
                  refine wpAnyIn_ready (show Region.ready _ _ _ = [5] from by kernel_rfl) (by simp) ?_
                  refine AllReadyIn.cons rfl (fun K hK => ?_) ?_
                  · skip
                    go_simp
                    refine hK _ _ ?_
                    clear hK K
                    refine wpAnyIn_done (by kernel_rfl) ?_ _
                    exact fin Ac cc wc g3 c3 w5 h2 Own2.out found3 gr3 hat3
                  exact AllReadyIn.nil
                exact AllReadyIn.nil
              exact AllReadyIn.nil
            refine AllReadyIn.cons rfl (fun K hK => ?_) ?_
            · skip
              go_simp
              refine hK _ _ ?_
              clear hK K
              refine wpAnyIn_ready (show Region.ready _ _ _ = [0] from by kernel_rfl) (by simp) ?_
              refine AllReadyIn.cons rfl (fun K hK => ?_) ?_
              · skip
                go_simp
                refine hK _ _ ?_
                clear hK K
                refine wpAnyIn_ready (show Region.ready _ _ _ = [4] from by kernel_rfl) (by simp) ?_
                refine AllReadyIn.cons rfl (fun K hK => ?_) ?_
                · skip
                  refine step_in (E' := True) (by rfl) (fun c h => by cases h) ?_
                  refine step_append_lies _ (by rfl) _ _ _ (by rfl) (w2.heap.size + 1) 25 i1 _ 1 24 Tryd.underlying42 hj hy0 hy1 hy2 (by rfl) (by decide) _ pre.length hs (by rfl) (found2.rows.own.alloc _) ⟨wc.heap.size, 0, none⟩ 1 1 [.slice Ac x.length cc] (by rfl) rfl (one_cell (by simp)) (one_one rfl) (by decide) (by unfold maxLen; omega) (by omega) (by simp; omega) (wc.heap.size + 1) (by simp) ?_
                  intro g3 c3 w5 own3 gr3 hat3 hlt3
                  obtain ⟨y0, y1, y2, found3, kept3⟩ := found2.push (own_lower Own2.out (by omega)) own3 gr3
                  refine hK _ _ ?_
                  clear hK K
                  refine wpAnyIn_ready (show Region.ready _ _ _ = [5] from by kernel_rfl) (by simp) ?_
                  refine AllReadyIn.cons rfl (fun K hK => ?_) ?_
                  · skip
                    go_simp
                    refine hK _ _ ?_
                    clear hK K
                    refine wpAnyIn_done (by kernel_rfl) ?_ _
                    exact fin Ac cc wc g3 c3 w5 h2 Own2.out found3 gr3 hat3
                  exact AllReadyIn.nil
                exact AllReadyIn.nil
              exact AllReadyIn.nil
            exact AllReadyIn.nil
          exact AllReadyIn.nil
        exact AllReadyIn.nil
      case done =>
        rintro S Y ⟨a1, a2, a3, Ap, cp, hs, fnd, ap, a4, a5⟩ hD
        have cY := fnd.cell
        have keep : ∀ (k : Nat) (c : Array Value) (t : TypeId) (f : Nat × Nat), Y.heap[k]? = some (.cells c t f) → (Y.putObj w4.heap.size (.deferred none)).heap[k]? = Y.heap[k]? := fun k c t f hk => World.putObj_heap_other fun e => by rw [e, hD] at hk; cases hk
        have rows2 : LRows (Y.putObj w4.heap.size (.deferred none)) (w2.heap.size + 1) (.slice Ap LL.length cp) LL hs := ⟨own_at fnd.rows.own keep, fun i l hi => by
          obtain ⟨A', c', e, ow⟩ := fnd.rows.row i l hi
          exact ⟨A', c', e, own_at ow keep⟩, fnd.rows.nil⟩
        obtain ⟨RR, CC, hrows⟩ := rowsL_of rows2 ap
        have kk := below_putObj (l := w4.heap.size) a3 (by have := a3.size; omega) (by have := K4.out.size; omega) (.deferred none)
        have Hrows := Lib.hid (RowsL.lower hrows (show w.heap.size ≤ w2.heap.size + 1 by omega))
        clear hrows rows2 keep fnd ap a4 a5
        go_wp2
        refine ⟨by simp, .inl ⟨_, _, rfl, run_takeDeferred hD, ?_⟩⟩
        exact ⟨.tuple #[.slice Ap LL.length cp, .bool true], by simp [results, Tryd.results23, go_sem], Ap, cp, RR, CC, rfl, Hrows.out, kk⟩
end Go.Proofs.YtnpljmipicjacaaDoor
/-
  'laws.FnExactFriendThrees' returns true, whatever its arguments: out of the contracts of the model's function and of the program's.
-/
namespace Go.Proofs.YtnpljmipicjacaaDoor
open Go.RowKit

set_option maxHeartbeats 4000000 in
set_option maxRecDepth 100000 in
theorem lawFriendThrees_any (p0 : Int) (l0 : PL) (A0 : Option Addr) (c0 : Nat) (W : World) (hl0 : l0.length ≤ maxLen) (hA0 : CRead W W.heap.size A0 (pcells l0)) (htab : TabW W) :
    Calls Tryd.prog 5 #[.agg #[.int .i64 p0, .slice A0 l0.length c0]] W fun e w' => e = .returned (.bool true) ∧ Below W.heap.size W w' := by
  have hone : (0 : Int) ≤ 1 ∧ (1 : Int) ≤ 16777216 := by omega
  have HTab := Lib.hid htab
  clear htab
  by_cases hz0 : szI (1048576) l0.length < 0
  · go_enter Tryd.func5, Tryd.ntmps5
    go_wp2_with fail
    refine (szParty_any _ _ _ _ _ hl0 (by omega) (by omega) _).mono ?_
    rintro e w1 ⟨rfl, hb1⟩
    simp only [World.size_alloc] at hb1
    have g1 : Below W.heap.size W w1 := Below.trans (b := _) (by go_grown) (hb1.mono (by omega))
    have s1 := hb1.size
    simp only [World.size_alloc] at s1
    have f1_0 : w1.cell? ⟨W.heap.size, 0, none⟩ = some (.int .i64 p0) := carry hb1 (by simp) (by omega)
    have f1_1 : w1.cell? ⟨W.heap.size, 1, none⟩ = some (.slice A0 l0.length c0) := carry hb1 (by simp) (by omega)
    have k1 : Below W.heap.size W w1 := g1
    go_wp2
    go_ret
    exact ⟨rfl, k1⟩
  have hn0 : l0.length ≤ 1048576 := by have h1 := szI_len _ _ hz0; have h2 := szI_hi (1048576) l0.length (by omega); omega
  have hz0' : 0 ≤ szI (1048576) l0.length := by omega
  have hz0'' : szI (1048576) l0.length ≤ 1048576 := by have h2 := szI_hi (1048576) l0.length (by omega); omega
  obtain ⟨⟨rm, rok⟩, hres⟩ : ∃ r, resFriendThrees p0 l0 = r := ⟨_, rfl⟩
  have hrn : rm.length ≤ 1048576 := by have h := (resFriendThrees_len p0 l0).1; rw [hres] at h; exact h
  have hrs : sumL rm ≤ 1048576 := by have h := (resFriendThrees_len p0 l0).2; rw [hres] at h; exact h
  have hrl : rm.length ≤ maxLen := by unfold maxLen; omega
  have hrr : ∀ l ∈ rm, l.length ≤ maxLen := fun l h => by have := sumL_row h; unfold maxLen; omega
  have hone2 : (0 : Int) ≤ 1 ∧ (1 : Int) ≤ 8388608 := by omega
  have Hres := Lib.hid hres
  clear hres
  go_enter Tryd.func5, Tryd.ntmps5
  go_wp2_with fail
  refine (szParty_any _ _ _ _ _ hl0 (by omega) (by omega) _).mono ?_
  rintro e w1 ⟨rfl, hb1⟩
  simp only [World.size_alloc] at hb1
  have g1 : Below W.heap.size W w1 := Below.trans (b := _) (by go_grown) (hb1.mono (by omega))
  have s1 := hb1.size
  simp only [World.size_alloc] at s1
  have f1_0 : w1.cell? ⟨W.heap.size, 0, none⟩ = some (.int .i64 p0) := carry hb1 (by simp) (by omega)
  have f1_1 : w1.cell? ⟨W.heap.size, 1, none⟩ = some (.slice A0 l0.length c0) := carry hb1 (by simp) (by omega)
  have k1 : Below W.heap.size W w1 := g1
  go_wp2_with fail
  refine (toParty_any p0 l0 A0 c0 _ hn0 ((hA0.below k1 (Nat.le_refl _)).more k1.size)).mono ?_
  rintro e w2 ⟨T2, d2, rfl, n2, hb2⟩
  have g2 : Below w1.heap.size w1 w2 := hb2
  have s2 := hb2.size
  have f2_0 := carry g2 f1_0 (by omega)
  have f2_1 := carry g2 f1_1 (by omega)
  have k2 := k1.trans (g2.mono k1.size)
  clear f1_0 f1_1
  have r2 : Lies (.slice T2 l0.length d2) (w1.heap.size) w2.heap.size := own_lies n2
  go_wp2_with fail
  refine (specFriendThrees_any p0 l0 _ _ _ hn0 (CRead.of_own n2)).mono ?_
  rw [Hres.out]
  rintro e w3 ⟨T3, d3, rfl, n3, hb3⟩
  have g3 : Below w2.heap.size w2 w3 := hb3
  have s3 := hb3.size
  have f3_0 := carry g3 f2_0 (by omega)
  have f3_1 := carry g3 f2_1 (by omega)
  have o3_0 := own_below n2 g3 (Nat.le_refl _)
  have k3 := k2.trans (g3.mono k2.size)
  clear f2_0 f2_1 n2
  clear o3_0 r2
  go_wp2_with fail
  refine (toParty_any p0 l0 A0 c0 _ hn0 ((hA0.below k3 (Nat.le_refl _)).more k3.size)).mono ?_
  rintro e w4 ⟨T4, d4, rfl, n4, hb4⟩
  have g4 : Below w3.heap.size w3 w4 := hb4
  have s4 := hb4.size
  have f4_0 := carry g4 f3_0 (by omega)
  have f4_1 := carry g4 f3_1 (by omega)
  have m4_0 := n3.below (g4.mono (by omega)) (Nat.le_refl _)
  have k4 := k3.trans (g4.mono k3.size)
  clear f3_0 f3_1 n3
  have r4 : Lies (.slice T4 l0.length d4) (w3.heap.size) w4.heap.size := own_lies n4
  have q5_0 : (w4.alloc (Obj.cells #[.int .i64 p0, .slice T4 l0.length d4] 31)).cell? ⟨W.heap.size, 0, none⟩ = some (.int .i64 p0) := (World.cell?_alloc_lt _ _ _ (show W.heap.size < w4.heap.size by omega)).trans f4_0
  have q5_1 : (w4.alloc (Obj.cells #[.int .i64 p0, .slice T4 l0.length d4] 31)).cell? ⟨W.heap.size, 1, none⟩ = some (.slice A0 l0.length c0) := (World.cell?_alloc_lt _ _ _ (show W.heap.size < w4.heap.size by omega)).trans f4_1
  go_wp2_with fail
  refine (implFriendThrees_any p0 l0 _ _ _ hn0 (((CRead.of_own n4).below (B' := w4.heap.size) (by go_grown) (Nat.le_refl _)).more (by go_size)) (by first | exact HTab.out.below (k4.alloc k4.size _) HTab.out.pos | exact HTab.out.below k4 HTab.out.pos)).mono ?_
  rw [Hres.out]
  rintro e w6 ⟨T6, d6, R6, C6, rfl, n6, hb6⟩
  simp only [World.size_alloc] at n6
  simp only [World.size_alloc] at hb6
  have g6 : Below w4.heap.size w4 w6 := Below.trans (b := _) (by go_grown) (hb6.mono (by omega))
  have s6 := hb6.size
  simp only [World.size_alloc] at s6
  have f6_0 := carry g6 f4_0 (by omega)
  have f6_1 := carry g6 f4_1 (by omega)
  have f6_2 : w6.cell? ⟨w4.heap.size, 0, none⟩ = some (.int .i64 p0) := carry hb6 (by simp) (by omega)
  have f6_3 : w6.cell? ⟨w4.heap.size, 1, none⟩ = some (.slice T4 l0.length d4) := carry hb6 (by simp) (by omega)
  have o6_0 := own_below n4 g6 (Nat.le_refl _)
  have m6_0 := m4_0.below (g6.mono (by omega)) (Nat.le_refl _)
  have k6 := k4.trans (g6.mono k4.size)
  clear f4_0 f4_1 n4 m4_0 q5_0 q5_1
  go_wp2_with fail
  refine (eqIntSS_same rm _ _ _ _ _ hrl hrr (RowsL.read n6) (SRead.more m6_0 (by omega))).mono ?_
  rintro e w7 ⟨rfl, hb7⟩
  have g7 : Below w6.heap.size w6 w7 := hb7
  have s7 := hb7.size
  have f7_0 := carry g7 f6_0 (by omega)
  have f7_1 := carry g7 f6_1 (by omega)
  have f7_2 := carry g7 f6_2 (by omega)
  have f7_3 := carry g7 f6_3 (by omega)
  have o7_0 := own_below o6_0 g7 (Nat.le_refl _)
  have m7_0 := m6_0.below (g7.mono (by omega)) (Nat.le_refl _)
  have m7_1 := RowsL.below n6 g7
  have k7 := k6.trans (g7.mono k6.size)
  clear f6_0 f6_1 f6_2 f6_3 o6_0 m6_0 n6
  go_wp2
  go_region_held3 (fun w' => w'.cell? ⟨W.heap.size, 0, none⟩ = some (.int .i64 p0) ∧ w'.cell? ⟨W.heap.size, 1, none⟩ = some (.slice A0 l0.length c0) ∧ w'.cell? ⟨w4.heap.size, 0, none⟩ = some (.int .i64 p0) ∧ w'.cell? ⟨w4.heap.size, 1, none⟩ = some (.slice T4 l0.length d4)) (first | exact ⟨f7_0, f7_1, f7_2, f7_3⟩ | exact ⟨f8_0, f8_1, f8_2, f8_3⟩ | exact ⟨f9_0, f9_1, f9_2, f9_3⟩) ((first | (go_at_call 12; refine (toParty_any p0 l0 A0 c0 _ hn0 ((hA0.below k7.drew (Nat.le_refl _)).more k7.size)).mono ?_; rintro e w8 ⟨T8, d8, rfl, n8, hb8⟩; have g8 : Below w7.heap.size w7 w8 := (Below.refl _ _).drew.trans hb8; have s8 := g8.size; have f8_0 := carry g8 f7_0 (by omega); have f8_1 := carry g8 f7_1 (by omega); have f8_2 := carry g8 f7_2 (by omega); have f8_3 := carry g8 f7_3 (by omega); have o8_0 := own_below o7_0 g8 (Nat.le_refl _); have m8_0 := m7_0.below (g8.mono (by omega)) (Nat.le_refl _); have m8_1 := RowsL.below m7_1 g8; have k8 := k7.trans (g8.mono k7.size)) | (go_at_call 16; refine (eqParty_any p0 p0 l0 l0 _ _ _ _ _ hl0 hl0 (CRead.of_own o8_0) (CRead.of_own n8)).mono ?_; rw [decide_eq_true ⟨rfl, rfl⟩]; rintro e w9 ⟨rfl, hb9⟩; have g9 : Below w8.heap.size w8 w9 := hb9; have s9 := g9.size; have f9_0 := carry g9 f8_0 (by omega); have f9_1 := carry g9 f8_1 (by omega); have f9_2 := carry g9 f8_2 (by omega); have f9_3 := carry g9 f8_3 (by omega); have o9_0 := own_below o8_0 g9 (Nat.le_refl _); have m9_0 := m8_0.below (g9.mono (by omega)) (Nat.le_refl _); have m9_1 := RowsL.below m8_1 g9; have k9 := k8.trans (g9.mono k8.size))))
  clear f7_0 f7_1 f7_2 f7_3 o7_0 f8_0 f8_1 f8_2 f8_3 o8_0 n8 m7_0 m7_1 m8_0 m8_1
  go_wp2_with fail
  refine (markParty_any p0 l0 _ _ _ (1) _ _ rfl hn0 (by omega) o9_0).mono ?_
  rintro e w10 ⟨rfl, n10, hg10⟩
  have s10 := hg10.size
  have f10_0 := carryG hg10 r4 f9_0 (by omega)
  have f10_1 := carryG hg10 r4 f9_1 (by omega)
  have f10_2 := carryG hg10 r4 f9_2 (by omega)
  have f10_3 := carryG hg10 r4 f9_3 (by omega)
  have k10 := belowG k9 hg10 r4 k9.size (by omega)
  have m10_0 := m9_0.below (belowG (Below.refl _ _) hg10 r4 (by omega) (by omega)) (Nat.le_refl _)
  have m10_1 := RowsL.keptG m9_1 hg10 r4 (by omega)
  clear f9_0 f9_1 f9_2 f9_3 o9_0 m9_0 m9_1
  have hmk : ¬ (1 + 2 * (l0.length : Int) < 0) := by omega
  go_wp2_with fail
  refine (eqIntSS_same rm _ _ _ _ _ hrl hrr (RowsL.read m10_1) (SRead.more m10_0 (by omega))).mono ?_
  rintro e w11 ⟨rfl, hb11⟩
  have g11 : Below w10.heap.size w10 w11 := hb11
  have s11 := hb11.size
  have f11_0 := carry g11 f10_0 (by omega)
  have f11_1 := carry g11 f10_1 (by omega)
  have f11_2 := carry g11 f10_2 (by omega)
  have f11_3 := carry g11 f10_3 (by omega)
  have o11_0 := own_below n10 g11 (Nat.le_refl _)
  have m11_0 := m10_0.below (g11.mono (by omega)) (Nat.le_refl _)
  have m11_1 := RowsL.below m10_1 g11
  have k11 := k10.trans (g11.mono k10.size)
  clear f10_0 f10_1 f10_2 f10_3 n10 m10_0 m10_1
  clear o11_0 r4
  go_wp2_with fail
  refine (markIntSS_rows rm _ _ 1 _ _ _ _ hrn hrs hone2 (by omega) m11_1).mono ?_
  rintro e w12 ⟨rfl, n12, hb12⟩
  have s12 := hb12.size
  have f12_0 := carry hb12 f11_0 (by omega)
  have f12_1 := carry hb12 f11_1 (by omega)
  have f12_2 := carry hb12 f11_2 (by omega)
  have f12_3 := carry hb12 f11_3 (by omega)
  have k12 := k11.trans (hb12.mono (by have := k11.size; omega))
  have m12_0 := m11_0.below (hb12.mono (by omega)) (Nat.le_refl _)
  clear f11_0 f11_1 f11_2 f11_3 m11_0 m11_1
  have hmr : ¬ (1 + (sumL rm : Int) < 0) := by omega
  go_wp2_with fail
  refine (heldIntSS_rows rm _ _ 1 _ _ _ _ hrn hrs hone2 n12).mono ?_
  rintro e w13 ⟨rfl, h13⟩
  subst h13
  go_wp2_with fail
  refine (toParty_any p0 l0 A0 c0 _ hn0 ((hA0.below k12 (Nat.le_refl _)).more k12.size)).mono ?_
  rintro e w14 ⟨T14, d14, rfl, n14, hb14⟩
  have g14 : Below w12.heap.size w12 w14 := hb14
  have s14 := hb14.size
  have f14_0 := carry g14 f12_0 (by omega)
  have f14_1 := carry g14 f12_1 (by omega)
  have f14_2 := carry g14 f12_2 (by omega)
  have f14_3 := carry g14 f12_3 (by omega)
  have m14_0 := m12_0.below (g14.mono (by omega)) (Nat.le_refl _)
  have m14_1 := MarkedL.below n12 g14
  have k14 := k12.trans (g14.mono k12.size)
  clear f12_0 f12_1 f12_2 f12_3 m12_0 n12
  have r14 : Lies (.slice T14 l0.length d14) (w12.heap.size) w14.heap.size := own_lies n14
  go_wp2_with fail
  refine (implFriendThrees_any p0 l0 _ _ _ hn0 (CRead.of_own n14) (by first | exact HTab.out.below (k14.alloc k14.size _) HTab.out.pos | exact HTab.out.below k14 HTab.out.pos)).mono ?_
  rw [Hres.out]
  rintro e w15 ⟨T15, d15, R15, C15, rfl, n15, hb15⟩
  have g15 : Below w14.heap.size w14 w15 := hb15
  have s15 := hb15.size
  have f15_0 := carry g15 f14_0 (by omega)
  have f15_1 := carry g15 f14_1 (by omega)
  have f15_2 := carry g15 f14_2 (by omega)
  have f15_3 := carry g15 f14_3 (by omega)
  have o15_0 := own_below n14 g15 (Nat.le_refl _)
  have m15_0 := m14_0.below (g15.mono (by omega)) (Nat.le_refl _)
  have m15_1 := MarkedL.below m14_1 g15
  have k15 := k14.trans (g15.mono k14.size)
  clear f14_0 f14_1 f14_2 f14_3 n14 m14_0 m14_1
  have p15 := RowsL.read n15
  clear o15_0 r14
  go_wp2_with fail
  refine (eqIntSS_same rm _ _ _ _ _ hrl hrr (SRead.more p15 (by omega)) (SRead.more m15_0 (by omega))).mono ?_
  rintro e w16 ⟨rfl, hb16⟩
  have g16 : Below w15.heap.size w15 w16 := hb16
  have s16 := hb16.size
  have f16_0 := carry g16 f15_0 (by omega)
  have f16_1 := carry g16 f15_1 (by omega)
  have f16_2 := carry g16 f15_2 (by omega)
  have f16_3 := carry g16 f15_3 (by omega)
  have m16_0 := m15_0.below (g16.mono (by omega)) (Nat.le_refl _)
  have m16_1 := MarkedL.below m15_1 g16
  have m16_2 := p15.below (g16.mono (by omega)) (Nat.le_refl _)
  have k16 := k15.trans (g16.mono k15.size)
  clear f15_0 f15_1 f15_2 f15_3 m15_0 m15_1 p15
  go_wp2_with fail
  refine (heldIntSS_rows rm _ _ 1 _ _ _ _ hrn hrs hone2 m16_1).mono ?_
  rintro e w17 ⟨rfl, h17⟩
  subst h17
  go_wp2
  go_ret
  exact ⟨rfl, k16⟩
end Go.Proofs.YtnpljmipicjacaaDoor
/-
  FROM A LAW's WALK TO ITS STATEMENT: arguments opened (numbers, lists of numbers, parties), and what every law's post asks.
-/
namespace Go.Proofs.YtnpljmipicjacaaDoor
open Go.ChangeShapes Go.WideShapes Go.ChangeAt Go.RowKit Go.Deep

theorem Tryd.own : ownKnob Tryd.prog.godebug = none := by kernel_rfl
theorem Tryd.laidOut : laidOutB Tryd.prog = true := by kernel_rfl
theorem Tryd.cellsPair : Tryd.prog.cellsOf 87 = 2 := by kernel_rfl
theorem Tryd.cellsParty : Tryd.prog.cellsOf 24 = 2 := by kernel_rfl
theorem Tryd.cellsInt : Tryd.prog.cellsOf 3 = 1 := by kernel_rfl

section
variable {H : Type} {enc : TypeId × Value → H} {P : Program}
theorem below_trodAll (hl : laidOutB P = true) : ∀ (ts : List TypeId), (ts.all fun t => P.readableRec t && decide (t < P.types.size)) = true → ∀ {vs : List Value} {ds : List (DataW H)} {ps : List MemPlace} {W W' : World},
    DataW.TrodAll enc P W 0 (fun _ => true) true ts vs ds ps → Below W.heap.size W W' → (∀ x ∈ ps, x.block < W.heap.size) → DataW.TrodAll enc P W' 0 (fun b => decide (b < W.heap.size)) true ts vs ds ps
  | [], _, vs, ds, ps, W, W', h, _, _ => by
    obtain ⟨rfl, rfl, rfl⟩ := trodAll_nil h
    exact trodAll_mk0
  | t :: ts, hr, vs, ds, ps, W, W', h, hb, hlt => by
    obtain ⟨v, vs', d, ds', p, q, rfl, rfl, rfl, h0, h1⟩ := trodAll_cons h
    simp only [List.all_cons, Bool.and_eq_true, decide_eq_true_eq] at hr
    refine trodAll_cons_mk (Below.trod hl hr.1.1 hr.1.2 h0 hb (fun x hx => hlt x (List.mem_append_left _ hx))) (below_trodAll hl ts (by simpa using hr.2) h1 hb (fun x hx => hlt x (List.mem_append_right _ hx)))

theorem law_post {f : Func} {s : ChangeSpec} {W W' : World} {args : Array Value} {ds gs : List (DataW H)} {before : List MemPlace} {tb : TypeId} (hl : laidOutB P = true)
    (hr : (f.params.toList.all fun t => P.readableRec t && decide (t < P.types.size)) = true) (hres : f.resultTypes = #[tb]) (htb : P.underlying tb = some .bool) (hsv : s.vars = [])
    (hspec : s.fn H (ds ++ gs) = { results := [.lit (.bool true)], args := ds })
    (hW : DataW.Whole enc P f.params.toList s.vars false W args.toList ds gs before) (hb : Below W.heap.size W W') : s.post enc P f false true false false W args (.bool true) W' := by
  have hW' := hW
  obtain ⟨p, q, hA, hV, rfl, _, _⟩ := hW
  rw [hsv] at hV
  obtain ⟨rfl, rfl⟩ := trodVars_none hV
  have hlt : ∀ x ∈ p, x.block < W.heap.size := fun x hx => by simpa using hW'.lt x (by simpa using hx)
  refine ⟨ds, _, _, [] ++ [], p, [], hW', ?_, ?_, ?_, hb.frame _, fun h => by cases h⟩
  · rw [hspec, hres]
    exact trodAll_mk1 (shut_bool htb _)
  · rw [hspec]
    exact below_trodAll hl _ hr hA hb hlt
  · rw [hspec, hsv]
    rfl
end

section
variable {H : Type} {enc : TypeId × Value → H} {W : World}
set_option maxRecDepth 100000 in
/-- A party that came in. -/
theorem open_party {v : Value} {d : DataW H} {p : List MemPlace} {r : Reach} {b0 : Nat} (hv : Value.okWide Tryd.prog W r b0 24 v) (h : DataW.Trod enc Tryd.prog W 0 (fun _ => true) true 24 v d p) :
    ∃ (x : Int) (l : PL) (A : Option Addr) (c : Nat), v = .agg #[.int .i64 x, .slice A l.length c] ∧ l.length ≤ maxLen ∧ CRead W W.heap.size A (pcells l) := by
  obtain ⟨v0, v1, y0, y1, n, rfl, _, _, h0, h1⟩ := Joins.open_agg2 Tryd.underlying24 (by kernel_rfl) Tryd.cellsParty hv h
  obtain ⟨x, hx, _, _⟩ := DataW.trod_int Tryd.underlying3 h0
  simp only [List.cons.injEq, and_true] at hx
  subst hx
  rcases open_slice_pairs Tryd.underlying22 Tryd.underlying87 Tryd.cellsPair rfl rfl (by kernel_rfl) (by kernel_rfl) h1 with ⟨hcs, _⟩ | ⟨a, len, cap, m, n', V0, V1, D0, D1, P0, P1, hcs, _, hlc, hcm, hm, _, hall⟩
  · simp only [List.cons.injEq, and_true] at hcs
    subst hcs
    exact ⟨x, [], none, 0, rfl, Nat.zero_le _, CRead.nil⟩
  · simp only [List.cons.injEq, and_true] at hcs
    subst hcs
    have hm' : m = cap := by simpa using hm
    subst hm'
    have each : ∀ i, i < len → ∃ a0 a1 : Int, W.cell? (a.add (i * 2)) = some (.int .i64 a0) ∧ W.cell? (a.add (i * 2 + 1)) = some (.int .i64 a1) := by
      intro i hi
      obtain ⟨c0, c1, t0, t1⟩ := hall i (by omega)
      obtain ⟨a0, e0, _, _⟩ := DataW.trod_int Tryd.underlying3 t0
      obtain ⟨a1, e1, _, _⟩ := DataW.trod_int Tryd.underlying3 t1
      simp only [List.cons.injEq, and_true] at e0 e1
      exact ⟨a0, a1, by rw [c0, e0], by rw [c1, e1]⟩
    let num : Option Value → Int := fun | some (.int _ z) => z | _ => 0
    let l : PL := (List.range len).map fun i => (num (W.cell? (a.add (i * 2))), num (W.cell? (a.add (i * 2 + 1))))
    have hll : l.length = len := by simp [l]
    refine ⟨x, l, some a, m, by rw [hll], by rw [hll]; omega, ?_⟩
    intro j u hu
    have hjl : j < (pcells l).length := (List.getElem?_eq_some_iff.1 hu).1
    rw [pcells_length, hll] at hjl
    have hi : j / 2 < len := by omega
    obtain ⟨a0, a1, c0, c1⟩ := each (j / 2) hi
    have hl : l[j / 2]? = some (a0, a1) := by simp [l, hi, c0, c1, num]
    obtain ⟨z0, _, cz, _⟩ := each 0 (by omega)
    have hspot : a.spot = none := by simpa [Addr.add] using World.cell?_spot cz
    obtain ⟨b, off, sp⟩ := a
    simp only at hspot
    subst hspot
    have hb : b < W.heap.size := by
      have := World.block_lt_of_cell? W _ cz
      simpa [Addr.add] using this
    refine ⟨b, off, rfl, hb, ?_⟩
    rw [add_plain] at c0 c1
    rcases Nat.mod_two_eq_zero_or_one j with h2 | h2
    · have e : j = j / 2 * 2 := by omega
      have e2 := pcells_fst hl
      rw [← e] at e2 c0
      rw [hu] at e2
      rw [c0, e2]
    · have e : j = j / 2 * 2 + 1 := by omega
      have e2 := pcells_snd hl
      rw [← e] at e2 c1
      rw [hu] at e2
      rw [c1, e2]
end
end Go.Proofs.YtnpljmipicjacaaDoor
/-
  THE PROGRAM's HEAD, LOOKED AT ONCE: which make it is, and that a call may enter it. (The head's text is long: the kernel must not read it twice.)
-/
namespace Go.Proofs.YtnpljmipicjacaaDoor

theorem make_of {P : Program} {rest : List (List Char)} (h : behindMainWord (wordsSigns P.initOrder.toList) = "cut".toList :: rest) : P.make = some .cut := by
  unfold Program.make
  rw [h]
  rfl
theorem strip_cut (rest : List (List Char)) : stripLifts liftWords ("cut".toList :: rest) = ([], "cut".toList :: rest) := rfl
theorem lifts_of {P : Program} {rest : List (List Char)} (h : behindMainWord (wordsSigns P.initOrder.toList) = "cut".toList :: rest) : P.headLifts = [] := by
  unfold Program.headLifts
  rw [h, strip_cut]
  rfl
theorem final_of {P : Program} {rest : List (List Char)} (h : behindMainWord (wordsSigns P.initOrder.toList) = "cut".toList :: rest) : P.liftsFinal = false := by
  unfold Program.liftsFinal
  rw [lifts_of h, h]
  rfl
theorem enter_of {P : Program} {rest : List (List Char)} (h : behindMainWord (wordsSigns P.initOrder.toList) = "cut".toList :: rest) (h1 : P.laysLater = false) (h2 : P.bearsReflect = false) (h3 : P.doorFits [] = true) : P.mayEnter = true := by
  unfold Program.mayEnter
  rw [h]
  show (_ || _ || _) = true
  rw [strip_cut, h1, h2, h3]
  rfl
end Go.Proofs.YtnpljmipicjacaaDoor
/-
  THE PROGRAM's CLOSED FACTS, EACH ONCE; and how a row's facts are put together out of them.
-/
namespace Go.Proofs.YtnpljmipicjacaaDoor
open Go.ChangeShapes Go.WideShapes Go.ChangeAt Go.RowKit

def headSigns : List Char := ([104, 97, 114, 110, 101, 115, 115, 32, 51, 51, 56, 52, 55, 54, 51, 53, 98, 101, 100, 53, 98, 101, 54, 57, 55, 55, 51, 98, 51, 49, 99, 56, 52, 56, 97, 98, 100, 98, 50, 98, 54, 97, 101, 50, 55, 51, 100, 101, 55, 49, 97, 54, 51, 97, 55, 100, 100, 50, 55, 48, 56, 100, 97, 54, 100, 50, 98, 98, 98, 52, 50, 50, 32, 99, 117, 116, 32, 97, 116, 32, 108, 111, 111, 112, 46, 101, 120, 97, 109, 112, 108, 101, 47, 103, 48, 49, 50, 53, 55, 47, 108, 97, 119, 115, 46, 70, 110, 69, 120, 97, 99, 116, 71, 114, 111, 119, 71, 114, 111, 117, 112, 32, 108, 111, 111, 112, 46, 101, 120, 97, 109, 112, 108, 101, 47, 103, 48, 49, 50, 53, 55, 47, 108, 97, 119, 115, 46, 70, 110, 69, 120, 97, 99, 116, 67, 111, 117, 110, 116, 84, 104, 114, 101, 101, 115, 32, 108, 111, 111, 112, 46, 101, 120, 97, 109, 112, 108, 101, 47, 103, 48, 49, 50, 53, 55, 47, 108, 97, 119, 115, 46, 70, 110, 69, 120, 97, 99, 116, 70, 114, 105, 101, 110, 100, 84, 104, 114, 101, 101, 115, 32, 108, 111, 111, 112, 46, 101, 120, 97, 109, 112, 108, 101, 47, 103, 48, 49, 50, 53, 55, 47, 108, 97, 119, 115, 46, 70, 110, 69, 120, 97, 99, 116, 71, 114, 101, 97, 116, 101, 115, 116, 71, 114, 111, 117, 112, 32, 108, 111, 111, 112, 46, 101, 120, 97, 109, 112, 108, 101, 47, 103, 48, 49, 50, 53, 55, 47, 108, 97, 119, 115, 46, 70, 110, 69, 120, 97, 99, 116, 71, 114, 101, 97, 116, 101, 115, 116, 83, 116, 114, 97, 110, 103, 101, 32, 108, 111, 111, 112, 46, 101, 120, 97, 109, 112, 108, 101, 47, 103, 48, 49, 50, 53, 55, 47, 108, 97, 119, 115, 46, 70, 110, 69, 120, 97, 99, 116, 65, 108, 108, 71, 114, 111, 117, 112, 115, 32, 108, 111, 111, 112, 46, 101, 120, 97, 109, 112, 108, 101, 47, 103, 48, 49, 50, 53, 55, 47, 108, 97, 119, 115, 46, 70, 110, 69, 120, 97, 99, 116, 65, 108, 108, 65, 112, 97, 114, 116] : List Nat).map Char.ofNat
set_option maxRecDepth 100000 in
theorem Tryd.initOrder_is : Tryd.prog.initOrder = String.ofList headSigns := by kernel_rfl
theorem Tryd.initOrder_signs : Tryd.prog.initOrder.toList = headSigns := by rw [Tryd.initOrder_is]; exact String.toList_ofList
set_option maxRecDepth 100000 in
theorem head_words : (behindMainWord (wordsSigns headSigns)).take 1 = ["cut".toList] := by kernel_rfl
theorem Tryd.words : ∃ rest, behindMainWord (wordsSigns Tryd.prog.initOrder.toList) = "cut".toList :: rest := by
  rw [Tryd.initOrder_signs]
  have h := List.take_append_drop 1 (behindMainWord (wordsSigns headSigns))
  rw [head_words] at h
  exact ⟨_, h.symm⟩
theorem Tryd.make : Tryd.prog.make = some .cut := by obtain ⟨_, h⟩ := Tryd.words; exact make_of h
theorem Tryd.liftsFinal : Tryd.prog.liftsFinal = false := by obtain ⟨_, h⟩ := Tryd.words; exact final_of h
theorem Tryd.laysLater : Tryd.prog.laysLater = false := by kernel_rfl
theorem Tryd.bearsReflect : Tryd.prog.bearsReflect = false := by kernel_rfl
theorem Tryd.doorFits : Tryd.prog.doorFits [] = true := by kernel_rfl
theorem Tryd.mayEnter : Tryd.prog.mayEnter = true := by obtain ⟨_, h⟩ := Tryd.words; exact enter_of h Tryd.laysLater Tryd.bearsReflect Tryd.doorFits
theorem Tryd.mapsRowed : mapsRowed Tryd.prog = true := by kernel_rfl
theorem Tryd.stops : (Tryd.prog.stops == []) = true := by kernel_rfl
theorem Tryd.stopKnobs : (Tryd.prog.stopKnobs == []) = true := by kernel_rfl
theorem Tryd.plainKeys : Tryd.prog.plainKeys = true := by kernel_rfl
theorem Tryd.stopsHeard : Tryd.prog.stopsHeard = true := by kernel_rfl

/-- What the types of one law give: closed facts on its parameters and its result. -/
def typeFacts (P : Program) (fn : Func) (s : ChangeSpec) (c : OpenClaim) : Bool :=
  fn.params.all (P.readableRec ·) && namedTie P c.named s.vars && (c.stops == []) && (c.knobs == []) &&
  (c.maps == (fn.params.toList ++ s.plain.varTypes P).any (P.mapsRec ·)) && (c.ifaces == (fn.params.toList ++ s.plain.varTypes P).any (P.ifacesRec ·)) && (c.mapsOut == P.mapsAmong fn.resultTypes.toList) &&
  (c.loops == (fn.params.toList ++ s.plain.varTypes P).any (P.loopsFrom ·)) && (c.wideKeys == (fn.params.toList ++ s.plain.varTypes P ++ fn.resultTypes.toList).any (P.wideKeysFrom ·)) &&
  s.vars.all (P.varReadable ·) && fn.resultTypes.all (fun t => P.readableRec t && decide (t < P.types.size)) && (c.ifacesOut == fn.resultTypes.toList.any (P.ifacesRec ·)) && (c.loopsOut == fn.resultTypes.toList.any (P.loopsFrom ·)) && c.shortTexts.isNone &&
  (c.kinds == (if c.domain.isEmpty then [] else fn.params.toList.map fun t => match P.underlying t with | some (.int k) => some k | _ => none)) && (c.pinned == c.pinnedBy) &&
  (c.veiled == (fn.params.toList ++ s.plain.varTypes P ++ fn.resultTypes.toList).any (P.veiledRec ·)) && c.veiledFits P fn.params.toList (fn.params.toList ++ s.plain.varTypes P ++ fn.resultTypes.toList)
theorem joined_all {P : Program} {f : FuncId} {fn : Func} {s : ChangeSpec} {c : OpenClaim} (k1 : c.wf (OpenSpec.ofChange s) = true) (kt : typeFacts P fn s c = true)
    (k10 : (c.inPlace == P.inPlace f) = true) (k11 : (c.unfollowed == P.unfollowed f) = true) (k12 : (c.recurses == P.recurses f) = true) (k13 : (c.named == P.varsNamed f) = true)
    (e2 : laidOutB P = true) (e3 : mapsRowed P = true) (e7 : (P.stops == []) = true) (e9 : (P.stopKnobs == []) = true) (e22 : (c.plainKeys == P.plainKeys) = true) (e23 : P.stopsHeard = true) (e24 : P.mayEnter = true)
    (e24b : (c.lifted == P.liftsFinal) = true) (e24c : (P.make == some c.make) = true) : joinedFacts P f fn s c = true := by
  unfold typeFacts at kt
  unfold joinedFacts
  simp only [Bool.and_eq_true] at kt ⊢
  obtain ⟨⟨⟨⟨⟨⟨⟨⟨⟨⟨⟨⟨⟨⟨⟨⟨⟨t1, t2⟩, t3⟩, t4⟩, t5⟩, t6⟩, t7⟩, t8⟩, t9⟩, t10⟩, t11⟩, t12⟩, t13⟩, t14⟩, t15⟩, t16⟩, t17⟩, t18⟩ := kt
  exact ⟨⟨⟨⟨⟨⟨⟨⟨⟨⟨⟨⟨⟨⟨⟨⟨⟨⟨⟨⟨⟨⟨⟨⟨⟨⟨⟨⟨⟨⟨⟨k1, e2⟩, e3⟩, t1⟩, t2⟩, t3⟩, e7⟩, t4⟩, e9⟩, k10⟩, k11⟩, k12⟩, k13⟩, t5⟩, t6⟩, t7⟩, t8⟩, t9⟩, t10⟩, t11⟩, t12⟩, t13⟩, e22⟩, t14⟩, e23⟩, e24⟩, e24b⟩, e24c⟩, t15⟩, t16⟩, t17⟩, t18⟩
theorem joined_of {f : FuncId} {fn : Func} {s : ChangeSpec} {c : OpenClaim} (k1 : c.wf (OpenSpec.ofChange s) = true) (kt : typeFacts Tryd.prog fn s c = true)
    (k10 : (c.inPlace == Tryd.prog.inPlace f) = true) (k11 : (c.unfollowed == Tryd.prog.unfollowed f) = true) (k12 : (c.recurses == Tryd.prog.recurses f) = true) (k13 : (c.named == Tryd.prog.varsNamed f) = true)
    (k22 : c.plainKeys = true) (k24b : c.lifted = false) (k24c : c.make = .cut) : joinedFacts Tryd.prog f fn s c = true :=
  joined_all k1 kt k10 k11 k12 k13 Tryd.laidOut Tryd.mapsRowed Tryd.stops Tryd.stopKnobs (by rw [k22, Tryd.plainKeys]; rfl) Tryd.stopsHeard Tryd.mayEnter (by rw [k24b, Tryd.liftsFinal]; rfl) (by rw [k24c, Tryd.make]; rfl)
end Go.Proofs.YtnpljmipicjacaaDoor
/-
  THE DOOR SEAT's CONDITION: the library's table lies in its variable: what a walk reads of it, and a world that meets it.
-/
namespace Go.Proofs.YtnpljmipicjacaaDoor
open Go.RowKit

def tabInts : List Int := Lib.deBruijn32tab.map fun n : Nat => (n : Int)
theorem Tryd.tabGlobal : Tryd.prog.globalNamed "math/bits.deBruijn32tab" = some 0 := by kernel_rfl
theorem Tryd.tabType : (Tryd.prog.globals[0]?).map (·.type) = some 106 := by kernel_rfl
theorem Tryd.tabCells : Tryd.prog.cellsOf 106 = 32 := by kernel_rfl
theorem Tryd.byteCells : Tryd.prog.cellsOf 5 = 1 := by kernel_rfl
theorem tabInts_at : ∀ i : Fin 32, tabInts.getD i.val 0 = ((Lib.deBruijn32tab.getD i.val 0 : Nat) : Int) := by decide
theorem tab_of_laid {W : World} (h : laidMetH Tryd.prog [("math/bits.deBruijn32tab", Rows.laid_math_bits_deBruijn32tab)] W) : TabW W := by
  have h' : laidMet Tryd.prog (("math/bits.deBruijn32tab", Lib.tabData .u8 tabInts) :: []) W := h
  have ht := Lib.tabIs_of_head Tryd.tabGlobal Tryd.tabType Tryd.underlying106 Tryd.underlying5 Tryd.byteCells Tryd.tabCells h'
  intro j hj
  rw [ht.cell Tryd.tabGlobal j (by simpa [tabInts, Lib.deBruijn32tab] using hj), tabInts_at ⟨j, hj⟩]

/-- A world that meets the condition. -/
noncomputable def laidWorld (os : Os) : World :=
  let w0 := World.holding Tryd.prog os ⟨#[], #[], []⟩
  { w0 with heap := w0.heap.modify 0 fun
      | .cells _ t frozen => .cells (tabInts.map fun z => Value.int .u8 z).toArray t frozen
      | o => o }
theorem laidWorld_met (os : Os) (args : Array Value) : laidMetH Tryd.prog [("math/bits.deBruijn32tab", Rows.laid_math_bits_deBruijn32tab)] ((laidWorld os).forCall (fun _ _ => 0) ⟨#[], args, []⟩).memory :=
  laidMetH_of_parts (laidMet_of_run' 8 (by kernel_rfl) (by kernel_rfl)) (by kernel_rfl)
end Go.Proofs.YtnpljmipicjacaaDoor
