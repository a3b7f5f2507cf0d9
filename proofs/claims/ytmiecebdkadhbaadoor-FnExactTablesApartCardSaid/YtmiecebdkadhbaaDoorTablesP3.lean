/-
  Texts put together for the claims of 'Tables' (pack 3): Look, LookW, Tied, CountT, Table, Ties, Ties2, Has, Own, LRows, Of, Other, ChooseP.
-/
import Derived.Test.YtmiecebdkadhbaaDoorTablesP2
import Derived.ScopeJumps
import Derived.WalkMore
import Derived.Laws.EntriesVeiled
import Derived.StillTailTactics
import Derived.Deep.DeepCutAuto
import Derived.ArgAppend
import Derived.Laws.AppendOwnNone
/-
  THE PROGRAM's RECURSIVE CLOSURE THAT GOES THROUGH THE LISTS OF PEOPLE WHO ARE TIED ('look' in 'allTied'), by its contract: induction on how many are still to come.
-/
namespace Go.Proofs.YtmiecebdkadhbaaDoor
open Go.RowKit

theorem told_kept {w w' : World} {A : Option Addr} {c : Nat} {l : List Int} (h : World.told w A c l) (hk : ∀ k, (Value.slice A l.length c).ownBlock = some k → w'.heap[k]? = w.heap[k]?) : World.told w' A c l := by
  refine ⟨h.1, ?_⟩
  rcases h.2 with h' | ⟨g, cap, cur, hv, hb, hg, rest⟩
  · exact .inl h'
  · exact .inr ⟨g, cap, cur, hv, hb, (hk g (by rw [hv]; rfl)).trans hg, rest⟩

/-- All lists have come. -/
structure LookYes (J : (Nat → Prop) → List (List Int) → World → Prop) (R S : Nat → Prop) (A : Option Addr) (c : Nat) (l : List Int) (xs : List (List Int)) (W W' : World) : Prop where
  ex : ∃ S', J S' xs W' ∧ (∀ j, S j → S' j) ∧ (∀ j, S' j → S j ∨ W.heap.size ≤ j)
  below : Below 0 W W'
  ro : ∀ j, R j → W'.heap[j]? = W.heap[j]?
  other : ∀ j, S j → j < W.heap.size → (Value.slice A l.length c).ownBlock ≠ some j → W'.heap[j]? = W.heap[j]?
  told : World.told W' A c l
/-- How a call of the closure ends. -/
def LookPost (J Jx : (Nat → Prop) → List (List Int) → World → Prop) (R S : Nat → Prop) (A : Option Addr) (c : Nat) (l : List Int) (pre L : List (List Int)) (W : World) : Bool → World → Prop
  | true, W' => LookYes J R S A c l (pre ++ L) W W'
  | false, W' => ∃ S' q x, q ++ [x] <+: L ∧ Jx S' (pre ++ (q ++ [x])) W'

section
variable {J Jx : (Nat → Prop) → List (List Int) → World → Prop} {R S S1 : Nat → Prop} {A A' : Option Addr} {c c' B : Nat} {l : List Int} {xs pre : List (List Int)} {W wr X w1 w2 : World}
theorem LookYes.start (hJ : J S xs W) (ht : World.told W A c l) : LookYes J R S A c l xs W W := ⟨⟨S, hJ, fun _ h => h, fun _ h => .inl h⟩, Below.refl _ _, fun _ _ => rfl, fun _ _ _ _ => rfl, ht⟩
/-- one person more: what holds where the closure is called again -/
theorem LookYes.step {x : Int} (hh : Held J) (h : LookYes J R S A c l xs W wr) (hA : ∀ k, (Value.slice A l.length c).ownBlock = some k → S k) (hS : ∀ j, S j → B ≤ j) (hR : ∀ j, R j → j < B) (hB : B ≤ W.heap.size)
    (hX : Below wr.heap.size wr X) (g : Grew X w1 A A' c c' l x) :
    (∃ S2, J S2 xs w1 ∧ (∀ j, S j → S2 j) ∧ (∀ j, S2 j → S j ∨ W.heap.size ≤ j) ∧ (∀ k, (Value.slice A' (l ++ [x]).length c').ownBlock = some k → S2 k)) ∧ (∀ j, R j → w1.heap[j]? = wr.heap[j]?) ∧ B ≤ w1.heap.size ∧ W.heap.size ≤ w1.heap.size := by
  obtain ⟨S1, hJ1, hs1, hs2⟩ := h.ex
  have hsz := h.below.size
  have hsX := hX.size
  have hs3 := g.grow.size
  have hap : Apart S1 wr w1 := ⟨(hX.mono (Nat.zero_le _)).trans ((Below.refl 0 X).grown g.grow (Nat.zero_le _) fun k _ => Nat.zero_le k), fun j hj hn => by
    rw [g.grow.block j (by omega) (fun e => hn (hs1 j (hA j e.symm))), hX.block j hj]⟩
  refine ⟨⟨fun j => S1 j ∨ (wr.heap.size ≤ j ∧ j < w1.heap.size), hh _ _ _ _ _ hJ1 hap (fun j hj => hj), fun j hj => .inl (hs1 j hj), fun j hj => ?_, fun k hk => ?_⟩, fun j hj => ?_, by omega, by omega⟩
  · rcases hj with hj | hj
    · exact hs2 j hj
    · exact .inr (by omega)
  · rcases g.same with ⟨rfl, rfl, _⟩ | ⟨_, b, rfl, hb⟩
    · exact .inl (hs1 k (hA k (by
        cases hA' : A' with
        | none => rw [hA'] at hk; simp [Value.ownBlock] at hk
        | some a => rw [hA'] at hk; exact hk)))
    · have hlt := (own_lt g.new).2
      have : b = k := by simpa [Value.ownBlock] using hk
      subst this
      exact .inr ⟨by omega, hlt⟩
  · have h1 := hR j hj
    rw [g.grow.block j (by omega) (fun e => by have := hS j (hA j e.symm); omega), hX.block j (by omega)]
theorem LookYes.next {x : Int} {S2 : Nat → Prop} {L : List (List Int)} (h : LookYes J R S A c l xs W wr) (hA : ∀ k, (Value.slice A l.length c).ownBlock = some k → S k) (hS : ∀ j, S j → B ≤ j) (hR : ∀ j, R j → j < B) (hB : B ≤ W.heap.size)
    (hX : Below wr.heap.size wr X) (g : Grew X w1 A A' c c' l x) (k1 : ∀ j, S j → S2 j) (k2 : ∀ j, S2 j → S j ∨ W.heap.size ≤ j) (h2 : LookYes J R S2 A' c' (l ++ [x]) L w1 w2) : LookYes J R S A c l L W w2 := by
  have hsz := h.below.size
  have hsX := hX.size
  have hs3 := g.grow.size
  have hoA : ∀ j, S j → (Value.slice A l.length c).ownBlock ≠ some j → w1.heap[j]? = wr.heap[j]? ∨ wr.heap.size ≤ j := fun j _ hne => by
    by_cases hlt : j < wr.heap.size
    · exact .inl (by rw [g.grow.block j (by omega) (fun e => hne e.symm), hX.block j hlt])
    · exact .inr (by omega)
  refine ⟨?_, (h.below.trans ((hX.mono (Nat.zero_le _)).trans ((Below.refl 0 X).grown g.grow (Nat.zero_le _) fun k _ => Nat.zero_le k))).trans h2.below, fun j hj => ?_, fun j hj hlt hne => ?_, ?_⟩
  · obtain ⟨S', hJ', e1, e2⟩ := h2.ex
    refine ⟨S', hJ', fun j hj => e1 j (k1 j hj), fun j hj => ?_⟩
    rcases e2 j hj with h' | h'
    · exact k2 j h'
    · exact .inr (by omega)
  · have h1 := hR j hj
    rw [h2.ro j hj, g.grow.block j (by omega) (fun e => by have := hS j (hA j e.symm); omega), hX.block j (by omega), h.ro j hj]
  · rw [h2.other j (k1 j hj) (by omega) ?_]
    · rcases hoA j hj hne with h' | h'
      · rw [h', h.other j hj hlt hne]
      · omega
    · rcases g.same with ⟨rfl, rfl, _⟩ | ⟨_, b, rfl, hb⟩
      · intro e
        refine hne ?_
        cases hA' : A' with
        | none => rw [hA'] at e; simp [Value.ownBlock] at e
        | some a => rw [hA'] at e; exact e
      · intro e
        have : b = j := by simpa [Value.ownBlock] using e
        omega
  · rcases g.same with ⟨rfl, rfl, hne⟩ | ⟨_, b, rfl, hb⟩
    · exact told_front h2.told hne
    · refine told_kept g.old fun k hk => ?_
      have hklt := (own_lies g.old k hk).2
      refine h2.other k (k1 k (hA k hk)) hklt fun e => ?_
      have hbk : b = k := by simpa [Value.ownBlock] using e
      have hkX := (own_lies h.told k hk).2
      omega
end
theorem IsSet.smaller {J a : Nat} {cs : List Nat} (h : IsSet J (a :: cs)) : J &&& (65535 - 2 ^ a) < J := by
  have h1 := Nat.and_le_left (n := J) (m := 65535 - 2 ^ a)
  rcases Nat.lt_or_eq_of_le h1 with h2 | h2
  · exact h2
  · have h3 := (h.mem a).2 List.mem_cons_self
    have h4 := h.tail.mem a
    rw [h2, h3] at h4
    have h5 := h4.1 rfl
    have := (List.pairwise_cons.1 h.up).1 a h5
    omega
end Go.Proofs.YtmiecebdkadhbaaDoor
/-
  THE PROGRAM's RECURSIVE CLOSURE THAT GOES THROUGH THE LISTS OF PEOPLE WHO ARE TIED, walked.
-/
namespace Go.Proofs.YtmiecebdkadhbaaDoor
open Go.RowKit Go.Shelf
attribute [local go_sem] Oper.semAt_some

theorem clear_bit {j a : Nat} (hj : j < 65536) (ha : a < 16) : bits BinOp.andNot IntKind.u16 (j : Int) (IntKind.u16.wrap (2 ^ min a 16)) = ((j &&& (65535 - 2 ^ a) : Nat) : Int) := by
  have h2 : 2 ^ a < 2 ^ 16 := Nat.pow_lt_pow_right (by omega) ha
  rw [show (2 : Nat) ^ 16 = 65536 from rfl] at h2
  have e : IntKind.u16.wrap (2 ^ min a 16) = ((2 ^ a : Nat) : Int) := by
    obtain ⟨m, hm⟩ : ∃ m, 2 ^ a = m := ⟨_, rfl⟩
    rw [Nat.min_eq_left (by omega), IntKind.wrap_u16, show (2 : Int) ^ a = ((2 ^ a : Nat) : Int) from by simp, hm]
    rw [hm] at h2
    omega
  rw [e, u16_andNot_nat j _ hj h2]

end Go.Proofs.YtmiecebdkadhbaaDoor
/-
  THE PROGRAM's ITERATOR OVER LISTS OF TIED PEOPLE ('allTied'): its contract, in the form that the law of the statement takes.
-/
namespace Go.Proofs.YtmiecebdkadhbaaDoor
open Go.RowKit

/-- ties as the program has them: twelve sets -/
def tcells (T : Nat → Nat) : Array Value := #[.int .u16 (T 0), .int .u16 (T 1), .int .u16 (T 2), .int .u16 (T 3), .int .u16 (T 4), .int .u16 (T 5), .int .u16 (T 6), .int .u16 (T 7), .int .u16 (T 8), .int .u16 (T 9), .int .u16 (T 10), .int .u16 (T 11)]
theorem tcells_at (T : Nat → Nat) : ∀ a, a < 12 → (tcells T)[a]? = some (.int .u16 (T a)) := by
  intro a ha
  match a, ha with
  | 0, _ => rfl
  | 1, _ => rfl
  | 2, _ => rfl
  | 3, _ => rfl
  | 4, _ => rfl
  | 5, _ => rfl
  | 6, _ => rfl
  | 7, _ => rfl
  | 8, _ => rfl
  | 9, _ => rfl
  | 10, _ => rfl
  | 11, _ => rfl
/-- sets of people that tell who is tied to whom -/
structure TiesOf (T : Nat → Nat) (t : Nat → Nat → Bool) : Prop where
  bit : ∀ a b, a < 12 → b < 16 → (T a).testBit b = t a b
  lt : ∀ a, a < 12 → T a < 65536

end Go.Proofs.YtmiecebdkadhbaaDoor
/-
  HOW MANY LISTS OF TIED PEOPLE THERE ARE ('countTied'), and whether there is one ('hasTied'), by their contracts.
-/
namespace Go.Proofs.YtmiecebdkadhbaaDoor
open Go.RowKit Go.Shelf
attribute [local go_sem] Oper.semAt_some

theorem listsC_length_le (t : Nat → Nat → Bool) : ∀ (k : Nat) (told : List Int) (cs : List Nat), (listsC t k told cs).length ≤ 2 ^ cs.length := by
  intro k told cs
  induction h : k + cs.length using Nat.strongRecOn generalizing k told cs with
  | _ n ih =>
    match k, cs with
    | 0, cs => rw [listsC_zero]; exact Nat.one_le_two_pow
    | k + 1, [] => rw [listsC_nil]; simp
    | k + 1, a :: cs =>
      rw [listsC_cons, List.length_append]
      simp only [List.length_cons] at h
      have h0 : (cs.filter (t a)).length ≤ cs.length := List.length_filter_le _ _
      have h1 := ih (k + (cs.filter (t a)).length) (by omega) k (told ++ [(a : Int)]) (cs.filter (t a)) rfl
      have h2 := ih (k + 1 + cs.length) (by omega) (k + 1) told cs rfl
      have h3 : 2 ^ (cs.filter (t a)).length ≤ 2 ^ cs.length := Nat.pow_le_pow_right (by omega) h0
      rw [List.length_cons, Nat.pow_succ]
      omega
theorem set_len {j : Nat} {cs : List Nat} (hs : IsSet j cs) (hcs : ∀ b ∈ cs, b < 12) : cs.length ≤ 12 := by
  have h := List.Nodup.length_le_of_subset (l₁ := cs) (l₂ := List.range 12) (hs.up.imp fun h => Nat.ne_of_lt h) (fun b hb => List.mem_range.2 (hcs b hb))
  simpa using h
theorem lists_few {t : Nat → Nat → Bool} {k : Nat} {told : List Int} {j : Nat} {cs : List Nat} (hs : IsSet j cs) (hcs : ∀ b ∈ cs, b < 12) : (listsC t k told cs).length ≤ 4096 := by
  have h1 := listsC_length_le t k told cs
  have h2 : 2 ^ cs.length ≤ 2 ^ 12 := Nat.pow_le_pow_right (by omega) (set_len hs hcs)
  omega
theorem wrap_next (n : Nat) : wrap64 (wrap64 (n : Int) + 1) = wrap64 ((n + 1 : Nat) : Int) := by unfold wrap64; omega

theorem below_putObj {B l : Nat} {A W : World} (h : Below B A W) (hB : B ≤ W.heap.size) (hl : B ≤ l) (o : Obj) : Below B A (W.putObj l o) := h.grown (grownBy_putObj' W l o) hB (fun k e => by cases e; exact hl)

theorem cell_putObj {W : World} {l b o : Nat} (ob : Obj) (hne : b ≠ l) : (W.putObj l ob).cell? ⟨b, o, none⟩ = W.cell? ⟨b, o, none⟩ := World.cell?_of_block (w := W) (w' := W.putObj l ob) (a := ⟨b, o, none⟩) (World.putObj_heap_other hne)

end Go.Proofs.YtmiecebdkadhbaaDoor
/-
  THE MODEL's TABLE OF A PARTY, AND THE PARTY OF A TABLE, by their contracts.
-/
namespace Go.Proofs.YtmiecebdkadhbaaDoor
open Go.RowKit

theorem Tryd.infoRow : (Tryd.prog.info? 79).map (fun i => (i.zero, i.size, i.bytes)) = some (some (.slice none 0 0), 1, 24) := by kernel_rfl

set_option maxHeartbeats 2000000 in
set_option maxRecDepth 100000 in
theorem paTable_any (p : Int) (l : PL) (A : Option Addr) (c : Nat) (w : World) (hp : isP p l = true) (hA : CRead w w.heap.size A (pcells l)) :
    Calls Tryd.prog 61 #[.agg #[.int .i64 p, .slice A l.length c]] w (GotTab w p.toNat (adj l)) := by
  obtain ⟨i0, hi, hz0, hz1, hz2⟩ := info_parts Tryd.infoRow
  obtain ⟨i1, hj, hy0, hy1, hy2⟩ := info_parts Tryd.infoBool
  obtain ⟨n, rfl⟩ : ∃ n : Nat, p = n := ⟨p.toNat, by have := isP_range hp; omega⟩
  have hn := isP_range hp
  have hlen : l.length ≤ 66 := by have h1 := isP_length hp; have h2 := people_sq hn.1 hn.2; omega
  simp only [Int.toNat_natCast]
  have Hp := Lib.hid hp
  clear hp
  generalize hB : w.heap.size + 1 = B
  have hBw : w.heap.size < B := by omega
  have HB := Lib.hid hB
  have hB0 : w.heap.size + 1 ≤ B := by omega
  have hB1 : B ≤ w.heap.size + 1 := by omega
  clear hB
  go_enter Tryd.func61, Tryd.ntmps61
  go_wp2
  go_loopw [3, 4] (fun v i wr => ∃ k : Nat, ∃ G, k ≤ n ∧ i = .int .i64 k ∧ TabG wr B v k n G (fun _ _ => false) ∧ Below B (w.alloc (Obj.cells #[.int .i64 (n : Int), .slice A l.length c] 31)) wr) (fun _ i _ => n - (intOf i).toNat)
  case atStart => exact ⟨0, fun _ => 0, Nat.zero_le _, rfl, TabG.nil _ _ _ _ _, Below.refl _ _⟩
  case round =>
    obtain ⟨k, G, hk, rfl, htab, hb⟩ := hrel
    have hs := hb.size
    simp only [World.size_alloc] at hs
    have u0 : wr.cell? ⟨w.heap.size, 0, none⟩ = some (.int .i64 n) := carry hb (by simp) hBw
    have u1 : wr.cell? ⟨w.heap.size, 1, none⟩ = some (.slice A l.length c) := carry hb (by simp) hBw
    by_cases hlt : k < n
    · have hki : (k : Int) < n := by omega
      go_wp2_with (first
        | (at_make; refine wpList_make_row _ rfl _ _ 79 rfl 4 i1 (.bool false) Tryd.underlying79 hj hy0 hy1 rfl _ _ n rfl rfl (by rw [hy2]; omega) (by omega) ?_)
        | (at_builtin; refine wpList_append_own _ rfl _ _ 68 rfl B 79 i0 (.slice none 0 0) 1 24 Tryd.underlying68 hi hz0 hz1 hz2 rfl (by decide) _ _ _ rfl ((htab.own.alloc _).alloc _) ⟨wr.heap.size + 1, 0, none⟩ 1 1 [.slice (some ⟨wr.heap.size, 0, none⟩) n n] rfl rfl (one_cell (by simp)) (one_one rfl) (by unfold maxLen; omega) (by omega) (by simp; omega) ?_; intro v' w1 hown' hgrow _; have htab' := htab.push (by omega) hgrow hown'))
      have hb1 : Below B (w.alloc (Obj.cells #[.int .i64 (n : Int), .slice A l.length c] 31)) w1 := ((hb.alloc (by omega) _).alloc (by simp; omega) _).grown hgrow (by simp; omega) (fun b hb => (htab.own.lt b hb).1)
      clear hown' hgrow
      go_roundw
      case rel => exact ⟨k + 1, _, by omega, by go_num, htab', hb1⟩
      case measure => simp [intOf]; omega
    · have hkl : n = k := by omega
      subst hkl
      have hge : ¬ ((n : Int) < n) := by omega
      obtain ⟨A', c', rfl, _⟩ := own_shape htab.own
      go_wp2
      go_loopw [22] (fun i wx => ∃ m : Nat, m ≤ l.length ∧ i = .int .i64 m ∧ TabG wx B (.slice A' n c') n n G (adj (l.take m)) ∧ Below B (w.alloc (Obj.cells #[.int .i64 (n : Int), .slice A l.length c] 31)) wx) (fun i _ => l.length - (intOf i).toNat)
      case atStart => exact ⟨0, Nat.zero_le _, rfl, by simpa [adj_nil] using htab, hb⟩
      case round =>
        clear htab hb u0 u1 hs
        obtain ⟨m, hm, rfl, htab, hb⟩ := hrel
        have hs := hb.size
        simp only [World.size_alloc] at hs
        have hbw : Below w.heap.size w wr := Below.trans (b := _) (by go_grown) (hb.mono (by omega))
        by_cases hmt : m < l.length
        · obtain ⟨⟨x, y⟩, hx⟩ := getSome l m hmt
          obtain ⟨h0, h1, h2⟩ := goodAt_pair (isP_good Hp.out hmt) hx
          obtain ⟨a, rfl⟩ : ∃ a : Nat, x = a := ⟨x.toNat, by omega⟩
          obtain ⟨b, rfl⟩ : ∃ b : Nat, y = b := ⟨y.toNat, by omega⟩
          obtain ⟨bb, off, rfl, hbb, c0, c1⟩ := (hA.below hbw (Nat.le_refl _)).pair hx
          obtain ⟨g, rfl⟩ := own_form htab.own (by omega)
          have hmi : (m : Int) < (l.length : Int) := by omega
          have han : a < n := by omega
          have hbn : b < n := by omega
          have ha : (a : Int) < n := by omega
          have hb' : (b : Int) < n := h2
          have hGa := htab.blk han
          have hGb := htab.blk hbn
          have Hx := Lib.hid hx
          clear hx
          go_wp2
          generalize hW : wr.alloc (Obj.cells #[.int .i64 (a : Int), .int .i64 (b : Int)] 78) = W
          have tW : TabG W B (.slice (some ⟨g, 0, none⟩) n c') n n G (adj (l.take m)) := by rw [← hW]; exact htab.alloc _
          have bW : Below B (w.alloc (Obj.cells #[.int .i64 (n : Int), .slice (some ⟨bb, off, none⟩) l.length c] 31)) W := by rw [← hW]; exact hb.alloc (by omega) _
          have e0 : W.cell? ⟨wr.heap.size, 0, none⟩ = some (.int .i64 a) := by rw [← hW]; simp
          have e1 : W.cell? ⟨wr.heap.size, 1, none⟩ = some (.int .i64 b) := by rw [← hW]; simp
          clear hW
          have t1 := tW.set (b := b) han true
          have t2 := t1.set (b := a) hbn true
          rw [← adj_snoc] at t2
          have d0 := tW.outer han
          have d1 := tW.cell han hbn
          have d2 := tW.frozen han b
          have d3 := t1.outer hbn
          have d4 := t1.cell hbn han
          have d5 := t1.frozen hbn a
          have e2 : (W.setCell ⟨G a, b, none⟩ (.bool true)).cell? ⟨wr.heap.size, 0, none⟩ = some (.int .i64 a) := by rw [World.cell?_setCell_other _ _ _ _ (by simp)]; exact e0
          have e3 : (W.setCell ⟨G a, b, none⟩ (.bool true)).cell? ⟨wr.heap.size, 1, none⟩ = some (.int .i64 b) := by rw [World.cell?_setCell_other _ _ _ _ (by simp)]; exact e1
          have T2 := Lib.hid t2
          clear t1 t2 tW htab
          refine wp_region_still_tail 8 (by kernel_rfl) (by kernel_rfl) ?_
          simp only [List.take_succ_cons, List.take_zero, List.drop_succ_cons, List.drop_zero]
          repeat still_step
          refine wpStill_nil ?_
          change wpList _ _ _ _ _ (World.drew _)
          go_wp2
          generalize hW2 : (W.setCell ⟨G a, b, none⟩ (.bool true)).drew = W2
          have f0 : W2.cell? ⟨wr.heap.size, 0, none⟩ = some (.int .i64 a) := by rw [← hW2]; exact e2
          have f1 : W2.cell? ⟨wr.heap.size, 1, none⟩ = some (.int .i64 b) := by rw [← hW2]; exact e3
          have f3 : W2.cell? ⟨g, b, none⟩ = some (.slice (some ⟨G b, 0, none⟩) n n) := by rw [← hW2]; exact d3
          have f4 : W2.cell? ⟨G b, a, none⟩ = some (.bool (upd (adj (l.take m)) a b true b a)) := by rw [← hW2]; exact d4
          have f5 : W2.frozen? ⟨G b, a, none⟩ = false := by rw [← hW2]; exact d5
          have b2 : Below B (w.alloc (Obj.cells #[.int .i64 (n : Int), .slice (some ⟨bb, off, none⟩) l.length c] 31)) (W2.setCell ⟨G b, a, none⟩ (.bool true)).drew := by
            rw [← hW2]
            exact (((bW.setCell (p := ⟨G a, b, none⟩) hGa.1 _).drew).setCell (p := ⟨G b, a, none⟩) hGb.1 _).drew
          have t3 : TabG (W2.setCell ⟨G b, a, none⟩ (.bool true)).drew B (.slice (some ⟨g, 0, none⟩) n c') n n G (adj (l.take m ++ [((a : Int), (b : Int))])) := by
            rw [← hW2]
            exact T2.out.of_blocks ⟨rfl, rfl, rfl, Nat.le_refl _, fun _ _ _ => rfl⟩
          have B2 := Lib.hid b2
          have T3 := Lib.hid t3
          clear hW2 d0 d1 d2 d3 d4 d5 e0 e1 e2 e3 T2 bW b2 t3
          refine wp_region_still_tail 8 (by kernel_rfl) (by kernel_rfl) ?_
          simp only [List.take_succ_cons, List.take_zero, List.drop_succ_cons, List.drop_zero]
          repeat still_step
          refine wpStill_nil ?_
          change wpList _ _ _ _ _ (World.drew _)
          go_wp2
          go_roundw
          case rel =>
            refine ⟨m + 1, by omega, by go_num, ?_, B2.out⟩
            rw [List.take_add_one, Hx.out, Option.toList_some]
            exact T3.out
          case measure => simp [intOf]; omega
        · have hml : m = l.length := by omega
          subst hml
          have hgm : ¬ ((l.length : Int) < l.length) := by omega
          go_wp2
          go_ret
          rw [List.take_length] at htab
          exact ⟨A', c', G, rfl, htab.lower (by omega), hbw⟩
end Go.Proofs.YtmiecebdkadhbaaDoor
/-
  TIES AS THE PROGRAM HAS THEM, twelve sets of people: made of a party's pairs ('friendsIn'); those missing ('strangersIn'); everybody. Written by wip/tools/gen_ties.py.
-/
namespace Go.Proofs.YtmiecebdkadhbaaDoor
open Go.RowKit

def updN (T : Nat → Nat) (a v : Nat) : Nat → Nat := fun i => if i = a then v else T i
/-- one pair more is tied -/
def withT (T : Nat → Nat) (a b : Nat) : Nat → Nat := updN (updN T a (T a ||| 2 ^ b)) b (updN T a (T a ||| 2 ^ b) b ||| 2 ^ a)
theorem tcells_row (T : Nat → Nat) : ∀ m, m < 12 → (tcells T)[m]? = some (Value.int .u16 (T m)) := tcells_at T
theorem rowIs_u16 (w : World) (T : Nat → Nat) (ty : TypeId) : (w.alloc (.cells (tcells T) ty)).rowIs w.heap.size ty 12 (fun j => .int .u16 (T j)) :=
  ⟨tcells T, heap_alloc_new w _, rfl, fun i hi => tcells_at T i hi⟩
theorem shl_bit {a : Nat} (ha : a < 16) : IntKind.u16.wrap (2 ^ min a 16) = ((2 ^ a : Nat) : Int) := by
  have h2 : 2 ^ a < 2 ^ 16 := Nat.pow_lt_pow_right (by omega) ha
  rw [show (2 : Nat) ^ 16 = 65536 from rfl] at h2
  obtain ⟨m, hm⟩ : ∃ m, 2 ^ a = m := ⟨_, rfl⟩
  rw [Nat.min_eq_left (by omega), IntKind.wrap_u16, show (2 : Int) ^ a = ((2 ^ a : Nat) : Int) from by simp, hm]
  rw [hm] at h2
  omega
theorem two_lt {a : Nat} (ha : a < 16) : 2 ^ a < 65536 := by
  have h2 : 2 ^ a < 2 ^ 16 := Nat.pow_lt_pow_right (by omega) ha
  rwa [show (2 : Nat) ^ 16 = 65536 from rfl] at h2
theorem or_bit {x a : Nat} (hx : x < 65536) (ha : a < 16) : bits BinOp.or IntKind.u16 (x : Int) (IntKind.u16.wrap (2 ^ min a 16)) = ((x ||| 2 ^ a : Nat) : Int) := by
  rw [shl_bit ha, u16_or_nat x _ hx (two_lt ha)]
theorem or_bit2 {x a : Nat} (hx : x < 65536) (ha : a < 16) : bits BinOp.or IntKind.u16 (x : Int) (IntKind.u16.wrap (2 ^ a)) = ((x ||| 2 ^ a : Nat) : Int) := by
  have := or_bit hx ha
  rwa [Nat.min_eq_left (by omega)] at this
theorem or_lt {x a : Nat} (hx : x < 65536) (ha : a < 16) : x ||| 2 ^ a < 65536 := Nat.or_lt_two_pow (n := 16) hx (two_lt ha)

set_option maxHeartbeats 4000000 in
set_option maxRecDepth 100000 in
theorem tiesWith_any (T : Nat → Nat) (a b : Nat) (ha : a < 12) (hb : b < 12) (hT : ∀ i, i < 12 → T i < 65536) (w : World) :
    Calls Tryd.prog 97 #[.agg (tcells T), .agg #[.int .i64 a, .int .i64 b]] w fun e w' => e = .returned (.agg (tcells (withT T a b))) ∧ Below w.heap.size w w' := by
  have hai : (a : Int) < 12 := by omega
  have hbi : (b : Int) < 12 := by omega
  obtain ⟨W, hW⟩ : ∃ W, ((w.alloc (Obj.cells (tcells T) 83)).alloc (Obj.cells #[.int .i64 a, .int .i64 b] 78)).alloc (Obj.cells #[.int .u16 0, .int .u16 0, .int .u16 0, .int .u16 0, .int .u16 0, .int .u16 0, .int .u16 0, .int .u16 0, .int .u16 0, .int .u16 0, .int .u16 0, .int .u16 0] 83) = W := ⟨_, rfl⟩
  have kW : Below w.heap.size w W := by rw [← hW]; go_grown
  have zW : W.heap.size = w.heap.size + 3 := by rw [← hW]; simp
  have row0 : W.rowIs w.heap.size 83 12 (fun j => .int .u16 (T j)) := by rw [← hW]; exact ((rowIs_u16 w T _).alloc _).alloc _
  have p0 : W.cell? ⟨w.heap.size + 1, 0, none⟩ = some (.int .i64 a) := by rw [← hW]; exact (World.cell?_alloc_lt _ _ _ (by simp)).trans (by simp)
  have p1 : W.cell? ⟨w.heap.size + 1, 1, none⟩ = some (.int .i64 b) := by rw [← hW]; exact (World.cell?_alloc_lt _ _ _ (by simp)).trans (by simp)
  have rowR : W.rowIs (w.heap.size + 2) 83 12 (fun _ => .int .u16 0) := by
    rw [← hW]
    have := rowIs_u16 ((w.alloc (Obj.cells (tcells T) 83)).alloc (Obj.cells #[.int .i64 a, .int .i64 b] 78)) (fun _ => 0) 83
    simp only [World.size_alloc] at this
    exact this
  have s1 : w.heap.size ≠ w.heap.size + 1 := by omega
  -- the first store
  have q0 := row0.cell ha
  have f0 := row0.frozen a
  have o1 := or_bit2 (hT a ha) (show b < 16 by omega)
  have l1 := or_lt (hT a ha) (show b < 16 by omega)
  have row1 := row0.set a (.int .u16 ((T a ||| 2 ^ b : Nat) : Int))
  have row1' : (W.setCell ⟨w.heap.size, a, none⟩ (.int .u16 ((T a ||| 2 ^ b : Nat) : Int))).rowIs w.heap.size 83 12 (fun j => .int .u16 (updN T a (T a ||| 2 ^ b) j : Nat)) := row1.congr fun j _ => by unfold updN; by_cases h : j = a <;> simp [h]
  obtain ⟨T1, hT1⟩ : ∃ T1, updN T a (T a ||| 2 ^ b) = T1 := ⟨_, rfl⟩
  have hT1l : T1 b < 65536 := by rw [← hT1]; unfold updN; split; exact l1; exact hT b hb
  have hw : withT T a b = updN T1 b (T1 b ||| 2 ^ a) := by unfold withT; rw [hT1]
  rw [hT1] at row1'
  rw [hw]
  obtain ⟨r1, hr1⟩ : ∃ r1, T a ||| 2 ^ b = r1 := ⟨_, rfl⟩
  rw [hr1] at o1 row1'
  have P0 := (World.cell?_setCell_other W ⟨w.heap.size, a, none⟩ ⟨w.heap.size + 1, 0, none⟩ (.int .u16 (r1 : Int)) (by simp)).trans p0
  have P1 := (World.cell?_setCell_other W ⟨w.heap.size, a, none⟩ ⟨w.heap.size + 1, 1, none⟩ (.int .u16 (r1 : Int)) (by simp)).trans p1
  have rowR1 := rowR.setOther (a := ⟨w.heap.size, a, none⟩) (by simp) (.int .u16 (r1 : Int))
  have kX := kW.setCell (p := ⟨w.heap.size, a, none⟩) (Nat.le_refl _) (.int .u16 (r1 : Int))
  have HW := Lib.hid hW
  have ROW1 := Lib.hid row1'
  have ROWR1 := Lib.hid rowR1
  have KX := Lib.hid kX
  have PP0 := Lib.hid P0
  have PP1 := Lib.hid P1
  clear hT hT1 hw hr1 row0 row1 row1' rowR rowR1 hW kX P0 P1
  unfold tcells at HW ⊢
  go_enter Tryd.func97, Tryd.ntmps97
  go_wp2_with fail
  rw [HW.out]
  refine wp_region_still_tail 9 (by kernel_rfl) (by kernel_rfl) ?_
  simp only [List.take_succ_cons, List.take_zero, List.drop_succ_cons, List.drop_zero]
  repeat still_step
  refine wpStill_nil ?_
  change wpList _ _ _ _ _ (World.drew _)
  go_wp2_with fail
  try rw [o1]
  obtain ⟨X, hX⟩ : ∃ X, (W.setCell ⟨w.heap.size, a, none⟩ (.int .u16 (r1 : Int))).drew = X := ⟨_, rfl⟩
  rw [hX]
  have rowX : X.rowIs w.heap.size 83 12 (fun j => .int .u16 (T1 j)) := by rw [← hX]; exact ROW1.out
  have rowZ : X.rowIs (w.heap.size + 2) 83 12 (fun _ => .int .u16 0) := by rw [← hX]; exact ROWR1.out
  have kX : Below w.heap.size w X := by rw [← hX]; exact KX.out.drew
  have p0 : X.cell? ⟨w.heap.size + 1, 0, none⟩ = some (.int .i64 a) := by rw [← hX]; exact PP0.out
  have p1 : X.cell? ⟨w.heap.size + 1, 1, none⟩ = some (.int .i64 b) := by rw [← hX]; exact PP1.out
  have q0 := rowX.cell hb
  have f0 := rowX.frozen b
  have o2 := or_bit2 hT1l (show a < 16 by omega)
  have row2 := rowX.set b (.int .u16 ((T1 b ||| 2 ^ a : Nat) : Int))
  have row2' : (X.setCell ⟨w.heap.size, b, none⟩ (.int .u16 ((T1 b ||| 2 ^ a : Nat) : Int))).rowIs w.heap.size 83 12 (fun j => .int .u16 (updN T1 b (T1 b ||| 2 ^ a) j : Nat)) := row2.congr fun j _ => by unfold updN; by_cases h : j = b <;> simp [h]
  obtain ⟨T2, hT2⟩ : ∃ T2, updN T1 b (T1 b ||| 2 ^ a) = T2 := ⟨_, rfl⟩
  have HT2 := Lib.hid hT2
  obtain ⟨r2, hr2⟩ : ∃ r2, T1 b ||| 2 ^ a = r2 := ⟨_, rfl⟩
  rw [hT2] at row2'
  rw [hr2] at o2 row2'
  have rowZ2 := rowZ.setOther (a := ⟨w.heap.size, b, none⟩) (by simp) (.int .u16 (r2 : Int))
  have kY := kX.setCell (p := ⟨w.heap.size, b, none⟩) (Nat.le_refl _) (.int .u16 (r2 : Int))
  have ROW2 := Lib.hid row2'
  have ROWZ2 := Lib.hid rowZ2
  have KY := Lib.hid kY
  clear hX rowX rowZ row2 row2' rowZ2 hT2 hr2 kX kY
  refine wp_region_still_tail 9 (by kernel_rfl) (by kernel_rfl) ?_
  simp only [List.take_succ_cons, List.take_zero, List.drop_succ_cons, List.drop_zero]
  repeat still_step
  refine wpStill_nil ?_
  change wpList _ _ _ _ _ (World.drew _)
  go_upto_region 3 with fail
  try rw [o2]
  obtain ⟨Y, hY⟩ : ∃ Y, (X.setCell ⟨w.heap.size, b, none⟩ (.int .u16 (r2 : Int))).drew = Y := ⟨_, rfl⟩
  rw [hY]
  have rowY : Y.rowIs w.heap.size 83 12 (fun j => .int .u16 (T2 j)) := by rw [← hY]; exact ROW2.out
  have rowZ : Y.rowIs (w.heap.size + 2) 83 12 (fun _ => .int .u16 0) := by rw [← hY]; exact ROWZ2.out
  have kY : Below w.heap.size w Y := by rw [← hY]; exact KY.out.drew
  clear hY p0 p1 q0 f0 o1 o2 hai hbi
  have r0 := rowY.cell (i := 0) (by omega)
  have r1 := rowY.cell (i := 1) (by omega)
  have r2 := rowY.cell (i := 2) (by omega)
  have r3 := rowY.cell (i := 3) (by omega)
  have r4 := rowY.cell (i := 4) (by omega)
  have r5 := rowY.cell (i := 5) (by omega)
  have r6 := rowY.cell (i := 6) (by omega)
  have r7 := rowY.cell (i := 7) (by omega)
  have r8 := rowY.cell (i := 8) (by omega)
  have r9 := rowY.cell (i := 9) (by omega)
  have r10 := rowY.cell (i := 10) (by omega)
  have r11 := rowY.cell (i := 11) (by omega)
  have g0 := rowZ.cell (i := 0) (by omega)
  have g1 := rowZ.cell (i := 1) (by omega)
  have g2 := rowZ.cell (i := 2) (by omega)
  have g3 := rowZ.cell (i := 3) (by omega)
  have g4 := rowZ.cell (i := 4) (by omega)
  have g5 := rowZ.cell (i := 5) (by omega)
  have g6 := rowZ.cell (i := 6) (by omega)
  have g7 := rowZ.cell (i := 7) (by omega)
  have g8 := rowZ.cell (i := 8) (by omega)
  have g9 := rowZ.cell (i := 9) (by omega)
  have g10 := rowZ.cell (i := 10) (by omega)
  have g11 := rowZ.cell (i := 11) (by omega)
  have e0 := rowZ.frozen 0
  have e1 := rowZ.frozen 1
  have e2 := rowZ.frozen 2
  have e3 := rowZ.frozen 3
  have e4 := rowZ.frozen 4
  have e5 := rowZ.frozen 5
  have e6 := rowZ.frozen 6
  have e7 := rowZ.frozen 7
  have e8 := rowZ.frozen 8
  have e9 := rowZ.frozen 9
  have e10 := rowZ.frozen 10
  have e11 := rowZ.frozen 11
  have KY2 := Lib.hid kY
  clear rowY rowZ kY
  go_wp2
  refine bodyPost_ret (v := .agg #[.int .u16 (T2 0), .int .u16 (T2 1), .int .u16 (T2 2), .int .u16 (T2 3), .int .u16 (T2 4), .int .u16 (T2 5), .int .u16 (T2 6), .int .u16 (T2 7), .int .u16 (T2 8), .int .u16 (T2 9), .int .u16 (T2 10), .int .u16 (T2 11)]) (by simp [results, Tryd.results97, go_sem, g0, g1, g2, g3, g4, g5, g6, g7, g8, g9, g10, g11]) rfl ?_
  rw [← HT2.out] 
  exact ⟨rfl, ((((((((((((KY2.out.setCell (p := ⟨w.heap.size + 2, 0, none⟩) (by simp) _).setCell (p := ⟨w.heap.size + 2, 1, none⟩) (by simp) _).setCell (p := ⟨w.heap.size + 2, 2, none⟩) (by simp) _).setCell (p := ⟨w.heap.size + 2, 3, none⟩) (by simp) _).setCell (p := ⟨w.heap.size + 2, 4, none⟩) (by simp) _).setCell (p := ⟨w.heap.size + 2, 5, none⟩) (by simp) _).setCell (p := ⟨w.heap.size + 2, 6, none⟩) (by simp) _).setCell (p := ⟨w.heap.size + 2, 7, none⟩) (by simp) _).setCell (p := ⟨w.heap.size + 2, 8, none⟩) (by simp) _).setCell (p := ⟨w.heap.size + 2, 9, none⟩) (by simp) _).setCell (p := ⟨w.heap.size + 2, 10, none⟩) (by simp) _).setCell (p := ⟨w.heap.size + 2, 11, none⟩) (by simp) _)⟩
end Go.Proofs.YtmiecebdkadhbaaDoor
/-
  TIES MADE OF A PARTY's PAIRS ('friendsIn'); everybody. Written by wip/tools/gen_ties2.py.
-/
namespace Go.Proofs.YtmiecebdkadhbaaDoor
open Go.RowKit

theorem TiesOf.none : TiesOf (fun _ => 0) (adj []) := ⟨fun a b _ _ => by rw [Nat.zero_testBit]; rfl, fun a _ => by omega⟩
theorem TiesOf.congr {T : Nat → Nat} {t t' : Nat → Nat → Bool} (h : TiesOf T t) (e : ∀ a b, a < 12 → b < 16 → t a b = t' a b) : TiesOf T t' := ⟨fun a b ha hb => (h.bit a b ha hb).trans (e a b ha hb), h.lt⟩
theorem TiesOf.with {T : Nat → Nat} {t : Nat → Nat → Bool} (h : TiesOf T t) {a b : Nat} (ha : a < 12) (hb : b < 12) (hab : a ≠ b) : TiesOf (withT T a b) (upd (upd t a b true) b a true) := by
  have e1 : ∀ i, withT T a b i = if i = b then T b ||| 2 ^ a else if i = a then T a ||| 2 ^ b else T i := fun i => by
    unfold withT updN
    by_cases h1 : i = b
    · rw [if_pos h1, if_pos h1, if_neg (by omega)]
    · rw [if_neg h1, if_neg h1]
  refine ⟨fun i j hi hj => ?_, fun i hi => ?_⟩
  · rw [e1]
    unfold upd
    by_cases h1 : i = b
    · rw [if_pos h1, Nat.testBit_or, Nat.testBit_two_pow, h.bit b j hb hj]
      by_cases h2 : j = a
      · simp [h1, h2]
      · have h3 : ¬ (a = j) := fun e => h2 e.symm
        have h4 : ¬ (b = a) := fun e => hab e.symm
        simp [h1, h2, h3, h4]
    · rw [if_neg h1]
      by_cases h2 : i = a
      · rw [if_pos h2, Nat.testBit_or, Nat.testBit_two_pow, h.bit a j ha hj]
        by_cases h3 : j = b
        · simp [h2, h3, hab]
        · have h4 : ¬ (b = j) := fun e => h3 e.symm
          simp [h2, h3, h4, hab]
      · rw [if_neg h2, h.bit i j hi hj]
        simp [h1, h2]
  · rw [e1]
    split
    · exact or_lt (h.lt b hb) (by omega)
    · split
      · exact or_lt (h.lt a ha) (by omega)
      · exact h.lt i hi
theorem people_bits : ∀ n : Fin 13, ((2 : Int) ^ n.val % 65536 - 1) % 65536 = ((2 ^ n.val - 1 : Nat) : Int) := by decide

set_option maxHeartbeats 1000000 in
theorem everybody_any (n : Nat) (hn : n ≤ 12) (w : World) : Calls Tryd.prog 51 #[.int .i64 n] w fun e w' => e = .returned (.int .u16 ((2 ^ n - 1 : Nat) : Int)) ∧ w = w' := by
  have h0 : (0 : Int) ≤ n := by omega
  have e := people_bits ⟨n, by omega⟩
  have hn12 : (n : Int) ≤ 12 := by omega
  go_enter Tryd.func51, Tryd.ntmps51
  go_wp2
  go_ret
  refine ⟨?_, rfl⟩
  rw [← e, IntKind.wrap_u16, IntKind.wrap_u16]
  rfl

/-- the ties of a list of pairs -/
def friendsT (l : PL) : Nat → Nat := l.foldl (fun T q => withT T q.1.toNat q.2.toNat) fun _ => 0
theorem friendsT_snoc (l : PL) (a b : Nat) : friendsT (l ++ [((a : Int), (b : Int))]) = withT (friendsT l) a b := by simp [friendsT]

set_option maxHeartbeats 4000000 in
set_option maxRecDepth 100000 in
theorem friendsIn_any (p : Int) (l : PL) (A : Option Addr) (c : Nat) (w : World) (hp : isP p l = true) (hA : CRead w w.heap.size A (pcells l)) :
    Calls Tryd.prog 69 #[.agg #[.int .i64 p, .slice A l.length c]] w fun e w' => e = .returned (.agg (tcells (friendsT l))) ∧ TiesOf (friendsT l) (adj l) ∧ Below w.heap.size w w' := by
  have hn := isP_range hp
  have hlen : l.length ≤ 66 := by have h1 := isP_length hp; have h2 := people_sq hn.1 hn.2; omega
  obtain ⟨W, hW⟩ : ∃ W, ((w.alloc (Obj.cells #[.int .i64 p, .slice A l.length c] 31)).alloc (Obj.cells #[.int .u16 0, .int .u16 0, .int .u16 0, .int .u16 0, .int .u16 0, .int .u16 0, .int .u16 0, .int .u16 0, .int .u16 0, .int .u16 0, .int .u16 0, .int .u16 0] 83)).alloc (Obj.cells #[.int .u16 0, .int .u16 0, .int .u16 0, .int .u16 0, .int .u16 0, .int .u16 0, .int .u16 0, .int .u16 0, .int .u16 0, .int .u16 0, .int .u16 0, .int .u16 0] 83) = W := ⟨_, rfl⟩
  have kW : Below w.heap.size w W := by rw [← hW]; go_grown
  have zW : W.heap.size = w.heap.size + 3 := by rw [← hW]; simp
  have p1 : W.cell? ⟨w.heap.size, 1, none⟩ = some (.slice A l.length c) := by rw [← hW]; exact (World.cell?_alloc_lt _ _ _ (by simp; omega)).trans ((World.cell?_alloc_lt _ _ _ (by simp)).trans (by simp))
  have rowR : W.rowIs (w.heap.size + 1) 83 12 (fun _ => .int .u16 0) := by
    rw [← hW]
    have := rowIs_u16 (w.alloc (Obj.cells #[.int .i64 p, .slice A l.length c] 31)) (fun _ => 0) 83
    simp only [World.size_alloc] at this
    exact this.alloc _
  have rowF : W.rowIs (w.heap.size + 2) 83 12 (fun _ => .int .u16 0) := by
    rw [← hW]
    have := rowIs_u16 ((w.alloc (Obj.cells #[.int .i64 p, .slice A l.length c] 31)).alloc (Obj.cells #[.int .u16 0, .int .u16 0, .int .u16 0, .int .u16 0, .int .u16 0, .int .u16 0, .int .u16 0, .int .u16 0, .int .u16 0, .int .u16 0, .int .u16 0, .int .u16 0] 83)) (fun _ => 0) 83
    simp only [World.size_alloc] at this
    exact this
  have Hp := Lib.hid hp
  have RF := Lib.hid rowF
  have RR := Lib.hid rowR
  have P1 := Lib.hid p1
  have HW := Lib.hid hW
  have KW := Lib.hid kW
  clear hp rowF rowR hW kW
  go_enter Tryd.func69, Tryd.ntmps69
  go_upto_region 2 with fail
  rw [HW.out]
  go_wp2_with fail
  clear p1
  go_loopw [9] (fun i wr => ∃ (m : Nat) (T : Nat → Nat), m ≤ l.length ∧ i = .int .i64 m ∧ TiesOf T (adj (l.take m)) ∧ T = friendsT (l.take m) ∧ wr.rowIs (w.heap.size + 2) 83 12 (fun j => .int .u16 (T j)) ∧ Below (w.heap.size + 2) W wr) (fun i _ => l.length - (intOf i).toNat)
  case atStart => exact ⟨0, fun _ => 0, Nat.zero_le _, rfl, TiesOf.none, rfl, RF.out, Below.refl _ _⟩
  case round =>
    obtain ⟨m, T, hm, rfl, hT, hTf, rowF, hb⟩ := hrel
    have HTf := Lib.hid hTf
    clear hTf
    have s0 := hb.size
    by_cases hlt : m < l.length
    · obtain ⟨⟨x, y⟩, hx⟩ := getSome l m hlt
      obtain ⟨h0, h1, h2⟩ := goodAt_pair (isP_good Hp.out hlt) hx
      obtain ⟨a, rfl⟩ : ∃ a : Nat, x = a := ⟨x.toNat, by omega⟩
      obtain ⟨b, rfl⟩ : ∃ b : Nat, y = b := ⟨y.toNat, by omega⟩
      have kr : Below w.heap.size w wr := KW.out.trans (hb.mono (by omega))
      obtain ⟨bb, off, rfl, hbb, c0, c1⟩ := (hA.below kr (Nat.le_refl _)).pair hx
      have hmi : (m : Int) < (l.length : Int) := by omega
      have HT := Lib.hid hT
      have Hx := Lib.hid hx
      have HB := Lib.hid hb
      have HF := Lib.hid rowF
      clear hT hx hb
      go_upto_region 5 with fail
      obtain ⟨X, hX⟩ : ∃ X, wr.alloc (Obj.cells #[.int .i64 (a : Int), .int .i64 (b : Int)] 78) = X := ⟨_, rfl⟩
      rw [hX]
      have rowX : X.rowIs (w.heap.size + 2) 83 12 (fun j => .int .u16 (T j)) := by rw [← hX]; exact rowF.alloc _
      have zX : X.heap.size = wr.heap.size + 1 := by rw [← hX]; simp
      have x0 : X.cell? ⟨wr.heap.size, 0, none⟩ = some (.int .i64 a) := by rw [← hX]; simp
      have x1 : X.cell? ⟨wr.heap.size, 1, none⟩ = some (.int .i64 b) := by rw [← hX]; simp
      have kX : Below (w.heap.size + 2) W X := by rw [← hX]; exact HB.out.alloc (by omega) _
      clear hX c0 c1 rowF
      have r0 := rowX.cell (i := 0) (by omega)
      have r1 := rowX.cell (i := 1) (by omega)
      have r2 := rowX.cell (i := 2) (by omega)
      have r3 := rowX.cell (i := 3) (by omega)
      have r4 := rowX.cell (i := 4) (by omega)
      have r5 := rowX.cell (i := 5) (by omega)
      have r6 := rowX.cell (i := 6) (by omega)
      have r7 := rowX.cell (i := 7) (by omega)
      have r8 := rowX.cell (i := 8) (by omega)
      have r9 := rowX.cell (i := 9) (by omega)
      have r10 := rowX.cell (i := 10) (by omega)
      have r11 := rowX.cell (i := 11) (by omega)
      have call := tiesWith_any T a b (by omega) (by omega) HT.out.lt X
      unfold tcells at call
      have Call := Lib.hid call
      clear call
      go_wp2_with fail
      refine Call.out.mono ?_
      rintro e w2 ⟨rfl, hb2⟩
      have row2 := rowX.of_block (hb2.block _ rowX.lt)
      have s2 := hb2.size
      have hTw := HT.out.with (a := a) (b := b) (by omega) (by omega) (by omega)
      rw [← adj_snoc] at hTw
      have hTf2 : withT T a b = friendsT (l.take m ++ [((a : Int), (b : Int))]) := by rw [friendsT_snoc, HTf.out]
      generalize withT T a b = T' at *
      have HTf2 := Lib.hid hTf2
      clear hTf2
      have k2 : Below (w.heap.size + 2) W w2 := kX.trans (hb2.mono (by omega))
      clear r0 r1 r2 r3 r4 r5 r6 r7 r8 r9 r10 r11
      have r0 := row2.cell (i := 0) (by omega)
      have r1 := row2.cell (i := 1) (by omega)
      have r2 := row2.cell (i := 2) (by omega)
      have r3 := row2.cell (i := 3) (by omega)
      have r4 := row2.cell (i := 4) (by omega)
      have r5 := row2.cell (i := 5) (by omega)
      have r6 := row2.cell (i := 6) (by omega)
      have r7 := row2.cell (i := 7) (by omega)
      have r8 := row2.cell (i := 8) (by omega)
      have r9 := row2.cell (i := 9) (by omega)
      have r10 := row2.cell (i := 10) (by omega)
      have r11 := row2.cell (i := 11) (by omega)
      have e0 := row2.frozen 0
      have e1 := row2.frozen 1
      have e2 := row2.frozen 2
      have e3 := row2.frozen 3
      have e4 := row2.frozen 4
      have e5 := row2.frozen 5
      have e6 := row2.frozen 6
      have e7 := row2.frozen 7
      have e8 := row2.frozen 8
      have e9 := row2.frozen 9
      have e10 := row2.frozen 10
      have e11 := row2.frozen 11
      have row3 : ((((((((((((w2.setCell ⟨w.heap.size + 2, 0, none⟩ (.int .u16 (T' 0))).setCell ⟨w.heap.size + 2, 1, none⟩ (.int .u16 (T' 1))).setCell ⟨w.heap.size + 2, 2, none⟩ (.int .u16 (T' 2))).setCell ⟨w.heap.size + 2, 3, none⟩ (.int .u16 (T' 3))).setCell ⟨w.heap.size + 2, 4, none⟩ (.int .u16 (T' 4))).setCell ⟨w.heap.size + 2, 5, none⟩ (.int .u16 (T' 5))).setCell ⟨w.heap.size + 2, 6, none⟩ (.int .u16 (T' 6))).setCell ⟨w.heap.size + 2, 7, none⟩ (.int .u16 (T' 7))).setCell ⟨w.heap.size + 2, 8, none⟩ (.int .u16 (T' 8))).setCell ⟨w.heap.size + 2, 9, none⟩ (.int .u16 (T' 9))).setCell ⟨w.heap.size + 2, 10, none⟩ (.int .u16 (T' 10))).setCell ⟨w.heap.size + 2, 11, none⟩ (.int .u16 (T' 11))).rowIs (w.heap.size + 2) 83 12 (fun j => .int .u16 (T' j)) := ((((((((((((row2.set 0 (.int .u16 (T' 0))).set 1 (.int .u16 (T' 1))).set 2 (.int .u16 (T' 2))).set 3 (.int .u16 (T' 3))).set 4 (.int .u16 (T' 4))).set 5 (.int .u16 (T' 5))).set 6 (.int .u16 (T' 6))).set 7 (.int .u16 (T' 7))).set 8 (.int .u16 (T' 8))).set 9 (.int .u16 (T' 9))).set 10 (.int .u16 (T' 10))).set 11 (.int .u16 (T' 11))).congr fun j hj => by
        match j, hj with
        | 0, _ => rfl
        | 1, _ => rfl
        | 2, _ => rfl
        | 3, _ => rfl
        | 4, _ => rfl
        | 5, _ => rfl
        | 6, _ => rfl
        | 7, _ => rfl
        | 8, _ => rfl
        | 9, _ => rfl
        | 10, _ => rfl
        | 11, _ => rfl
      have k3 := ((((((((((((k2.setCell (p := ⟨w.heap.size + 2, 0, none⟩) (Nat.le_refl _) (.int .u16 (T' 0))).setCell (p := ⟨w.heap.size + 2, 1, none⟩) (Nat.le_refl _) (.int .u16 (T' 1))).setCell (p := ⟨w.heap.size + 2, 2, none⟩) (Nat.le_refl _) (.int .u16 (T' 2))).setCell (p := ⟨w.heap.size + 2, 3, none⟩) (Nat.le_refl _) (.int .u16 (T' 3))).setCell (p := ⟨w.heap.size + 2, 4, none⟩) (Nat.le_refl _) (.int .u16 (T' 4))).setCell (p := ⟨w.heap.size + 2, 5, none⟩) (Nat.le_refl _) (.int .u16 (T' 5))).setCell (p := ⟨w.heap.size + 2, 6, none⟩) (Nat.le_refl _) (.int .u16 (T' 6))).setCell (p := ⟨w.heap.size + 2, 7, none⟩) (Nat.le_refl _) (.int .u16 (T' 7))).setCell (p := ⟨w.heap.size + 2, 8, none⟩) (Nat.le_refl _) (.int .u16 (T' 8))).setCell (p := ⟨w.heap.size + 2, 9, none⟩) (Nat.le_refl _) (.int .u16 (T' 9))).setCell (p := ⟨w.heap.size + 2, 10, none⟩) (Nat.le_refl _) (.int .u16 (T' 10))).setCell (p := ⟨w.heap.size + 2, 11, none⟩) (Nat.le_refl _) (.int .u16 (T' 11)))
      have ROW3 := Lib.hid row3
      have K3 := Lib.hid k3
      have HTw := Lib.hid hTw
      clear row2 row3 k3 hTw rowX k2 kX
      go_wp2
      go_roundw
      case rel => exact ⟨m + 1, T', by omega, by go_num, by rw [List.take_add_one, Hx.out, Option.toList_some]; exact HTw.out, by rw [List.take_add_one, Hx.out, Option.toList_some]; exact HTf2.out, ROW3.out, K3.out⟩
      case measure => simp [intOf]; omega
    · have hml : m = l.length := by omega
      subst hml
      have hge : ¬ ((l.length : Int) < (l.length : Int)) := by omega
      rw [List.take_length] at hT
      have HT := Lib.hid hT
      have rowR := RR.out.of_block (hb.block _ (by omega))
      have kr : Below w.heap.size w wr := KW.out.trans (hb.mono (by omega))
      clear hT hb
      have r0 := rowF.cell (i := 0) (by omega)
      have r1 := rowF.cell (i := 1) (by omega)
      have r2 := rowF.cell (i := 2) (by omega)
      have r3 := rowF.cell (i := 3) (by omega)
      have r4 := rowF.cell (i := 4) (by omega)
      have r5 := rowF.cell (i := 5) (by omega)
      have r6 := rowF.cell (i := 6) (by omega)
      have r7 := rowF.cell (i := 7) (by omega)
      have r8 := rowF.cell (i := 8) (by omega)
      have r9 := rowF.cell (i := 9) (by omega)
      have r10 := rowF.cell (i := 10) (by omega)
      have r11 := rowF.cell (i := 11) (by omega)
      have g0 := rowR.cell (i := 0) (by omega)
      have g1 := rowR.cell (i := 1) (by omega)
      have g2 := rowR.cell (i := 2) (by omega)
      have g3 := rowR.cell (i := 3) (by omega)
      have g4 := rowR.cell (i := 4) (by omega)
      have g5 := rowR.cell (i := 5) (by omega)
      have g6 := rowR.cell (i := 6) (by omega)
      have g7 := rowR.cell (i := 7) (by omega)
      have g8 := rowR.cell (i := 8) (by omega)
      have g9 := rowR.cell (i := 9) (by omega)
      have g10 := rowR.cell (i := 10) (by omega)
      have g11 := rowR.cell (i := 11) (by omega)
      have e0 := rowR.frozen 0
      have e1 := rowR.frozen 1
      have e2 := rowR.frozen 2
      have e3 := rowR.frozen 3
      have e4 := rowR.frozen 4
      have e5 := rowR.frozen 5
      have e6 := rowR.frozen 6
      have e7 := rowR.frozen 7
      have e8 := rowR.frozen 8
      have e9 := rowR.frozen 9
      have e10 := rowR.frozen 10
      have e11 := rowR.frozen 11
      have KR := Lib.hid kr
      clear rowF rowR kr
      go_wp2
      refine bodyPost_ret (v := .agg #[.int .u16 (T 0), .int .u16 (T 1), .int .u16 (T 2), .int .u16 (T 3), .int .u16 (T 4), .int .u16 (T 5), .int .u16 (T 6), .int .u16 (T 7), .int .u16 (T 8), .int .u16 (T 9), .int .u16 (T 10), .int .u16 (T 11)]) (by simp [results, Tryd.results69, go_sem, g0, g1, g2, g3, g4, g5, g6, g7, g8, g9, g10, g11]) rfl ?_
      have hfin := HTf.out
      rw [List.take_length] at hfin
      rw [← hfin]
      exact ⟨rfl, HT.out, ((((((((((((KR.out.setCell (p := ⟨w.heap.size + 1, 0, none⟩) (by simp) _).setCell (p := ⟨w.heap.size + 1, 1, none⟩) (by simp) _).setCell (p := ⟨w.heap.size + 1, 2, none⟩) (by simp) _).setCell (p := ⟨w.heap.size + 1, 3, none⟩) (by simp) _).setCell (p := ⟨w.heap.size + 1, 4, none⟩) (by simp) _).setCell (p := ⟨w.heap.size + 1, 5, none⟩) (by simp) _).setCell (p := ⟨w.heap.size + 1, 6, none⟩) (by simp) _).setCell (p := ⟨w.heap.size + 1, 7, none⟩) (by simp) _).setCell (p := ⟨w.heap.size + 1, 8, none⟩) (by simp) _).setCell (p := ⟨w.heap.size + 1, 9, none⟩) (by simp) _).setCell (p := ⟨w.heap.size + 1, 10, none⟩) (by simp) _).setCell (p := ⟨w.heap.size + 1, 11, none⟩) (by simp) _)⟩
end Go.Proofs.YtmiecebdkadhbaaDoor
/-
  WHETHER A NUMBER IS IN A LIST: the model's look; a list's front.
-/
namespace Go.Proofs.YtmiecebdkadhbaaDoor
open Go.RowKit

theorem icells_getD {l : List Int} {j : Nat} (h : j < l.length) : (icells l)[j]? = some (.int .i64 (l.getD j 0)) := by
  simp [icells, List.getD_eq_getElem?_getD, List.getElem?_eq_getElem h]
theorem CRead.ints {w : World} {B : Nat} {A : Option Addr} {q : List Int} (h : CRead w B A (icells q)) (hq : 0 < q.length) : ∃ b off, A = some ⟨b, off, none⟩ ∧ b < B ∧ ∀ j, j < q.length → w.cell? ⟨b, off + j, none⟩ = some (.int .i64 (q.getD j 0)) := by
  obtain ⟨b, off, rfl, hb, _⟩ := h 0 _ (icells_getD hq)
  refine ⟨b, off, rfl, hb, fun j hj => ?_⟩
  obtain ⟨b', off', e, _, hc⟩ := h j _ (icells_getD hj)
  simp only [Option.some.injEq, Addr.mk.injEq, and_true] at e
  obtain ⟨rfl, rfl⟩ := e
  exact hc

theorem CRead.front {w : World} {B : Nat} {A : Option Addr} {q : List Int} (h : CRead w B A (icells q)) (k : Nat) : CRead w B A (icells (q.take k)) := fun j u hu => by
  refine h j u ?_
  unfold icells at hu ⊢
  rw [List.map_take, List.getElem?_take] at hu
  split at hu
  · exact hu
  · cases hu


/-- whether a number is in a list -/
def hasI (q : List Int) (x : Int) : Bool := q.contains x
theorem hasI_mem {q : List Int} {x : Int} : hasI q x = true ↔ x ∈ q := List.contains_iff_mem
set_option maxHeartbeats 1000000 in
theorem l1Has_any (q : List Int) (x : Int) (A : Option Addr) (c : Nat) (w : World) (hl : q.length ≤ 1048576) (hA : CRead w w.heap.size A (icells q)) :
    Calls Tryd.prog 105 #[.slice A q.length c, .int .i64 x] w fun e w' => e = .returned (.bool (hasI q x)) ∧ w = w' := by
  go_enter Tryd.func105, Tryd.ntmps105
  go_wp2
  go_loop [9] (fun i => ∃ k : Nat, k ≤ q.length ∧ i = .int .i64 k ∧ ∀ (j : Nat) (y : Int), j < k → q[j]? = some y → y ≠ x) (fun i => q.length - (intOf i).toNat)
  case atStart => exact ⟨0, Nat.zero_le _, rfl, fun j x hj => by omega⟩
  case round =>
    obtain ⟨k, hk, rfl, hg⟩ := hrel
    have Hg := Lib.hid hg
    clear hg
    by_cases hlt : k < q.length
    · obtain ⟨y, hy⟩ := getSome q k hlt
      obtain ⟨b, off, rfl, hbb, c0⟩ := hA.int hy
      have hki : (k : Int) < (q.length : Int) := by omega
      have Hy := Lib.hid hy
      clear hy
      by_cases hyx : y = x
      · subst hyx
        have He := Lib.hid (show hasI q y = true from hasI_mem.2 (List.mem_of_getElem? Hy.out))
        go_wp2
        go_ret
        exact ⟨by rw [He.out]; rfl, rfl⟩
      · go_wp2
        go_round
        case rel =>
          refine ⟨k + 1, by omega, by go_num, fun j z hj hz => ?_⟩
          by_cases hjk : j = k
          · subst hjk
            rw [Hy.out] at hz
            simp only [Option.some.injEq] at hz
            subst hz
            exact hyx
          · exact Hg.out j z (by omega) hz
        case measure => simp [intOf]; omega
    · have hkl : k = q.length := by omega
      have e : hasI q x = false := by
        rw [Bool.eq_false_iff]
        intro hc
        rw [hasI_mem] at hc
        obtain ⟨i, hi, e⟩ := List.getElem_of_mem hc
        exact Hg.out i _ (by omega) (List.getElem?_eq_getElem hi) e
      have He := Lib.hid e
      clear e
      have hge : ¬ ((k : Int) < (q.length : Int)) := by omega
      go_wp2
      go_ret
      exact ⟨by rw [He.out]; rfl, rfl⟩
end Go.Proofs.YtmiecebdkadhbaaDoor
/-
  'spec.l1Own': a copy of a list of numbers, by its contract.
-/
namespace Go.Proofs.YtmiecebdkadhbaaDoor
open Go.RowKit

set_option maxHeartbeats 1000000 in
set_option maxRecDepth 100000 in
theorem l1Own_any (q : List Int) (A : Option Addr) (c : Nat) (w : World) (hq : q.length ≤ 1048576) (h0 : 0 < q.length) (hA : CRead w w.heap.size A (icells q)) :
    Calls Tryd.prog 104 #[.slice A q.length c] w fun e w' => ∃ A' c', e = .returned (.slice A' q.length c') ∧ w'.ownsRow w.heap.size 3 1 (.slice A' q.length c') q.length (icells q) ∧ Below w.heap.size w w' := by
  obtain ⟨i0, hi, hz0, hz1, hz2⟩ := info_parts Tryd.infoInt
  obtain ⟨b, off, rfl, hb, hr⟩ := hA.ints h0
  go_enter Tryd.func104, Tryd.ntmps104
  have hc : ∀ j u, (icells q)[j]? = some u → (w.alloc (Obj.cells #[] 3)).cell? ((⟨b, off, none⟩ : Addr).add j) = some u := fun j u hu => by
    rw [Addr.add_lit]
    obtain ⟨b', off', e, _, hcell⟩ := hA j u hu
    simp only [Option.some.injEq, Addr.mk.injEq, and_true] at e
    obtain ⟨rfl, rfl⟩ := e
    exact (World.cell?_alloc_lt _ _ _ hb).trans hcell
  clear hr
  go_wp2_with (at_builtin; refine wpList_append_grows _ rfl _ _ 26 rfl 3 i0 _ 1 8 Tryd.underlying26 hi hz0 hz1 hz2 rfl (by decide) (some ⟨w.heap.size, 0, none⟩) 0 0 [] rfl (fun h => by cases h) rfl (fun b' hb' m u hu => by simp at hu) ⟨b, off, none⟩ q.length c (icells q) rfl (by simp [icells]) hc (icells_one q) (by omega) (by unfold maxLen; omega) (by omega) ?_; intro v1 w4 own4 gr4; simp only [Nat.zero_add, List.nil_append] at own4; obtain ⟨A4, d4, rfl, _⟩ := own_shape own4)
  go_ret
  exact ⟨A4, d4, rfl, own_lower own4 (by simp), below_of_gb (gb_trans (World.grownBy_alloc w _ none) gr4) (Nat.le_refl _)⟩
end Go.Proofs.YtmiecebdkadhbaaDoor
/-
  LISTS OF NUMBERS UNDER ONE SLICE, each row in a block of the call's own; 'spec.l1Own' of any list; 'spec.trGroups' as a plain list.
-/
namespace Go.Proofs.YtmiecebdkadhbaaDoor
open Go.RowKit

structure LRows (w : World) (B : Nat) (v : Value) (LL : List (List Int)) (hs : List Value) : Prop where
  own : w.ownsRow B 26 1 v LL.length hs
  row : ∀ (i : Nat) (l : List Int), LL[i]? = some l → ∃ A c, hs[i]? = some (Value.slice A l.length c) ∧ w.ownsRow B 3 1 (Value.slice A l.length c) l.length (icells l)
  nil : LL = [] → v = Value.slice none 0 0
section
variable {w w' : World} {B B' : Nat} {v v' v2 : Value} {LL L2 : List (List Int)} {hs hs2 : List Value}
theorem LRows.none (w : World) (B : Nat) : LRows w B (Value.slice Option.none 0 0) [] [] := ⟨World.ownsRow_nil _ _ _ _, fun i l h => by simp at h, fun _ => rfl⟩
theorem LRows.below (h : LRows w B v LL hs) (hb : Below w.heap.size w w') : LRows w' B v LL hs :=
  ⟨own_below h.own hb (Nat.le_refl _), fun i l hi => by obtain ⟨A, c, e, o⟩ := h.row i l hi; exact ⟨A, c, e, own_below o hb (Nat.le_refl _)⟩, h.nil⟩
theorem LRows.lower (h : LRows w B v LL hs) (hB : B' ≤ B) : LRows w B' v LL hs :=
  ⟨own_lower h.own hB, fun i l hi => by obtain ⟨A, c, e, o⟩ := h.row i l hi; exact ⟨A, c, e, own_lower o hB⟩, h.nil⟩
theorem LRows.length (h : LRows w B v LL hs) : hs.length = LL.length := by have := h.own.1; omega
theorem LRows.one (h : LRows w B v LL hs) : ∀ u ∈ hs, u.oneCell' = true := by
  intro u hu
  obtain ⟨i, hi, rfl⟩ := List.getElem_of_mem hu
  have hl := h.length
  obtain ⟨A, c, e, _⟩ := h.row i LL[i] (List.getElem?_eq_getElem (by omega))
  rw [List.getElem?_eq_getElem hi] at e
  simp only [Option.some.injEq] at e
  rw [e]
  rfl
theorem blocks_apart {e e' : TypeId} {size size' n m : Nat} {xs ys : List Value} (h : w.ownsRow B e size v n xs) (h' : w.ownsRow B' e' size' v' m ys) (hne : e ≠ e') : v'.ownBlock = .none ∨ v'.ownBlock ≠ v.ownBlock := by
  rcases h'.2 with ⟨rfl, _⟩ | ⟨g, cap, cur, rfl, _, hg, _⟩
  · exact .inl rfl
  · refine .inr fun e => ?_
    rcases h.2 with ⟨rfl, _⟩ | ⟨g2, cap2, cur2, rfl, _, hg2, _⟩
    · simp [Value.ownBlock] at e
    · have : g = g2 := by simpa [Value.ownBlock] using e
      subst this
      rw [hg] at hg2
      simp only [Option.some.injEq, Obj.cells.injEq] at hg2
      exact hne hg2.2.1.symm
/-- rows appended to rows -/
theorem LRows.append (h : LRows w B v LL hs) (h2 : LRows w B v2 L2 hs2) (hown : w'.ownsRow B 26 1 v' (LL.length + L2.length) (hs ++ hs2)) (hg : w.grownBy w' v.ownBlock) (hn : L2 ≠ []) : LRows w' B v' (LL ++ L2) (hs ++ hs2) := by
  have keep : ∀ A c l, w.ownsRow B 3 1 (.slice A l.length c) l.length (icells l) → w'.ownsRow B 3 1 (.slice A l.length c) l.length (icells l) := fun A c l o => o.kept hg (blocks_apart h.own o (show (26 : TypeId) ≠ 3 by decide))
  refine ⟨by rw [List.length_append]; exact hown, fun i l hi => ?_, fun e => ?_⟩
  · have hl := h.length
    by_cases hlt : i < LL.length
    · rw [List.getElem?_append_left hlt] at hi
      obtain ⟨A, c, e, o⟩ := h.row i l hi
      exact ⟨A, c, by rw [List.getElem?_append_left (by omega)]; exact e, keep A c l o⟩
    · rw [List.getElem?_append_right (by omega)] at hi
      obtain ⟨A, c, e, o⟩ := h2.row _ l hi
      exact ⟨A, c, by rw [List.getElem?_append_right (by omega), hl]; exact e, keep A c l o⟩
  · simp at e
    exact absurd e.2 hn
end
/-- A call came back with lists of numbers. -/
def GotLL (w : World) (LL : List (List Int)) (e : Ending) (w' : World) : Prop := ∃ A c hs, e = .returned (.slice A LL.length c) ∧ LRows w' w.heap.size (.slice A LL.length c) LL hs ∧ Below w.heap.size w w'

set_option maxHeartbeats 1000000 in
set_option maxRecDepth 100000 in
theorem l1Own_all (q : List Int) (A : Option Addr) (c : Nat) (w : World) (hq : q.length ≤ 1048576) (hA : CRead w w.heap.size A (icells q)) (h0 : q = [] → A = none ∧ c = 0) :
    Calls Tryd.prog 104 #[.slice A q.length c] w fun e w' => ∃ A' c', e = .returned (.slice A' q.length c') ∧ w'.ownsRow w.heap.size 3 1 (.slice A' q.length c') q.length (icells q) ∧ Below w.heap.size w w' := by
  by_cases hz : q = []
  · obtain ⟨rfl, rfl⟩ := h0 hz
    subst hz
    obtain ⟨i0, hi, hz0, hz1, hz2⟩ := info_parts Tryd.infoInt
    have h1 : (w.alloc (.cells #[] 3)).ownsRow w.heap.size 3 1 (.slice (some ⟨w.heap.size, 0, none⟩) 0 0) 0 [] := World.ownsRow_made w #[] 0 (Nat.le_refl _) (Nat.zero_le _) rfl
    go_enter Tryd.func104, Tryd.ntmps104
    go_wp2_with (at_builtin; refine wpList_append_own_none rfl _ _ 26 rfl w.heap.size 3 i0 1 Tryd.underlying26 hi (.slice (some ⟨w.heap.size, 0, none⟩) 0 0) 0 [] rfl h1 rfl ?_)
    go_ret
    exact ⟨_, _, rfl, h1, by go_grown⟩
  · have hpos : 0 < q.length := by cases q with | nil => exact absurd rfl hz | cons x q => simp
    exact l1Own_any q A c w hq hpos hA

/-! ## The model's candidates -/
def fromQ (q : List Int) : Nat := match q.getLast? with | none => 0 | some x => x.toNat + 1
def candR (t : Nat → Nat → Bool) (n : Nat) (q : List Int) (a : Nat) : List Nat := (List.range' a (n - a)).filter fun b => q.all fun y => t b y.toNat
theorem candR_end (t : Nat → Nat → Bool) (n : Nat) (q : List Int) {a : Nat} (h : n ≤ a) : candR t n q a = [] := by unfold candR; rw [Nat.sub_eq_zero_of_le h]; rfl
theorem candR_no {t : Nat → Nat → Bool} {n : Nat} {q : List Int} {a : Nat} (h : a < n) (hk : (q.all fun y => t a y.toNat) = false) : candR t n q a = candR t n q (a + 1) := by
  unfold candR
  rw [show n - a = (n - (a + 1)) + 1 from by omega, List.range'_succ, List.filter_cons_of_neg (by simp [hk])]
theorem candR_yes {t : Nat → Nat → Bool} {n : Nat} {q : List Int} {a : Nat} (h : a < n) (hk : (q.all fun y => t a y.toNat) = true) : candR t n q a = a :: candR t n q (a + 1) := by
  unfold candR
  rw [show n - a = (n - (a + 1)) + 1 from by omega, List.range'_succ, List.filter_cons_of_pos (by simpa using hk)]
theorem candR_tied {t : Nat → Nat → Bool} (hs : ∀ i j, t i j = t j i) (n : Nat) (q : List Int) (a : Nat) : (candR t n q (a + 1)).filter (t a) = candR t n (q ++ [(a : Int)]) (fromQ (q ++ [(a : Int)])) := by
  unfold candR fromQ
  simp only [List.getLast?_append, List.getLast?_singleton, Option.some_or, Int.toNat_natCast]
  rw [List.filter_filter]
  refine List.filter_congr fun b _ => ?_
  rw [List.all_append]
  simp [hs a b, Bool.and_comm]
end Go.Proofs.YtmiecebdkadhbaaDoor
/-
  THE MODEL's PARTY OF A TABLE, by its contract.
-/
namespace Go.Proofs.YtmiecebdkadhbaaDoor
open Go.RowKit

def tabP (n : Nat) (t : Nat → Nat → Bool) : PL := (allP n).filter fun q => t q.1.toNat q.2.toNat

/-- 'paOf' in the middle of its loops: the result's box is as it was made, the party's box holds the pairs so far. -/
structure OfRel (w wr : World) (n : Nat) (v : Value) (L : PL) : Prop where
  below : Below w.heap.size w wr
  res : wr.heap[w.heap.size]? = some (.cells #[.int .i64 0, .slice none 0 0] 31 (0, 0))
  box : wr.heap[w.heap.size + 1]? = some (.cells #[.int .i64 n, v] 31 (0, 0))
  own : wr.ownsRow (w.heap.size + 2) 78 2 v L.length (pcells L)
theorem lt_of_heap {w : World} {b : Nat} {o : Obj} (h : w.heap[b]? = some o) : b < w.heap.size := (Array.getElem?_eq_some_iff.1 h).1
theorem OfRel.start (w : World) (n : Nat) : OfRel w ((w.alloc (.cells #[.int .i64 0, .slice none 0 0] 31)).alloc (.cells #[.int .i64 n, .slice none 0 0] 31)) n (.slice none 0 0) [] := by
  refine ⟨by go_grown, ?_, ?_, World.ownsRow_nil _ _ _ _⟩
  · rw [Below.heap_alloc _ _ _ (by simp)]
    exact heap_alloc_new w _
  · have := heap_alloc_new (w.alloc (.cells #[.int .i64 0, .slice none 0 0] 31)) (.cells #[.int .i64 n, .slice none 0 0] 31)
    simpa using this
/-- one pair more -/
theorem OfRel.push {w wr w1 : World} {n : Nat} {v v' : Value} {L : PL} {x y : Int} {o : Obj} (h : OfRel w wr n v L) (hown : w1.ownsRow (w.heap.size + 2) 78 2 v' (L.length + 1) (pcells L ++ [.int .i64 x, .int .i64 y])) (hg : (wr.alloc o).grownBy w1 v.ownBlock) :
    OfRel w (w1.setCell ⟨w.heap.size + 1, 1, none⟩ v') n v' (L ++ [(x, y)]) := by
  have hs := lt_of_heap h.box
  have hb : ∀ k, k < w.heap.size + 2 → w1.heap[k]? = wr.heap[k]? := fun k hk => by
    rw [hg.block k (by simp; omega) (fun e => by have := (h.own.lt k e.symm).1; omega), Below.heap_alloc _ _ _ (by omega)]
  have e1 := (hb (w.heap.size + 1) (by omega)).trans h.box
  refine ⟨?_, ?_, ?_, ?_⟩
  · exact ((h.below.alloc (by omega) o).grown hg (by simp; omega) (fun k hk => by have := (h.own.lt k hk).1; omega)).setCell (p := ⟨w.heap.size + 1, 1, none⟩) (by simp) _
  · rw [heap_setCell_other _ _ _ _ (by simp)]
    exact (hb _ (by omega)).trans h.res
  · exact heap_setCell_same w1 (w.heap.size + 1) 1 _ _ v' e1
  · have e : (L ++ [(x, y)]).length = L.length + 1 := by simp
    rw [e, pcells_append]
    refine hown.kept (row := some (w.heap.size + 1)) ⟨rfl, rfl, rfl, by simp, fun k _ hk => heap_setCell_other _ _ _ _ (fun e => hk (by rw [e]))⟩ ?_
    right
    intro e
    have := (hown.lt _ e).1
    omega
/-- what the walk reads behind an append -/
theorem OfRel.kept {w wr w1 : World} {n : Nat} {v : Value} {L : PL} {o : Obj} (h : OfRel w wr n v L) (hg : (wr.alloc o).grownBy w1 v.ownBlock) :
    w1.cell? ⟨w.heap.size + 1, 1, none⟩ = some v ∧ w1.frozen? ⟨w.heap.size + 1, 1, none⟩ = false ∧ wr.heap.size < w1.heap.size ∧ w.heap.size + 1 < w1.heap.size ∧ w.heap.size < w1.heap.size := by
  have hs := lt_of_heap h.box
  have e1 : w1.heap[w.heap.size + 1]? = some (.cells #[.int .i64 n, v] 31 (0, 0)) := by
    rw [hg.block _ (by simp; omega) (fun e => by have := (h.own.lt _ e.symm).1; omega), Below.heap_alloc _ _ _ (by omega)]
    exact h.box
  have := hg.size
  simp only [World.size_alloc] at this
  exact ⟨by rw [cell_of_row _ _ _ _ _ _ e1]; rfl, frozen_of_row _ _ _ _ _ e1, by omega, by omega, by omega⟩
theorem two_cells {w : World} {g : Nat} {u v : Value} (h : w.cell? ⟨g, 0, none⟩ = some u) (h' : w.cell? ⟨g, 1, none⟩ = some v) : ∀ j x, [u, v][j]? = some x → w.cell? ((⟨g, 0, none⟩ : Addr).add j) = some x := by
  intro j x hx
  match j, hx with
  | 0, hx => simp at hx; subst hx; simpa [Addr.add] using h
  | 1, hx => simp at hx; subst hx; simpa [Addr.add] using h'
theorem two_one {u v : Value} (h : u.oneCell' = true) (h' : v.oneCell' = true) : ∀ x ∈ [u, v], x.oneCell' = true := by
  intro x hx
  simp at hx
  rcases hx with rfl | rfl
  · exact h
  · exact h'
theorem OfRel.cells {w wr : World} {n : Nat} {v : Value} {L : PL} (h : OfRel w wr n v L) : wr.cell? ⟨w.heap.size, 0, none⟩ = some (.int .i64 0) ∧ wr.cell? ⟨w.heap.size, 1, none⟩ = some (.slice none 0 0) ∧
    wr.cell? ⟨w.heap.size + 1, 0, none⟩ = some (.int .i64 n) ∧ wr.cell? ⟨w.heap.size + 1, 1, none⟩ = some v ∧ (∀ j, wr.frozen? ⟨w.heap.size, j, none⟩ = false) ∧ (∀ j, wr.frozen? ⟨w.heap.size + 1, j, none⟩ = false) :=
  ⟨by rw [cell_of_row _ _ _ _ _ _ h.res]; rfl, by rw [cell_of_row _ _ _ _ _ _ h.res]; rfl, by rw [cell_of_row _ _ _ _ _ _ h.box]; rfl, by rw [cell_of_row _ _ _ _ _ _ h.box]; rfl,
    fun j => frozen_of_row _ _ j _ _ h.res, fun j => frozen_of_row _ _ j _ _ h.box⟩

theorem filter_upTo_yes {n a b : Nat} {t : Nat → Nat → Bool} (h : a < b) (ht : t a b = true) : (upTo n a (b + 1)).filter (fun q => t q.1.toNat q.2.toNat) = (upTo n a b).filter (fun q => t q.1.toNat q.2.toNat) ++ [((a : Int), (b : Int))] := by
  rw [upTo_next h, List.filter_append]
  simp [ht]
theorem filter_upTo_no {n a b : Nat} {t : Nat → Nat → Bool} (h : a < b) (ht : t a b = false) : (upTo n a (b + 1)).filter (fun q => t q.1.toNat q.2.toNat) = (upTo n a b).filter (fun q => t q.1.toNat q.2.toNat) := by
  rw [upTo_next h, List.filter_append]
  simp [ht]
theorem upTo_length {n a b : Nat} (ha : a ≤ 12) (hb : b ≤ 13) (hn : n ≤ 12) : (upTo n a b).length ≤ 1000 := by
  unfold upTo rowP
  simp only [List.length_append, List.length_flatMap, List.length_map, List.length_range']
  have h : ∀ l : List Nat, (l.map fun a => n - (a + 1)).sum ≤ l.length * n := by
    intro l
    induction l with
    | nil => simp
    | cons x l ih => simp only [List.map_cons, List.sum_cons, List.length_cons, Nat.add_mul, Nat.one_mul]; omega
  have h1 := h (List.range a)
  rw [List.length_range] at h1
  have h2 : a * n ≤ 12 * 12 := Nat.mul_le_mul ha hn
  omega

set_option maxHeartbeats 2000000 in
set_option maxRecDepth 100000 in
theorem paOf_any (n : Nat) (t : Nat → Nat → Bool) (A : Option Addr) (c : Nat) (G : Nat → Nat) (B : Nat) (w : World) (hn : n ≤ 12) (htab0 : TabG w B (.slice A n c) n n G t) :
    Calls Tryd.prog 88 #[.slice A n c] w (GotParty w n (tabP n t)) := by
  obtain ⟨i0, hi, hz0, hz1, hz2⟩ := info_parts Tryd.infoPair
  have hn' : (n : Int) ≤ 12 := by omega
  go_enter Tryd.func88, Tryd.ntmps88
  go_wp2
  go_loopw [11] (fun i wr => ∃ a : Nat, ∃ v, a ≤ n ∧ i = .int .i64 a ∧ OfRel w wr n v ((upTo n a (a + 1)).filter fun q => t q.1.toNat q.2.toNat)) (fun i _ => n - (intOf i).toNat)
  case atStart => exact ⟨0, _, Nat.zero_le _, rfl, by simpa [upTo_start] using OfRel.start w n⟩
  case round =>
    obtain ⟨a, v, ha, rfl, hrel⟩ := hrel
    by_cases hlt : a < n
    · have hai : (a : Int) < n := by omega
      have Hrel := Lib.hid hrel
      clear hrel
      go_wp2
      go_loopw [5] (fun i wx => ∃ b : Nat, ∃ v, a < b ∧ b ≤ n ∧ i = .int .i64 b ∧ OfRel w wx n v ((upTo n a b).filter fun q => t q.1.toNat q.2.toNat)) (fun i _ => n - (intOf i).toNat)
      case atStart => exact ⟨a + 1, v, by omega, by omega, by go_num, Hrel.out⟩
      case round =>
        clear Hrel
        obtain ⟨b, v, hab, hb, rfl, hrel⟩ := hrel
        by_cases hbt : b < n
        · have hbi : (b : Int) < n := by omega
          obtain ⟨r0, r1, r2, r3, r4, r5⟩ := hrel.cells
          have hsz := lt_of_heap hrel.box
          have htab := htab0.below hrel.below (Nat.le_refl _)
          obtain ⟨g, rfl⟩ := own_form htab.own (by omega)
          have d0 := htab.outer hlt
          have d1 := htab.cell hlt hbt
          have q5 := r5 1
          have hlen : ((upTo n a b).filter fun q => t q.1.toNat q.2.toNat).length ≤ 1000 := Nat.le_trans (List.length_filter_le _ _) (upTo_length (by omega) (by omega) hn)
          cases ht : t a b with
          | false =>
            rw [ht] at d1
            have Ht := Lib.hid ht
            clear ht r4 r5
            go_wp2
            go_roundw
            case rel => exact ⟨b + 1, v, by omega, by omega, by go_num, by rw [filter_upTo_no hab Ht.out]; exact hrel⟩
            case measure => simp [intOf]; omega
          | true =>
            rw [ht] at d1
            have Ht := Lib.hid ht
            clear ht r4 r5
            go_wp2_with (at_builtin; refine wpList_append_own _ rfl _ _ 29 rfl (w.heap.size + 2) 78 i0 _ 2 16 Tryd.underlying29 hi hz0 hz1 hz2 rfl (by decide) _ _ _ rfl (hrel.own.alloc _) ⟨wr.heap.size, 0, none⟩ 1 1 [.int .i64 a, .int .i64 b] rfl rfl (two_cells (by simp) (by simp)) (two_one rfl rfl) (by unfold maxLen; omega) (by omega) (by simp; omega) ?_; intro v1 w1 hown1 hg1 _; obtain ⟨A1, d1', rfl, _⟩ := own_shape hown1; have hr1 := hrel.push hown1 hg1; obtain ⟨z0, z1, z2, z3, z4⟩ := hrel.kept hg1)
            go_roundw
            case rel => exact ⟨b + 1, _, by omega, by omega, by go_num, by rw [filter_upTo_yes hab Ht.out]; exact hr1⟩
            case measure => simp [intOf]; omega
        · have hbn : b = n := by omega
          subst hbn
          have hge : ¬ ((b : Int) < b) := by omega
          go_wp2
          go_roundw
          case rel => exact ⟨a + 1, v, by omega, by go_num, by rw [← upTo_row]; exact hrel⟩
          case measure => simp [intOf]; omega
    · have hal : n = a := by omega
      subst hal
      have hge : ¬ ((n : Int) < n) := by omega
      obtain ⟨r0, r1, r2, r3, r4, r5⟩ := hrel.cells
      have q40 := r4 0
      have q41 := r4 1
      rw [upTo_all] at hrel
      obtain ⟨A', c', rfl, _⟩ := own_shape hrel.own
      have hs := lt_of_heap hrel.box
      have Hrel := Lib.hid hrel
      clear hrel r4 r5
      go_wp2
      refine bodyPost_ret (v := .agg #[.int .i64 n, .slice A' (tabP n t).length c']) (by simp [results, Tryd.results88, go_sem, tabP, r0, r1]) rfl ?_
      exact ⟨A', c', rfl, ownsRow_setCell_below (ownsRow_setCell_below (own_lower Hrel.out.own (Nat.le_succ _)) (a := ⟨w.heap.size, 0, none⟩) (by simp) _) (a := ⟨w.heap.size, 1, none⟩) (by simp) _ |> fun h => own_lower h (Nat.le_succ _), (Hrel.out.below.setCell (p := ⟨w.heap.size, 0, none⟩) (Nat.le_refl _) _).setCell (p := ⟨w.heap.size, 1, none⟩) (Nat.le_refl _) _⟩
end Go.Proofs.YtmiecebdkadhbaaDoor
/-
  THE MODEL's PARTY WITH FRIENDS AND STRANGERS EXCHANGED, by its contract.
-/
namespace Go.Proofs.YtmiecebdkadhbaaDoor
open Go.RowKit

def otherP (n : Nat) (l : PL) : PL := (allP n).filter fun q => !l.contains q
theorem tabP_congr {n : Nat} {t t' : Nat → Nat → Bool} (h : ∀ i j, i < j → j < n → t i j = t' i j) : tabP n t = tabP n t' := by
  unfold tabP
  refine List.filter_congr fun q hq => ?_
  have := mem_allP.1 hq
  exact h _ _ (by omega) (by omega)
theorem tabP_contains {n : Nat} {l : PL} (f : Bool → Bool) (h : isP n l = true) : tabP n (fun i j => f (adj l i j)) = (allP n).filter fun q => f (l.contains q) := by
  unfold tabP
  refine List.filter_congr fun q hq => ?_
  have hm := mem_allP.1 hq
  show f (adj l q.1.toNat q.2.toNat) = _
  rw [adj_pair h (i := q.1.toNat) (j := q.2.toNat) (by omega)]
  have e : (((q.1.toNat : Nat) : Int), ((q.2.toNat : Nat) : Int)) = q := by
    obtain ⟨x, y⟩ := q
    simp only [Prod.mk.injEq]
    simp at hm
    omega
  rw [e]
theorem tabP_other {n : Nat} {l : PL} (h : isP n l = true) : tabP n (fun i j => !adj l i j) = otherP n l := tabP_contains (fun b => !b) h
theorem tabP_same {n : Nat} {l : PL} (h : isP n l = true) : tabP n (adj l) = l := (tabP_contains (fun b => b) h).trans (isP_filter h)

/-- the table in the middle of being turned -/
def turnT (t : Nat → Nat → Bool) (a b : Nat) : Nat → Nat → Bool := fun i j => if i < a ∨ i = a ∧ j < b then !t i j else t i j
theorem turnT_start (t : Nat → Nat → Bool) : turnT t 0 0 = t := by funext i j; simp [turnT]
theorem turnT_next (t : Nat → Nat → Bool) (a b : Nat) : upd (turnT t a b) a b (!t a b) = turnT t a (b + 1) := by
  funext i j
  unfold upd turnT
  by_cases h : i = a ∧ j = b
  · obtain ⟨rfl, rfl⟩ := h
    simp
  · rw [if_neg h]
    have : (i < a ∨ i = a ∧ j < b) ↔ (i < a ∨ i = a ∧ j < b + 1) := by omega
    simp only [this]
theorem turnT_row {n : Nat} (t : Nat → Nat → Bool) (a : Nat) : ∀ i j, i < n → j < n → turnT t a n i j = turnT t (a + 1) 0 i j := by
  intro i j hi hj
  unfold turnT
  have : (i < a ∨ i = a ∧ j < n) ↔ (i < a + 1 ∨ i = a + 1 ∧ j < 0) := by omega
  simp only [this]
theorem turnT_all {n : Nat} (t : Nat → Nat → Bool) : ∀ i j, i < n → j < n → turnT t n 0 i j = !t i j := by
  intro i j hi hj
  unfold turnT
  rw [if_pos (.inl hi)]
theorem turnT_at (t : Nat → Nat → Bool) (a b : Nat) : turnT t a b a b = t a b := by unfold turnT; rw [if_neg (by omega)]

set_option maxHeartbeats 2000000 in
set_option maxRecDepth 100000 in
theorem paOther_any (p : Int) (l : PL) (A : Option Addr) (c : Nat) (w : World) (hp : isP p l = true) (hA : CRead w w.heap.size A (pcells l)) :
    Calls Tryd.prog 54 #[.agg #[.int .i64 p, .slice A l.length c]] w (GotParty w p (otherP p.toNat l)) := by
  obtain ⟨n, rfl⟩ : ∃ n : Nat, p = n := ⟨p.toNat, by have := isP_range hp; omega⟩
  have hn := isP_range hp
  have hn12 : n ≤ 12 := by omega
  simp only [Int.toNat_natCast]
  have Hp := Lib.hid hp
  clear hp
  go_enter Tryd.func54, Tryd.ntmps54
  go_wp2_with fail
  refine (paTable_any _ _ _ _ _ Hp.out ((hA.below (B' := w.heap.size) (by go_grown) (Nat.le_refl _)).more (by go_size))).mono ?_
  simp only [Int.toNat_natCast]
  rintro e w1 ⟨A1, c1, G, rfl, tab1, hb1⟩
  simp only [World.size_alloc] at hb1 tab1
  have s1 := hb1.size
  simp only [World.size_alloc] at s1
  have x0 : w1.cell? ⟨w.heap.size + 1, 0, none⟩ = some (.int .i64 0) := carry hb1 (by simp) (by omega)
  have x1 : w1.cell? ⟨w.heap.size + 1, 1, none⟩ = some (.slice none 0 0) := carry hb1 (by simp) (by omega)
  have z0 : w1.frozen? ⟨w.heap.size + 1, 0, none⟩ = false := (hb1.frozen (p := ⟨w.heap.size + 1, 0, none⟩) (by simp)).trans (by simp)
  have z1 : w1.frozen? ⟨w.heap.size + 1, 1, none⟩ = false := (hb1.frozen (p := ⟨w.heap.size + 1, 1, none⟩) (by simp)).trans (by simp)
  have k1 : Below (w.heap.size + 2) w1 w1 := Below.refl _ _
  have kw : Below w.heap.size w w1 := Below.trans (b := _) (by go_grown) (hb1.mono (by omega))
  go_wp2
  go_loopw [10] (fun i wr => ∃ a : Nat, a ≤ n ∧ i = .int .i64 a ∧ TabG wr (w.heap.size + 2) (.slice A1 n c1) n n G (turnT (adj l) a 0) ∧ Below (w.heap.size + 2) w1 wr) (fun i _ => n - (intOf i).toNat)
  case atStart => exact ⟨0, Nat.zero_le _, rfl, by rw [turnT_start]; exact tab1, k1⟩
  case round =>
    obtain ⟨a, ha, rfl, tab, hb⟩ := hrel
    by_cases hlt : a < n
    · have hai : (a : Int) < n := by omega
      have Tab := Lib.hid tab
      have Hb := Lib.hid hb
      clear tab hb tab1
      go_wp2
      go_loopw [15] (fun i wx => ∃ b : Nat, b ≤ n ∧ i = .int .i64 b ∧ TabG wx (w.heap.size + 2) (.slice A1 n c1) n n G (turnT (adj l) a b) ∧ Below (w.heap.size + 2) w1 wx) (fun i _ => n - (intOf i).toNat)
      case atStart => exact ⟨0, Nat.zero_le _, rfl, Tab.out, Hb.out⟩
      case round =>
        clear Tab Hb
        obtain ⟨b, hbn, rfl, tab, hb⟩ := hrel
        by_cases hbt : b < n
        · have hbi : (b : Int) < n := by omega
          obtain ⟨g, rfl⟩ := own_form tab.own (by omega)
          have d0 := tab.outer hlt
          have d1 := tab.cell hlt hbt
          rw [turnT_at] at d1
          have d2 := tab.frozen hlt b
          have hG := tab.blk hlt
          have t1 := tab.set (b := b) hlt (!adj l a b)
          rw [turnT_next] at t1
          have T1 := Lib.hid t1
          have Hb := Lib.hid hb
          clear t1 tab hb
          go_wp2
          refine wp_region_still_tail 14 (by kernel_rfl) (by kernel_rfl) ?_
          simp only [List.take_succ_cons, List.take_zero, List.drop_succ_cons, List.drop_zero]
          repeat still_step
          refine wpStill_nil ?_
          change wpList _ _ _ _ _ (World.drew _)
          go_wp2
          go_roundw
          case rel =>
            refine ⟨b + 1, by omega, by go_num, ?_, ?_⟩
            · exact T1.out.of_blocks ⟨rfl, rfl, rfl, Nat.le_refl _, fun _ _ _ => rfl⟩
            · exact (Hb.out.setCell (p := ⟨G a, b, none⟩) hG.1 _).drew
          case measure => simp [intOf]; omega
        · have hbn' : n = b := by omega
          subst hbn'
          have hge : ¬ ((n : Int) < n) := by omega
          go_wp2
          go_roundw
          case rel => exact ⟨a + 1, by omega, by go_num, tab.congr (turnT_row _ _), hb⟩
          case measure => simp [intOf]; omega
    · have hal : n = a := by omega
      subst hal
      have hge : ¬ ((n : Int) < n) := by omega
      have tab2 := tab.congr (turnT_all _)
      have y0 := carry hb x0 (by omega)
      have y1 := carry hb x1 (by omega)
      have y2 := (hb.frozen (p := ⟨w.heap.size + 1, 0, none⟩) (by simp)).trans z0
      have y3 := (hb.frozen (p := ⟨w.heap.size + 1, 1, none⟩) (by simp)).trans z1
      have hs := hb.size
      have kr := kw.trans (hb.mono (by omega))
      clear x0 x1 z0 z1
      go_wp2_with fail
      refine (paOf_any _ _ _ _ _ _ _ hn12 tab2).mono ?_
      rw [tabP_other Hp.out]
      rintro e w2 ⟨A2, c2, rfl, own2, hb2⟩
      have o0 := carry hb2 y0 (by omega)
      have o1 := carry hb2 y1 (by omega)
      have o2 := (hb2.frozen (p := ⟨w.heap.size + 1, 0, none⟩) (by simp; omega)).trans y2
      have o3 := (hb2.frozen (p := ⟨w.heap.size + 1, 1, none⟩) (by simp; omega)).trans y3
      have hs2 := hb2.size
      clear y0 y1 y2 y3
      go_wp2
      refine bodyPost_ret (v := .agg #[.int .i64 n, .slice A2 (otherP n l).length c2]) (by simp [results, Tryd.results54, go_sem, o0, o1]) rfl ?_
      exact ⟨A2, c2, rfl, own_lower (ownsRow_setCell_below (ownsRow_setCell_below own2 (a := ⟨w.heap.size + 1, 0, none⟩) (by simp; omega) _) (a := ⟨w.heap.size + 1, 1, none⟩) (by simp; omega) _) (by omega),
        ((kr.trans (hb2.mono (by omega))).setCell (p := ⟨w.heap.size + 1, 0, none⟩) (by simp) _).setCell (p := ⟨w.heap.size + 1, 1, none⟩) (by simp) _⟩
end Go.Proofs.YtmiecebdkadhbaaDoor
/-
  PEOPLE CHOSEN AND RENAMED, as plain lists and as tables. Nothing here speaks of the program.
-/
namespace Go.Proofs.YtmiecebdkadhbaaDoor
open Go.RowKit

def choiceAt (p : Int) (q : List Int) (i : Nat) : Bool :=
  match q[i]? with
  | none => true
  | some x => decide (0 ≤ x ∧ x < p) && (i == 0 || match q[i - 1]? with | none => true | some y => decide (y < x))
/-- an increasing list of some of p people -/
def isChoiceI (p : Int) (q : List Int) : Bool := (List.range q.length).all (choiceAt p q)
theorem isChoiceI_of {p : Int} {q : List Int} (h : ∀ i, i < q.length → choiceAt p q i = true) : isChoiceI p q = true := by
  simp only [isChoiceI, List.all_eq_true, List.mem_range]
  exact h
theorem isChoiceI_no {p : Int} {q : List Int} {i : Nat} (hi : i < q.length) (h : choiceAt p q i = false) : isChoiceI p q = false := by
  cases he : isChoiceI p q with
  | false => rfl
  | true =>
    simp only [isChoiceI, List.all_eq_true, List.mem_range] at he
    rw [he i hi] at h
    cases h
theorem isChoiceI_good {p : Int} {q : List Int} (h : isChoiceI p q = true) {i : Nat} (hi : i < q.length) : choiceAt p q i = true := by
  simp only [isChoiceI, List.all_eq_true, List.mem_range] at h
  exact h i hi
theorem choiceAt_man {p : Int} {q : List Int} {i : Nat} {x : Int} (h : choiceAt p q i = true) (hx : q[i]? = some x) : 0 ≤ x ∧ x < p := by
  simp only [choiceAt, hx, Bool.and_eq_true, decide_eq_true_eq] at h
  exact h.1
theorem choiceAt_less {p : Int} {q : List Int} {i : Nat} {x y : Int} (h : choiceAt p q (i + 1) = true) (hx : q[i]? = some x) (hy : q[i + 1]? = some y) : x < y := by
  simp only [choiceAt, hy, Nat.add_sub_cancel, hx, Bool.and_eq_true, Bool.or_eq_true, decide_eq_true_eq] at h
  rcases h.2 with h | h
  · simp at h
  · exact h
theorem choiceAt_zero {p : Int} {q : List Int} {k : Nat} {x : Int} (hk : k = 0) (hx : q[k]? = some x) (h : 0 ≤ x ∧ x < p) : choiceAt p q k = true := by
  subst hk
  simp [choiceAt, hx, h.1, h.2]
theorem choiceAt_later {p : Int} {q : List Int} {k : Nat} {x y : Int} (_hk : 0 < k) (hx : q[k - 1]? = some x) (hy : q[k]? = some y) (h : 0 ≤ y ∧ y < p) (hl : x < y) : choiceAt p q k = true := by
  simp [choiceAt, hx, hy, h.1, h.2, hl]
theorem choiceAt_bad {p : Int} {q : List Int} {k : Nat} {x : Int} (hx : q[k]? = some x) (h : ¬ (0 ≤ x ∧ x < p)) : choiceAt p q k = false := by
  simp only [choiceAt, hx, Bool.and_eq_false_iff, decide_eq_false_iff_not]
  exact .inl h
theorem choiceAt_stale {p : Int} {q : List Int} {k : Nat} {x y : Int} (hk : 0 < k) (hx : q[k - 1]? = some x) (hy : q[k]? = some y) (hl : ¬ x < y) : choiceAt p q k = false := by
  cases h : choiceAt p q k with
  | false => rfl
  | true =>
    obtain ⟨j, rfl⟩ : ∃ j, k = j + 1 := ⟨k - 1, by omega⟩
    exact absurd (choiceAt_less h hx hy) hl
theorem isChoiceI_sorted {p : Int} {q : List Int} (h : isChoiceI p q = true) : q.Pairwise (· < ·) := by
  rw [List.pairwise_iff_getElem]
  have step : ∀ (d i : Nat) (hi : i < q.length) (hj : i + d + 1 < q.length), q[i] < q[i + d + 1] := by
    intro d
    induction d with
    | zero => intro i hi hj; exact choiceAt_less (isChoiceI_good h hj) (List.getElem?_eq_getElem (by omega)) (List.getElem?_eq_getElem hj)
    | succ d ih =>
      intro i hi hj
      have h1 := ih i hi (by omega)
      have h2 := choiceAt_less (p := p) (q := q) (i := i + d + 1) (isChoiceI_good h (by omega)) (List.getElem?_eq_getElem (by omega)) (List.getElem?_eq_getElem (by omega))
      exact Int.lt_trans h1 h2
  intro i j hi hj hij
  have e : j = i + (j - i - 1) + 1 := by omega
  have := step (j - i - 1) i hi (by omega)
  simpa only [← e] using this
theorem isChoiceI_mem {p : Int} {q : List Int} (h : isChoiceI p q = true) : ∀ x ∈ q, 0 ≤ x ∧ x < p := by
  intro x hx
  obtain ⟨i, hi, rfl⟩ := List.getElem_of_mem hx
  exact choiceAt_man (isChoiceI_good h hi) (List.getElem?_eq_getElem hi)
theorem isChoiceI_long {p : Int} {q : List Int} (h : isChoiceI p q = true) : (q.length : Int) ≤ p ∨ q = [] := by
  have hs := isChoiceI_sorted h
  have low : ∀ (i : Nat) (x : Int), q[i]? = some x → (i : Int) ≤ x := by
    intro i
    induction i with
    | zero => intro x hx; exact (isChoiceI_mem h x (List.mem_of_getElem? hx)).1
    | succ i ih =>
      intro x hx
      have hl : i + 1 < q.length := (List.getElem?_eq_some_iff.1 hx).1
      obtain ⟨y, hy⟩ := getSome q i (by omega)
      have h1 := ih y hy
      have h2 := choiceAt_less (isChoiceI_good h hl) hy hx
      omega
  by_cases hl : q.length = 0
  · exact .inr (List.eq_nil_of_length_eq_zero hl)
  · obtain ⟨x, hx⟩ := getSome q (q.length - 1) (by omega)
    have h1 := low _ _ hx
    have h2 := (isChoiceI_mem h x (List.mem_of_getElem? hx)).2
    left
    omega

theorem countP_at : ∀ (q : List Int), q.Pairwise (· < ·) → ∀ (i : Nat) (x : Int), q[i]? = some x → q.countP (fun y => decide (y < x)) = i
  | [], _, i, x, h => by simp at h
  | a :: q, hs, 0, x, h => by
    simp only [List.getElem?_cons_zero, Option.some.injEq] at h
    subst h
    rw [List.pairwise_cons] at hs
    rw [List.countP_eq_zero]
    intro b hb
    rcases List.mem_cons.1 hb with rfl | hb
    · simp
    · have := hs.1 b hb
      simp only [decide_eq_true_eq]
      omega
  | a :: q, hs, i + 1, x, h => by
    rw [List.pairwise_cons] at hs
    have hx : q[i]? = some x := by simpa using h
    have := hs.1 x (List.mem_of_getElem? hx)
    rw [List.countP_cons_of_pos (by simpa using this), countP_at q hs.2 i x hx]

/-- how many of a list are less -/
def ltI (q : List Int) (x : Int) : Int := ((q.countP (· < x) : Nat) : Int)
theorem ltI_at {q : List Int} (hs : q.Pairwise (· < ·)) {i : Nat} {x : Int} (hx : q[i]? = some x) : ltI q x = i := by
  unfold ltI
  rw [countP_at q hs i x hx]
theorem ltI_mem {q : List Int} (hs : q.Pairwise (· < ·)) {x : Int} (hx : x ∈ q) : ∃ i : Nat, ltI q x = i ∧ q[i]? = some x := by
  obtain ⟨i, hi, rfl⟩ := List.getElem_of_mem hx
  exact ⟨i, ltI_at hs (List.getElem?_eq_getElem hi), List.getElem?_eq_getElem hi⟩
theorem ltI_le (q : List Int) (x : Int) : 0 ≤ ltI q x ∧ ltI q x ≤ q.length := by
  unfold ltI
  have := List.countP_le_length (p := fun y => decide (y < x)) (l := q)
  omega
/-- the pairs of the people chosen -/
def chooseP (l : PL) (q : List Int) : PL := l.filterMap fun r => if q.contains r.1 = true ∧ q.contains r.2 = true then some (ltI q r.1, ltI q r.2) else none
theorem chooseP_snoc (l : PL) (q : List Int) (x y : Int) : chooseP (l ++ [(x, y)]) q = chooseP l q ++ if q.contains x = true ∧ q.contains y = true then [(ltI q x, ltI q y)] else [] := by
  unfold chooseP
  rw [List.filterMap_append]
  congr 1
  by_cases h : q.contains x = true ∧ q.contains y = true
  · rw [if_pos h, List.filterMap_cons_some (by rw [if_pos h]), List.filterMap_nil]
  · rw [if_neg h, List.filterMap_cons_none (by rw [if_neg h]), List.filterMap_nil]
theorem chooseP_le (l : PL) (q : List Int) : (chooseP l q).length ≤ l.length := List.length_filterMap_le _ _
def gI (q : List Int) (i : Nat) : Nat := (q.getD i 0).toNat
def chosenT (l : PL) (q : List Int) (i j : Nat) : Bool := adj l (gI q i) (gI q j)
theorem gI_at {q : List Int} {i : Nat} {x : Int} (hx : q[i]? = some x) (h0 : 0 ≤ x) : ((gI q i : Nat) : Int) = x := by
  unfold gI
  rw [List.getD_eq_getElem?_getD, hx]
  simp only [Option.getD_some]
  omega
theorem mem_chooseP {l : PL} {q : List Int} {r : Int × Int} : r ∈ chooseP l q ↔ ∃ s ∈ l, s.1 ∈ q ∧ s.2 ∈ q ∧ r = (ltI q s.1, ltI q s.2) := by
  unfold chooseP
  rw [List.mem_filterMap]
  constructor
  · rintro ⟨s, hs, h⟩
    split at h
    · rename_i hc
      rw [List.contains_iff_mem, List.contains_iff_mem] at hc
      exact ⟨s, hs, hc.1, hc.2, by simpa using h.symm⟩
    · cases h
  · rintro ⟨s, hs, h1, h2, rfl⟩
    refine ⟨s, hs, ?_⟩
    rw [if_pos (by rw [List.contains_iff_mem, List.contains_iff_mem]; exact ⟨h1, h2⟩)]
theorem chooseP_list {p : Int} {l : PL} {q : List Int} (hp : isP p l = true) (hq : isChoiceI p q = true) : IsList q.length (chooseP l q) := by
  have hr := isP_range hp
  obtain ⟨_, _, hm, hs⟩ := isP_list hp
  have hqs := isChoiceI_sorted hq
  have hmono : ∀ x y, x ∈ q → y ∈ q → x < y → ltI q x < ltI q y := by
    intro x y hx hy hxy
    obtain ⟨i, ei, hi⟩ := ltI_mem hqs hx
    obtain ⟨j, ej, hj⟩ := ltI_mem hqs hy
    rw [ei, ej]
    have hil : i < q.length := (List.getElem?_eq_some_iff.1 hi).1
    have hjl : j < q.length := (List.getElem?_eq_some_iff.1 hj).1
    have e1 : q[i] = x := by rw [List.getElem?_eq_getElem hil] at hi; simpa using hi
    have e2 : q[j] = y := by rw [List.getElem?_eq_getElem hjl] at hj; simpa using hj
    rcases Nat.lt_trichotomy i j with h | h | h
    · omega
    · subst h; omega
    · have := (List.pairwise_iff_getElem.1 hqs) j i hjl hil h
      omega
  have hlen : (q.length : Int) ≤ 12 := by
    rcases isChoiceI_long hq with h | h
    · omega
    · simp [h]
  refine ⟨by omega, hlen, fun r hr => ?_, ?_⟩
  · obtain ⟨s, hsl, h1, h2, rfl⟩ := mem_chooseP.1 hr
    have h3 := hmono _ _ h1 h2 (hm s hsl).2.1
    obtain ⟨j, ej, hj⟩ := ltI_mem hqs h2
    have hjl : j < q.length := (List.getElem?_eq_some_iff.1 hj).1
    have := ltI_le q s.1
    simp only
    omega
  · unfold chooseP
    rw [List.pairwise_filterMap]
    refine List.Pairwise.imp (fun {a b} hlt u hu v hv => ?_) hs
    split at hu
    · split at hv
      · rename_i h1 h2
        rw [List.contains_iff_mem, List.contains_iff_mem] at h1 h2
        simp only [Option.some.injEq] at hu hv
        subst hu
        subst hv
        unfold plt at hlt ⊢
        rcases hlt with hlt | ⟨e, hlt⟩
        · exact .inl (hmono _ _ h1.1 h2.1 hlt)
        · exact .inr ⟨by simp only; rw [e], hmono _ _ h1.2 h2.2 hlt⟩
      · cases hv
    · cases hu
theorem tabP_choose {p : Int} {l : PL} {q : List Int} (hp : isP p l = true) (hq : isChoiceI p q = true) : tabP q.length (chosenT l q) = chooseP l q := by
  have hc := chooseP_list hp hq
  have hqs := isChoiceI_sorted hq
  obtain ⟨_, _, hm, hs⟩ := isP_list hp
  have hlen : q.length ≤ 12 := by have := hc.2.1; omega
  refine sorted_ext (filter_list hlen _).2.2.2 hc.2.2.2 fun r => ?_
  unfold tabP
  rw [List.mem_filter, mem_allP, mem_chooseP]
  constructor
  · rintro ⟨⟨h0, h1, h2⟩, ht⟩
    obtain ⟨x, hx⟩ := getSome q r.1.toNat (by omega)
    obtain ⟨y, hy⟩ := getSome q r.2.toNat (by omega)
    have hx0 := isChoiceI_mem hq x (List.mem_of_getElem? hx)
    have hy0 := isChoiceI_mem hq y (List.mem_of_getElem? hy)
    have ex := gI_at hx hx0.1
    have ey := gI_at hy hy0.1
    have hxy : x < y := by
      have hil : r.1.toNat < q.length := (List.getElem?_eq_some_iff.1 hx).1
      have hjl : r.2.toNat < q.length := (List.getElem?_eq_some_iff.1 hy).1
      have := (List.pairwise_iff_getElem.1 hqs) _ _ hil hjl (by omega)
      rw [List.getElem?_eq_getElem hil] at hx
      rw [List.getElem?_eq_getElem hjl] at hy
      simp only [Option.some.injEq] at hx hy
      rwa [hx, hy] at this
    have hmem : (x, y) ∈ l := by
      unfold chosenT adj at ht
      rw [ex, ey, Bool.or_eq_true, List.contains_iff_mem, List.contains_iff_mem] at ht
      rcases ht with ht | ht
      · exact ht
      · have := hm _ ht
        simp only at this
        omega
    refine ⟨(x, y), hmem, List.mem_of_getElem? hx, List.mem_of_getElem? hy, ?_⟩
    rw [ltI_at hqs hx, ltI_at hqs hy]
    exact Prod.ext (by simp; omega) (by simp; omega)
  · rintro ⟨s, hsl, h1, h2, rfl⟩
    have hin := hc.2.2.1 _ (mem_chooseP.2 ⟨s, hsl, h1, h2, rfl⟩)
    refine ⟨hin, ?_⟩
    obtain ⟨i, ei, hi⟩ := ltI_mem hqs h1
    obtain ⟨j, ej, hj⟩ := ltI_mem hqs h2
    have hs0 := hm s hsl
    simp only [ei, ej, Int.toNat_natCast]
    unfold chosenT adj
    rw [gI_at hi (by omega), gI_at hj (by omega), Bool.or_eq_true, List.contains_iff_mem]
    left
    exact hsl
end Go.Proofs.YtmiecebdkadhbaaDoor
