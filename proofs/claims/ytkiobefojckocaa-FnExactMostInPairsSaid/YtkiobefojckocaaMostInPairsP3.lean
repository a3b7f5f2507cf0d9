/-
  Texts put together for the claims of 'MostInPairs' (pack 3): Look, LookW, Tied, CountT, Table, Ties, Ints, Crowd, Ties2, MatI, MatS, MatC, Clone.
-/
import Derived.Test.YtkiobefojckocaaMostInPairsP1
import Derived.Test.YtkiobefojckocaaMostInPairsP2
import Derived.ScopeJumps
import Derived.WalkMore
import Derived.Laws.EntriesVeiled
import Derived.StillTailTactics
import Derived.Deep.DeepCutAuto
import Derived.Deep.RegionHeld3
import Derived.Lib.SliceRun
import Derived.Deep.LoopGhost
import Derived.Deep.Slices
import Derived.WideShapes
/-
  THE PROGRAM's RECURSIVE CLOSURE THAT GOES THROUGH THE LISTS OF PEOPLE WHO ARE TIED ('look' in 'allTied'), by its contract: induction on how many are still to come.
-/
namespace Go.Proofs.Ytkiobefojckocaa
open Go.RowKit

theorem told_kept {w w' : World} {A : Option Addr} {c : Nat} {l : List Int} (h : World.told w A c l) (hk : ∀ k, (Value.slice A l.length c).ownBlock = some k → w'.heap[k]? = w.heap[k]?) : World.told w' A c l := by
  refine ⟨h.1, ?_⟩
  rcases h.2 with h' | ⟨g, cap, cur, hv, hb, hg, rest⟩
  · exact .inl h'
  · exact .inr ⟨g, cap, cur, hv, hb, (hk g (by rw [hv]; rfl)).trans hg, rest⟩

/-- All lists have come. -/
structure LookYes (J : (Nat → Prop) → List (List Int) → World → Prop) (R S : Nat → Prop) (A : Option Addr) (c : Nat) (l : List Int) (xs : List (List Int)) (W W' : World) : Prop where
  ex : ∃ S', J S' xs W' ∧ (∀ j, S j → S' j) ∧ (∀ j, S' j → S j ∨ W.heap.size ≤ j)
  below : Below 0 W W'
  ro : ∀ j, R j → W'.heap[j]? = W.heap[j]?
  other : ∀ j, S j → j < W.heap.size → (Value.slice A l.length c).ownBlock ≠ some j → W'.heap[j]? = W.heap[j]?
  told : World.told W' A c l
/-- How a call of the closure ends. -/
def LookPost (J Jx : (Nat → Prop) → List (List Int) → World → Prop) (R S : Nat → Prop) (A : Option Addr) (c : Nat) (l : List Int) (pre L : List (List Int)) (W : World) : Bool → World → Prop
  | true, W' => LookYes J R S A c l (pre ++ L) W W'
  | false, W' => ∃ S' q x, q ++ [x] <+: L ∧ Jx S' (pre ++ (q ++ [x])) W'

section
variable {J Jx : (Nat → Prop) → List (List Int) → World → Prop} {R S S1 : Nat → Prop} {A A' : Option Addr} {c c' B : Nat} {l : List Int} {xs pre : List (List Int)} {W wr X w1 w2 : World}
theorem LookYes.start (hJ : J S xs W) (ht : World.told W A c l) : LookYes J R S A c l xs W W := ⟨⟨S, hJ, fun _ h => h, fun _ h => .inl h⟩, Below.refl _ _, fun _ _ => rfl, fun _ _ _ _ => rfl, ht⟩
/-- one person more: what holds where the closure is called again -/
theorem LookYes.step {x : Int} (hh : Held J) (h : LookYes J R S A c l xs W wr) (hA : ∀ k, (Value.slice A l.length c).ownBlock = some k → S k) (hS : ∀ j, S j → B ≤ j) (hR : ∀ j, R j → j < B) (hB : B ≤ W.heap.size)
    (hX : Below wr.heap.size wr X) (g : Grew X w1 A A' c c' l x) :
    (∃ S2, J S2 xs w1 ∧ (∀ j, S j → S2 j) ∧ (∀ j, S2 j → S j ∨ W.heap.size ≤ j) ∧ (∀ k, (Value.slice A' (l ++ [x]).length c').ownBlock = some k → S2 k)) ∧ (∀ j, R j → w1.heap[j]? = wr.heap[j]?) ∧ B ≤ w1.heap.size ∧ W.heap.size ≤ w1.heap.size := by
  obtain ⟨S1, hJ1, hs1, hs2⟩ := h.ex
  have hsz := h.below.size
  have hsX := hX.size
  have hs3 := g.grow.size
  have hap : Apart S1 wr w1 := ⟨(hX.mono (Nat.zero_le _)).trans ((Below.refl 0 X).grown g.grow (Nat.zero_le _) fun k _ => Nat.zero_le k), fun j hj hn => by
    rw [g.grow.block j (by omega) (fun e => hn (hs1 j (hA j e.symm))), hX.block j hj]⟩
  refine ⟨⟨fun j => S1 j ∨ (wr.heap.size ≤ j ∧ j < w1.heap.size), hh _ _ _ _ _ hJ1 hap (fun j hj => hj), fun j hj => .inl (hs1 j hj), fun j hj => ?_, fun k hk => ?_⟩, fun j hj => ?_, by omega, by omega⟩
  · rcases hj with hj | hj
    · exact hs2 j hj
    · exact .inr (by omega)
  · rcases g.same with ⟨rfl, rfl, _⟩ | ⟨_, b, rfl, hb⟩
    · exact .inl (hs1 k (hA k (by
        cases hA' : A' with
        | none => rw [hA'] at hk; simp [Value.ownBlock] at hk
        | some a => rw [hA'] at hk; exact hk)))
    · have hlt := (own_lt g.new).2
      have : b = k := by simpa [Value.ownBlock] using hk
      subst this
      exact .inr ⟨by omega, hlt⟩
  · have h1 := hR j hj
    rw [g.grow.block j (by omega) (fun e => by have := hS j (hA j e.symm); omega), hX.block j (by omega)]
theorem LookYes.next {x : Int} {S2 : Nat → Prop} {L : List (List Int)} (h : LookYes J R S A c l xs W wr) (hA : ∀ k, (Value.slice A l.length c).ownBlock = some k → S k) (hS : ∀ j, S j → B ≤ j) (hR : ∀ j, R j → j < B) (hB : B ≤ W.heap.size)
    (hX : Below wr.heap.size wr X) (g : Grew X w1 A A' c c' l x) (k1 : ∀ j, S j → S2 j) (k2 : ∀ j, S2 j → S j ∨ W.heap.size ≤ j) (h2 : LookYes J R S2 A' c' (l ++ [x]) L w1 w2) : LookYes J R S A c l L W w2 := by
  have hsz := h.below.size
  have hsX := hX.size
  have hs3 := g.grow.size
  have hoA : ∀ j, S j → (Value.slice A l.length c).ownBlock ≠ some j → w1.heap[j]? = wr.heap[j]? ∨ wr.heap.size ≤ j := fun j _ hne => by
    by_cases hlt : j < wr.heap.size
    · exact .inl (by rw [g.grow.block j (by omega) (fun e => hne e.symm), hX.block j hlt])
    · exact .inr (by omega)
  refine ⟨?_, (h.below.trans ((hX.mono (Nat.zero_le _)).trans ((Below.refl 0 X).grown g.grow (Nat.zero_le _) fun k _ => Nat.zero_le k))).trans h2.below, fun j hj => ?_, fun j hj hlt hne => ?_, ?_⟩
  · obtain ⟨S', hJ', e1, e2⟩ := h2.ex
    refine ⟨S', hJ', fun j hj => e1 j (k1 j hj), fun j hj => ?_⟩
    rcases e2 j hj with h' | h'
    · exact k2 j h'
    · exact .inr (by omega)
  · have h1 := hR j hj
    rw [h2.ro j hj, g.grow.block j (by omega) (fun e => by have := hS j (hA j e.symm); omega), hX.block j (by omega), h.ro j hj]
  · rw [h2.other j (k1 j hj) (by omega) ?_]
    · rcases hoA j hj hne with h' | h'
      · rw [h', h.other j hj hlt hne]
      · omega
    · rcases g.same with ⟨rfl, rfl, _⟩ | ⟨_, b, rfl, hb⟩
      · intro e
        refine hne ?_
        cases hA' : A' with
        | none => rw [hA'] at e; simp [Value.ownBlock] at e
        | some a => rw [hA'] at e; exact e
      · intro e
        have : b = j := by simpa [Value.ownBlock] using e
        omega
  · rcases g.same with ⟨rfl, rfl, hne⟩ | ⟨_, b, rfl, hb⟩
    · exact told_front h2.told hne
    · refine told_kept g.old fun k hk => ?_
      have hklt := (own_lies g.old k hk).2
      refine h2.other k (k1 k (hA k hk)) hklt fun e => ?_
      have hbk : b = k := by simpa [Value.ownBlock] using e
      have hkX := (own_lies h.told k hk).2
      omega
end
theorem IsSet.smaller {J a : Nat} {cs : List Nat} (h : IsSet J (a :: cs)) : J &&& (65535 - 2 ^ a) < J := by
  have h1 := Nat.and_le_left (n := J) (m := 65535 - 2 ^ a)
  rcases Nat.lt_or_eq_of_le h1 with h2 | h2
  · exact h2
  · have h3 := (h.mem a).2 List.mem_cons_self
    have h4 := h.tail.mem a
    rw [h2, h3] at h4
    have h5 := h4.1 rfl
    have := (List.pairwise_cons.1 h.up).1 a h5
    omega
end Go.Proofs.Ytkiobefojckocaa
/-
  THE PROGRAM's RECURSIVE CLOSURE THAT GOES THROUGH THE LISTS OF PEOPLE WHO ARE TIED, walked.
-/
namespace Go.Proofs.Ytkiobefojckocaa
open Go.RowKit Go.Shelf
attribute [local go_sem] Oper.semAt_some

theorem clear_bit {j a : Nat} (hj : j < 65536) (ha : a < 16) : bits BinOp.andNot IntKind.u16 (j : Int) (IntKind.u16.wrap (2 ^ min a 16)) = ((j &&& (65535 - 2 ^ a) : Nat) : Int) := by
  have h2 : 2 ^ a < 2 ^ 16 := Nat.pow_lt_pow_right (by omega) ha
  rw [show (2 : Nat) ^ 16 = 65536 from rfl] at h2
  have e : IntKind.u16.wrap (2 ^ min a 16) = ((2 ^ a : Nat) : Int) := by
    obtain ⟨m, hm⟩ : ∃ m, 2 ^ a = m := ⟨_, rfl⟩
    rw [Nat.min_eq_left (by omega), IntKind.wrap_u16, show (2 : Int) ^ a = ((2 ^ a : Nat) : Int) from by simp, hm]
    rw [hm] at h2
    omega
  rw [e, u16_andNot_nat j _ hj h2]

end Go.Proofs.Ytkiobefojckocaa
/-
  THE PROGRAM's ITERATOR OVER LISTS OF TIED PEOPLE ('allTied'): its contract, in the form that the law of the statement takes.
-/
namespace Go.Proofs.Ytkiobefojckocaa
open Go.RowKit

/-- ties as the program has them: twelve sets -/
def tcells (T : Nat → Nat) : Array Value := #[.int .u16 (T 0), .int .u16 (T 1), .int .u16 (T 2), .int .u16 (T 3), .int .u16 (T 4), .int .u16 (T 5), .int .u16 (T 6), .int .u16 (T 7), .int .u16 (T 8), .int .u16 (T 9), .int .u16 (T 10), .int .u16 (T 11)]
theorem tcells_at (T : Nat → Nat) : ∀ a, a < 12 → (tcells T)[a]? = some (.int .u16 (T a)) := by
  intro a ha
  match a, ha with
  | 0, _ => rfl
  | 1, _ => rfl
  | 2, _ => rfl
  | 3, _ => rfl
  | 4, _ => rfl
  | 5, _ => rfl
  | 6, _ => rfl
  | 7, _ => rfl
  | 8, _ => rfl
  | 9, _ => rfl
  | 10, _ => rfl
  | 11, _ => rfl
/-- sets of people that tell who is tied to whom -/
structure TiesOf (T : Nat → Nat) (t : Nat → Nat → Bool) : Prop where
  bit : ∀ a b, a < 12 → b < 16 → (T a).testBit b = t a b
  lt : ∀ a, a < 12 → T a < 65536

end Go.Proofs.Ytkiobefojckocaa
/-
  HOW MANY LISTS OF TIED PEOPLE THERE ARE ('countTied'), and whether there is one ('hasTied'), by their contracts.
-/
namespace Go.Proofs.Ytkiobefojckocaa
open Go.RowKit Go.Shelf
attribute [local go_sem] Oper.semAt_some

theorem listsC_length_le (t : Nat → Nat → Bool) : ∀ (k : Nat) (told : List Int) (cs : List Nat), (listsC t k told cs).length ≤ 2 ^ cs.length := by
  intro k told cs
  induction h : k + cs.length using Nat.strongRecOn generalizing k told cs with
  | _ n ih =>
    match k, cs with
    | 0, cs => rw [listsC_zero]; exact Nat.one_le_two_pow
    | k + 1, [] => rw [listsC_nil]; simp
    | k + 1, a :: cs =>
      rw [listsC_cons, List.length_append]
      simp only [List.length_cons] at h
      have h0 : (cs.filter (t a)).length ≤ cs.length := List.length_filter_le _ _
      have h1 := ih (k + (cs.filter (t a)).length) (by omega) k (told ++ [(a : Int)]) (cs.filter (t a)) rfl
      have h2 := ih (k + 1 + cs.length) (by omega) (k + 1) told cs rfl
      have h3 : 2 ^ (cs.filter (t a)).length ≤ 2 ^ cs.length := Nat.pow_le_pow_right (by omega) h0
      rw [List.length_cons, Nat.pow_succ]
      omega
theorem set_len {j : Nat} {cs : List Nat} (hs : IsSet j cs) (hcs : ∀ b ∈ cs, b < 12) : cs.length ≤ 12 := by
  have h := List.Nodup.length_le_of_subset (l₁ := cs) (l₂ := List.range 12) (hs.up.imp fun h => Nat.ne_of_lt h) (fun b hb => List.mem_range.2 (hcs b hb))
  simpa using h
theorem lists_few {t : Nat → Nat → Bool} {k : Nat} {told : List Int} {j : Nat} {cs : List Nat} (hs : IsSet j cs) (hcs : ∀ b ∈ cs, b < 12) : (listsC t k told cs).length ≤ 4096 := by
  have h1 := listsC_length_le t k told cs
  have h2 : 2 ^ cs.length ≤ 2 ^ 12 := Nat.pow_le_pow_right (by omega) (set_len hs hcs)
  omega
theorem wrap_next (n : Nat) : wrap64 (wrap64 (n : Int) + 1) = wrap64 ((n + 1 : Nat) : Int) := by unfold wrap64; omega

theorem below_putObj {B l : Nat} {A W : World} (h : Below B A W) (hB : B ≤ W.heap.size) (hl : B ≤ l) (o : Obj) : Below B A (W.putObj l o) := h.grown (grownBy_putObj' W l o) hB (fun k e => by cases e; exact hl)

theorem cell_putObj {W : World} {l b o : Nat} (ob : Obj) (hne : b ≠ l) : (W.putObj l ob).cell? ⟨b, o, none⟩ = W.cell? ⟨b, o, none⟩ := World.cell?_of_block (w := W) (w' := W.putObj l ob) (a := ⟨b, o, none⟩) (World.putObj_heap_other hne)

end Go.Proofs.Ytkiobefojckocaa
/-
  THE MODEL's TABLE OF A PARTY, AND THE PARTY OF A TABLE, by their contracts.
-/
namespace Go.Proofs.Ytkiobefojckocaa
open Go.RowKit

theorem Try.infoRow : (Try.prog.info? 87).map (fun i => (i.zero, i.size, i.bytes)) = some (some (.slice none 0 0), 1, 24) := by kernel_rfl

set_option maxHeartbeats 2000000 in
set_option maxRecDepth 100000 in
theorem paTable_any (p : Int) (l : PL) (A : Option Addr) (c : Nat) (w : World) (hp : isP p l = true) (hA : CRead w w.heap.size A (pcells l)) :
    Calls Try.prog 58 #[.agg #[.int .i64 p, .slice A l.length c]] w (GotTab w p.toNat (adj l)) := by
  obtain ⟨i0, hi, hz0, hz1, hz2⟩ := info_parts Try.infoRow
  obtain ⟨i1, hj, hy0, hy1, hy2⟩ := info_parts Try.infoBool
  obtain ⟨n, rfl⟩ : ∃ n : Nat, p = n := ⟨p.toNat, by have := isP_range hp; omega⟩
  have hn := isP_range hp
  have hlen : l.length ≤ 66 := by have h1 := isP_length hp; have h2 := people_sq hn.1 hn.2; omega
  simp only [Int.toNat_natCast]
  have Hp := Lib.hid hp
  clear hp
  generalize hB : w.heap.size + 1 = B
  have hBw : w.heap.size < B := by omega
  have HB := Lib.hid hB
  have hB0 : w.heap.size + 1 ≤ B := by omega
  have hB1 : B ≤ w.heap.size + 1 := by omega
  clear hB
  go_enter Try.func58, Try.ntmps58
  go_wp2
  go_loopw [3, 4] (fun v i wr => ∃ k : Nat, ∃ G, k ≤ n ∧ i = .int .i64 k ∧ TabG wr B v k n G (fun _ _ => false) ∧ Below B (w.alloc (Obj.cells #[.int .i64 (n : Int), .slice A l.length c] 24)) wr) (fun _ i _ => n - (intOf i).toNat)
  case atStart => exact ⟨0, fun _ => 0, Nat.zero_le _, rfl, TabG.nil _ _ _ _ _, Below.refl _ _⟩
  case round =>
    obtain ⟨k, G, hk, rfl, htab, hb⟩ := hrel
    have hs := hb.size
    simp only [World.size_alloc] at hs
    have u0 : wr.cell? ⟨w.heap.size, 0, none⟩ = some (.int .i64 n) := carry hb (by simp) hBw
    have u1 : wr.cell? ⟨w.heap.size, 1, none⟩ = some (.slice A l.length c) := carry hb (by simp) hBw
    by_cases hlt : k < n
    · have hki : (k : Int) < n := by omega
      go_wp2_with (first
        | (at_make; refine wpList_make_row _ rfl _ _ 87 rfl 4 i1 (.bool false) Try.underlying87 hj hy0 hy1 rfl _ _ n rfl rfl (by rw [hy2]; omega) (by omega) ?_)
        | (at_builtin; refine wpList_append_own _ rfl _ _ 85 rfl B 87 i0 (.slice none 0 0) 1 24 Try.underlying85 hi hz0 hz1 hz2 rfl (by decide) _ _ _ rfl ((htab.own.alloc _).alloc _) ⟨wr.heap.size + 1, 0, none⟩ 1 1 [.slice (some ⟨wr.heap.size, 0, none⟩) n n] rfl rfl (one_cell (by simp)) (one_one rfl) (by unfold maxLen; omega) (by omega) (by simp; omega) ?_; intro v' w1 hown' hgrow _; have htab' := htab.push (by omega) hgrow hown'))
      have hb1 : Below B (w.alloc (Obj.cells #[.int .i64 (n : Int), .slice A l.length c] 24)) w1 := ((hb.alloc (by omega) _).alloc (by simp; omega) _).grown hgrow (by simp; omega) (fun b hb => (htab.own.lt b hb).1)
      clear hown' hgrow
      go_roundw
      case rel => exact ⟨k + 1, _, by omega, by go_num, htab', hb1⟩
      case measure => simp [intOf]; omega
    · have hkl : n = k := by omega
      subst hkl
      have hge : ¬ ((n : Int) < n) := by omega
      obtain ⟨A', c', rfl, _⟩ := own_shape htab.own
      go_wp2
      go_loopw [22] (fun i wx => ∃ m : Nat, m ≤ l.length ∧ i = .int .i64 m ∧ TabG wx B (.slice A' n c') n n G (adj (l.take m)) ∧ Below B (w.alloc (Obj.cells #[.int .i64 (n : Int), .slice A l.length c] 24)) wx) (fun i _ => l.length - (intOf i).toNat)
      case atStart => exact ⟨0, Nat.zero_le _, rfl, by simpa [adj_nil] using htab, hb⟩
      case round =>
        clear htab hb u0 u1 hs
        obtain ⟨m, hm, rfl, htab, hb⟩ := hrel
        have hs := hb.size
        simp only [World.size_alloc] at hs
        have hbw : Below w.heap.size w wr := Below.trans (b := _) (by go_grown) (hb.mono (by omega))
        by_cases hmt : m < l.length
        · obtain ⟨⟨x, y⟩, hx⟩ := getSome l m hmt
          obtain ⟨h0, h1, h2⟩ := goodAt_pair (isP_good Hp.out hmt) hx
          obtain ⟨a, rfl⟩ : ∃ a : Nat, x = a := ⟨x.toNat, by omega⟩
          obtain ⟨b, rfl⟩ : ∃ b : Nat, y = b := ⟨y.toNat, by omega⟩
          obtain ⟨bb, off, rfl, hbb, c0, c1⟩ := (hA.below hbw (Nat.le_refl _)).pair hx
          obtain ⟨g, rfl⟩ := own_form htab.own (by omega)
          have hmi : (m : Int) < (l.length : Int) := by omega
          have han : a < n := by omega
          have hbn : b < n := by omega
          have ha : (a : Int) < n := by omega
          have hb' : (b : Int) < n := h2
          have hGa := htab.blk han
          have hGb := htab.blk hbn
          have Hx := Lib.hid hx
          clear hx
          go_wp2
          generalize hW : wr.alloc (Obj.cells #[.int .i64 (a : Int), .int .i64 (b : Int)] 76) = W
          have tW : TabG W B (.slice (some ⟨g, 0, none⟩) n c') n n G (adj (l.take m)) := by rw [← hW]; exact htab.alloc _
          have bW : Below B (w.alloc (Obj.cells #[.int .i64 (n : Int), .slice (some ⟨bb, off, none⟩) l.length c] 24)) W := by rw [← hW]; exact hb.alloc (by omega) _
          have e0 : W.cell? ⟨wr.heap.size, 0, none⟩ = some (.int .i64 a) := by rw [← hW]; simp
          have e1 : W.cell? ⟨wr.heap.size, 1, none⟩ = some (.int .i64 b) := by rw [← hW]; simp
          clear hW
          have t1 := tW.set (b := b) han true
          have t2 := t1.set (b := a) hbn true
          rw [← adj_snoc] at t2
          have d0 := tW.outer han
          have d1 := tW.cell han hbn
          have d2 := tW.frozen han b
          have d3 := t1.outer hbn
          have d4 := t1.cell hbn han
          have d5 := t1.frozen hbn a
          have e2 : (W.setCell ⟨G a, b, none⟩ (.bool true)).cell? ⟨wr.heap.size, 0, none⟩ = some (.int .i64 a) := by rw [World.cell?_setCell_other _ _ _ _ (by simp)]; exact e0
          have e3 : (W.setCell ⟨G a, b, none⟩ (.bool true)).cell? ⟨wr.heap.size, 1, none⟩ = some (.int .i64 b) := by rw [World.cell?_setCell_other _ _ _ _ (by simp)]; exact e1
          have T2 := Lib.hid t2
          clear t1 t2 tW htab
          refine wp_region_still_tail 8 (by kernel_rfl) (by kernel_rfl) ?_
          simp only [List.take_succ_cons, List.take_zero, List.drop_succ_cons, List.drop_zero]
          repeat still_step
          refine wpStill_nil ?_
          change wpList _ _ _ _ _ (World.drew _)
          go_wp2
          generalize hW2 : (W.setCell ⟨G a, b, none⟩ (.bool true)).drew = W2
          have f0 : W2.cell? ⟨wr.heap.size, 0, none⟩ = some (.int .i64 a) := by rw [← hW2]; exact e2
          have f1 : W2.cell? ⟨wr.heap.size, 1, none⟩ = some (.int .i64 b) := by rw [← hW2]; exact e3
          have f3 : W2.cell? ⟨g, b, none⟩ = some (.slice (some ⟨G b, 0, none⟩) n n) := by rw [← hW2]; exact d3
          have f4 : W2.cell? ⟨G b, a, none⟩ = some (.bool (upd (adj (l.take m)) a b true b a)) := by rw [← hW2]; exact d4
          have f5 : W2.frozen? ⟨G b, a, none⟩ = false := by rw [← hW2]; exact d5
          have b2 : Below B (w.alloc (Obj.cells #[.int .i64 (n : Int), .slice (some ⟨bb, off, none⟩) l.length c] 24)) (W2.setCell ⟨G b, a, none⟩ (.bool true)).drew := by
            rw [← hW2]
            exact (((bW.setCell (p := ⟨G a, b, none⟩) hGa.1 _).drew).setCell (p := ⟨G b, a, none⟩) hGb.1 _).drew
          have t3 : TabG (W2.setCell ⟨G b, a, none⟩ (.bool true)).drew B (.slice (some ⟨g, 0, none⟩) n c') n n G (adj (l.take m ++ [((a : Int), (b : Int))])) := by
            rw [← hW2]
            exact T2.out.of_blocks ⟨rfl, rfl, rfl, Nat.le_refl _, fun _ _ _ => rfl⟩
          have B2 := Lib.hid b2
          have T3 := Lib.hid t3
          clear hW2 d0 d1 d2 d3 d4 d5 e0 e1 e2 e3 T2 bW b2 t3
          refine wp_region_still_tail 8 (by kernel_rfl) (by kernel_rfl) ?_
          simp only [List.take_succ_cons, List.take_zero, List.drop_succ_cons, List.drop_zero]
          repeat still_step
          refine wpStill_nil ?_
          change wpList _ _ _ _ _ (World.drew _)
          go_wp2
          go_roundw
          case rel =>
            refine ⟨m + 1, by omega, by go_num, ?_, B2.out⟩
            rw [List.take_add_one, Hx.out, Option.toList_some]
            exact T3.out
          case measure => simp [intOf]; omega
        · have hml : m = l.length := by omega
          subst hml
          have hgm : ¬ ((l.length : Int) < l.length) := by omega
          go_wp2
          go_ret
          rw [List.take_length] at htab
          exact ⟨A', c', G, rfl, htab.lower (by omega), hbw⟩
end Go.Proofs.Ytkiobefojckocaa
/-
  TIES AS THE PROGRAM HAS THEM, twelve sets of people: made of a party's pairs ('friendsIn'); those missing ('strangersIn'); everybody. Written by wip/tools/gen_ties.py.
-/
namespace Go.Proofs.Ytkiobefojckocaa
open Go.RowKit

def updN (T : Nat → Nat) (a v : Nat) : Nat → Nat := fun i => if i = a then v else T i
/-- one pair more is tied -/
def withT (T : Nat → Nat) (a b : Nat) : Nat → Nat := updN (updN T a (T a ||| 2 ^ b)) b (updN T a (T a ||| 2 ^ b) b ||| 2 ^ a)
theorem tcells_row (T : Nat → Nat) : ∀ m, m < 12 → (tcells T)[m]? = some (Value.int .u16 (T m)) := tcells_at T
theorem rowIs_u16 (w : World) (T : Nat → Nat) (ty : TypeId) : (w.alloc (.cells (tcells T) ty)).rowIs w.heap.size ty 12 (fun j => .int .u16 (T j)) :=
  ⟨tcells T, heap_alloc_new w _, rfl, fun i hi => tcells_at T i hi⟩
theorem shl_bit {a : Nat} (ha : a < 16) : IntKind.u16.wrap (2 ^ min a 16) = ((2 ^ a : Nat) : Int) := by
  have h2 : 2 ^ a < 2 ^ 16 := Nat.pow_lt_pow_right (by omega) ha
  rw [show (2 : Nat) ^ 16 = 65536 from rfl] at h2
  obtain ⟨m, hm⟩ : ∃ m, 2 ^ a = m := ⟨_, rfl⟩
  rw [Nat.min_eq_left (by omega), IntKind.wrap_u16, show (2 : Int) ^ a = ((2 ^ a : Nat) : Int) from by simp, hm]
  rw [hm] at h2
  omega
theorem two_lt {a : Nat} (ha : a < 16) : 2 ^ a < 65536 := by
  have h2 : 2 ^ a < 2 ^ 16 := Nat.pow_lt_pow_right (by omega) ha
  rwa [show (2 : Nat) ^ 16 = 65536 from rfl] at h2
theorem or_bit {x a : Nat} (hx : x < 65536) (ha : a < 16) : bits BinOp.or IntKind.u16 (x : Int) (IntKind.u16.wrap (2 ^ min a 16)) = ((x ||| 2 ^ a : Nat) : Int) := by
  rw [shl_bit ha, u16_or_nat x _ hx (two_lt ha)]
theorem or_bit2 {x a : Nat} (hx : x < 65536) (ha : a < 16) : bits BinOp.or IntKind.u16 (x : Int) (IntKind.u16.wrap (2 ^ a)) = ((x ||| 2 ^ a : Nat) : Int) := by
  have := or_bit hx ha
  rwa [Nat.min_eq_left (by omega)] at this
theorem or_lt {x a : Nat} (hx : x < 65536) (ha : a < 16) : x ||| 2 ^ a < 65536 := Nat.or_lt_two_pow (n := 16) hx (two_lt ha)

end Go.Proofs.Ytkiobefojckocaa
/-
  THE LAWS' COPY OF A LIST OF NUMBERS, by its contract.
-/
namespace Go.Proofs.Ytkiobefojckocaa
open Go.RowKit

end Go.Proofs.Ytkiobefojckocaa
/-
  'impl.crowdOf', by its contract: the crowd of some people as a number.
-/
namespace Go.Proofs.Ytkiobefojckocaa
open Go.RowKit

def crowdN (q : List Int) : Nat := q.foldl (fun J x => J ||| 2 ^ x.toNat) 0
theorem crowdN_snoc (q : List Int) (x : Int) : crowdN (q ++ [x]) = crowdN q ||| 2 ^ x.toNat := by simp [crowdN, List.foldl_append]
theorem crowdN_small {q : List Int} (h : ∀ x ∈ q, 0 ≤ x ∧ x < 16) : crowdN q < 65536 := by
  have key : ∀ (q : List Int) (J : Nat), J < 65536 → (∀ x ∈ q, 0 ≤ x ∧ x < 16) → q.foldl (fun J x => J ||| 2 ^ x.toNat) J < 65536 := by
    intro q
    induction q with
    | nil => intro J hJ _; exact hJ
    | cons x q ih => intro J hJ h; exact ih _ (or_lt hJ (by have := h x List.mem_cons_self; omega)) fun y hy => h y (List.mem_cons_of_mem _ hy)
  exact key q 0 (by omega) h
set_option maxHeartbeats 2000000 in
set_option maxRecDepth 100000 in
theorem crowdOf_any (q : List Int) (B : Option Addr) (d : Nat) (w : World) (hm : ∀ x ∈ q, 0 ≤ x ∧ x < 12) (hq : q.length ≤ 1048576) (hB : CRead w w.heap.size B (icells q)) :
    Calls Try.prog 98 #[.slice B q.length d] w fun e w' => e = .returned (.int .u16 (crowdN q : Nat)) ∧ w = w' := by
  have hbits : ∀ k, crowdN (q.take k) < 65536 := fun k => crowdN_small fun x hx => by have := hm x (List.mem_of_mem_take hx); omega
  have Hm := Lib.hid hm
  have Hbits := Lib.hid hbits
  clear hm hbits
  go_enter Try.func98, Try.ntmps98
  go_wp2
  go_loop [3, 8] (fun v i => ∃ k : Nat, k ≤ q.length ∧ i = .int .i64 k ∧ v = .int .u16 (crowdN (q.take k) : Nat)) (fun _ i => q.length - (intOf i).toNat)
  case atStart => exact ⟨0, Nat.zero_le _, by go_num, by simp [crowdN]⟩
  case round =>
    obtain ⟨k, hk, rfl, rfl⟩ := hrel
    have hlt16 := Hbits.out k
    by_cases hlt : k < q.length
    · obtain ⟨x, hx⟩ := getSome q k hlt
      have hx0 := Hm.out x (List.mem_of_getElem? hx)
      obtain ⟨a, rfl⟩ : ∃ a : Nat, x = a := ⟨x.toNat, by omega⟩
      obtain ⟨b, off, rfl, hbb, c0⟩ := hB.int hx
      have hki : (k : Int) < (q.length : Int) := by omega
      have hnx : crowdN (q.take (k + 1)) = crowdN (q.take k) ||| 2 ^ a := by
        rw [List.take_add_one, hx, Option.toList_some, crowdN_snoc, Int.toNat_natCast]
      have hor := or_bit hlt16 (show a < 16 by omega)
      have hor2 := or_bit2 hlt16 (show a < 16 by omega)
      obtain ⟨C, hC⟩ : ∃ C, crowdN (q.take k) = C := ⟨_, rfl⟩
      rw [hC] at hor hor2 hlt16 hnx ⊢
      have Hnx := Lib.hid hnx
      have Hor := Lib.hid hor
      have Hor2 := Lib.hid hor2
      have ha0 : ¬ ((a : Int) < 0) := by omega
      clear hx hnx hC hor hor2
      go_wp2_with (first | rw [Hor.out] | rw [Hor2.out])
      go_round
      case rel => exact ⟨k + 1, by omega, by go_num, by rw [Hnx.out]⟩
      case measure => simp [intOf]; omega
    · have hkl : k = q.length := by omega
      have hge : ¬ ((k : Int) < (q.length : Int)) := by omega
      have He := Lib.hid (show crowdN (q.take k) = crowdN q by rw [hkl, List.take_length])
      clear hkl
      go_wp2
      go_ret
      exact ⟨by rw [He.out]; rfl, rfl⟩
end Go.Proofs.Ytkiobefojckocaa
/-
  TIES MADE OF A PARTY's PAIRS ('friendsIn'); everybody. Written by wip/tools/gen_ties2.py.
-/
namespace Go.Proofs.Ytkiobefojckocaa
open Go.RowKit

theorem TiesOf.none : TiesOf (fun _ => 0) (adj []) := ⟨fun a b _ _ => by rw [Nat.zero_testBit]; rfl, fun a _ => by omega⟩
theorem TiesOf.congr {T : Nat → Nat} {t t' : Nat → Nat → Bool} (h : TiesOf T t) (e : ∀ a b, a < 12 → b < 16 → t a b = t' a b) : TiesOf T t' := ⟨fun a b ha hb => (h.bit a b ha hb).trans (e a b ha hb), h.lt⟩
theorem TiesOf.with {T : Nat → Nat} {t : Nat → Nat → Bool} (h : TiesOf T t) {a b : Nat} (ha : a < 12) (hb : b < 12) (hab : a ≠ b) : TiesOf (withT T a b) (upd (upd t a b true) b a true) := by
  have e1 : ∀ i, withT T a b i = if i = b then T b ||| 2 ^ a else if i = a then T a ||| 2 ^ b else T i := fun i => by
    unfold withT updN
    by_cases h1 : i = b
    · rw [if_pos h1, if_pos h1, if_neg (by omega)]
    · rw [if_neg h1, if_neg h1]
  refine ⟨fun i j hi hj => ?_, fun i hi => ?_⟩
  · rw [e1]
    unfold upd
    by_cases h1 : i = b
    · rw [if_pos h1, Nat.testBit_or, Nat.testBit_two_pow, h.bit b j hb hj]
      by_cases h2 : j = a
      · simp [h1, h2]
      · have h3 : ¬ (a = j) := fun e => h2 e.symm
        have h4 : ¬ (b = a) := fun e => hab e.symm
        simp [h1, h2, h3, h4]
    · rw [if_neg h1]
      by_cases h2 : i = a
      · rw [if_pos h2, Nat.testBit_or, Nat.testBit_two_pow, h.bit a j ha hj]
        by_cases h3 : j = b
        · simp [h2, h3, hab]
        · have h4 : ¬ (b = j) := fun e => h3 e.symm
          simp [h2, h3, h4, hab]
      · rw [if_neg h2, h.bit i j hi hj]
        simp [h1, h2]
  · rw [e1]
    split
    · exact or_lt (h.lt b hb) (by omega)
    · split
      · exact or_lt (h.lt a ha) (by omega)
      · exact h.lt i hi
theorem people_bits : ∀ n : Fin 13, ((2 : Int) ^ n.val % 65536 - 1) % 65536 = ((2 ^ n.val - 1 : Nat) : Int) := by decide

set_option maxHeartbeats 1000000 in
theorem everybody_any (n : Nat) (hn : n ≤ 12) (w : World) : Calls Try.prog 97 #[.int .i64 n] w fun e w' => e = .returned (.int .u16 ((2 ^ n - 1 : Nat) : Int)) ∧ w = w' := by
  have h0 : (0 : Int) ≤ n := by omega
  have e := people_bits ⟨n, by omega⟩
  have hn12 : (n : Int) ≤ 12 := by omega
  go_enter Try.func97, Try.ntmps97
  go_wp2
  go_ret
  refine ⟨?_, rfl⟩
  rw [← e, IntKind.wrap_u16, IntKind.wrap_u16]
  rfl

/-- the ties of a list of pairs -/
def friendsT (l : PL) : Nat → Nat := l.foldl (fun T q => withT T q.1.toNat q.2.toNat) fun _ => 0
theorem friendsT_snoc (l : PL) (a b : Nat) : friendsT (l ++ [((a : Int), (b : Int))]) = withT (friendsT l) a b := by simp [friendsT]

end Go.Proofs.Ytkiobefojckocaa
/-
  THE PROGRAM's RECURSIVE CLOSURE THAT GOES THROUGH THE SETS OF PAIRS ('look' in 'allInPairs'), walked.
-/
namespace Go.Proofs.Ytkiobefojckocaa
open Go.RowKit Go.Shelf
attribute [local go_sem] Oper.semAt_some

/-- the closure's value -/
abbrev matV (bs yb bp bl : Nat) : Value := .func (.func 95) #[] #[.pointer (some ⟨bs, 0, none⟩), .pointer (some ⟨yb, 0, none⟩), .pointer (some ⟨bp, 0, none⟩), .pointer (some ⟨bl, 0, none⟩)]
/-- what the closure's boxes hold -/
structure MatAt (w : World) (l : Nat) (size : Int) (L : PL) (A : Option Addr) (c : Nat) (bs yb bp bl : Nat) : Prop where
  s : w.cell? ⟨bs, 0, none⟩ = some (.int .i64 size)
  y : w.cell? ⟨yb, 0, none⟩ = some (.func (.yield l) #[] #[])
  k : w.cell? ⟨bl, 0, none⟩ = some (matV bs yb bp bl)
  p : w.cell? ⟨bp, 1, none⟩ = some (.slice A L.length c)
  r : CRead w w.heap.size A (pcells L)
theorem MatAt.of {w w' : World} {l : Nat} {size : Int} {L : PL} {A : Option Addr} {c bs yb bp bl : Nat} {R : Nat → Prop} (h : MatAt w l size L A c bs yb bp bl) (hR : ∀ j, R j → w'.heap[j]? = w.heap[j]?) (hz : w.heap.size ≤ w'.heap.size)
    (h1 : R bs) (h2 : R yb) (h3 : R bl) (h4 : R bp) (h5 : L ≠ [] → ∀ b off, A = some ⟨b, off, none⟩ → R b) : MatAt w' l size L A c bs yb bp bl := by
  have e : ∀ b o v, R b → w.cell? ⟨b, o, none⟩ = some v → w'.cell? ⟨b, o, none⟩ = some v := fun b o v hb hc => (World.cell?_of_block (w := w) (a := ⟨b, o, none⟩) (hR b hb)).trans hc
  refine ⟨e _ _ _ h1 h.s, e _ _ _ h2 h.y, e _ _ _ h3 h.k, e _ _ _ h4 h.p, fun j u hu => ?_⟩
  obtain ⟨b, off, hA, hb, hc⟩ := h.r j u hu
  exact ⟨b, off, hA, by omega, e _ _ _ (h5 (by rintro rfl; simp [pcells] at hu) b off hA) hc⟩

theorem cells_two {w : World} {g : Nat} {u v : Value} (h : w.cell? ⟨g, 0, none⟩ = some u) (h' : w.cell? ⟨g, 1, none⟩ = some v) : ∀ j x, [u, v][j]? = some x → w.cell? ((⟨g, 0, none⟩ : Addr).add j) = some x := by
  intro j x hx
  match j, hx with
  | 0, hx => simp at hx; subst hx; simpa [Addr.add] using h
  | 1, hx => simp at hx; subst hx; simpa [Addr.add] using h'
theorem wrap_i64_le {x : Int} (h0 : 0 ≤ x) (h1 : x ≤ 4611686018427387904) : IntKind.i64.wrap x = x := by rw [IntKind.wrap_i64]; omega
section
variable {l n : Nat} {size : Int} {L : PL} {PA : Option Addr} {pc bs yb bp bl B : Nat} {R : Nat → Prop} {J Jx : (Nat → Prop) → List PL → World → Prop} {Good : List PL → Prop}
/-- No more pairs are wanted: the list is handed to the round. -/
theorem mat_zero (hR : ∀ j, R j → j < B)
    (hY : ∀ S pre told A c W1, J S pre W1 → World.toldP W1 A c told → (∀ k, (Value.slice A told.length c).ownBlock = some k → S k) → told.length ≤ 100 → Good (pre ++ [told]) → YieldAt Fence.wide 0 Try.prog l #[.slice A told.length c] W1 fun e W' =>
      (e = .returned (.bool true) ∧ J S (pre ++ [told]) W' ∧ Stays (fun j => S j ∨ R j) W1 W') ∨ (e = .returned (.bool false) ∧ Jx S (pre ++ [told]) W'))
    (ps told : PL) (next : Nat) (jn : Nat) (A : Option Addr) (c : Nat) (S : Nat → Prop) (pre : List PL) (W : World) (hsz : (told.length : Int) = size) (h100 : told.length ≤ 100) (hgd : Good (pre ++ [told])) (hB : B ≤ W.heap.size) (hL : MatAt W l size L PA pc bs yb bp bl)
    (hJ : J S pre W) (ht : World.toldP W A c told) (hA : ∀ k, (Value.slice A told.length c).ownBlock = some k → S k) :
    Calls Try.prog 95 #[.slice A told.length c, .int .i64 next, .int .u16 jn, .pointer (some ⟨bs, 0, none⟩), .pointer (some ⟨yb, 0, none⟩), .pointer (some ⟨bp, 0, none⟩), .pointer (some ⟨bl, 0, none⟩)] W fun e W' =>
      ∃ ok, e = .returned (.bool ok) ∧ LookPostP J Jx R S A c told pre (mP ps 0 told (bitsQ jn)) W ok W' := by
  have hs := hL.s
  have hy0 := hL.y
  obtain ⟨fn, tmps, assign, body, hy, hRd⟩ := yield_any (m' := 2) (hY S pre told A c W hJ ht hA h100 hgd)
  rw [mP_zero]
  refine (callsIn_wide (n := 3)).1 ?_
  refine callsIn_of_wp Try.func95 rfl trivial ?_ rfl
  simp only [Try.ntmps95, List.size_toArray, List.length_cons, List.length_nil, Nat.reduceAdd, Nat.reduceSub, Array.replicate_succ, Array.replicate_zero, List.push_toArray, List.append_toArray, List.nil_append, List.cons_append]
  gi_wp2
  refine hRd.mono ?_
  rintro e W' (⟨rfl, hJ', hst⟩ | ⟨rfl, hJx⟩)
  · gi_wp2
    go_ret
    refine ⟨true, rfl, ⟨S, hJ', fun _ h => h, fun _ h => .inl h⟩, hst.below, fun j hj => hst.same j (by have := hR j hj; omega) (.inr hj), fun j hj hlt _ => hst.same j hlt (.inl hj), ?_⟩
    exact toldP_kept ht fun k hk => hst.same k (own_lies ht k hk).2 (.inl (hA k hk))
  · gi_wp2
    go_ret
    exact ⟨false, rfl, S, [], told, List.prefix_refl _, hJx⟩
set_option maxHeartbeats 4000000 in
set_option maxRecDepth 100000 in
theorem mat_any (hR : ∀ j, R j → j < B)
    (hY : ∀ S pre told A c W1, J S pre W1 → World.toldP W1 A c told → (∀ k, (Value.slice A told.length c).ownBlock = some k → S k) → told.length ≤ 100 → Good (pre ++ [told]) → YieldAt Fence.wide 0 Try.prog l #[.slice A told.length c] W1 fun e W' =>
      (e = .returned (.bool true) ∧ J S (pre ++ [told]) W' ∧ Stays (fun j => S j ∨ R j) W1 W') ∨ (e = .returned (.bool false) ∧ Jx S (pre ++ [told]) W'))
    (hh : Held J) (h1 : R bs) (h2 : R yb) (h3 : R bl) (h4 : R bp) (h5 : L ≠ [] → ∀ b off, PA = some ⟨b, off, none⟩ → R b) (hn : n ≤ 12) (hLs : L.Pairwise plt) (hLf : FromQ n 0 L) (hcap : L.length ≤ pc) (hL66 : L.length ≤ 1048576) : ∀ (need : Nat)
    (told : PL) (next jn : Nat) (A : Option Addr) (c : Nat) (S : Nat → Prop) (pre : List PL) (W : World), size = told.length + need → told.length + need ≤ 100 → next ≤ L.length → (∀ q, q <+: mP (L.drop next) need told (bitsQ jn) → Good (pre ++ q)) → (∀ x, jn.testBit x = true → x < n) →
    B ≤ W.heap.size → MatAt W l size L PA pc bs yb bp bl → J S pre W → World.toldP W A c told → (∀ k, (Value.slice A told.length c).ownBlock = some k → S k) → (∀ j, S j → B ≤ j) →
    Calls Try.prog 95 #[.slice A told.length c, .int .i64 next, .int .u16 jn, .pointer (some ⟨bs, 0, none⟩), .pointer (some ⟨yb, 0, none⟩), .pointer (some ⟨bp, 0, none⟩), .pointer (some ⟨bl, 0, none⟩)] W fun e W' =>
      ∃ ok, e = .returned (.bool ok) ∧ LookPostP J Jx R S A c told pre (mP (L.drop next) need told (bitsQ jn)) W ok W' := by
  intro need
  induction need with
  | zero =>
    intro told next jn A c S pre W hsz h100 _ hgd _ hB hL hJ ht hA _
    exact mat_zero hR hY (L.drop next) told next jn A c S pre W (by omega) (by omega) (hgd _ (by rw [mP_zero]; exact List.prefix_refl _)) hB hL hJ ht hA
  | succ need ih =>
    intro told next jn A c S pre W hsz h100 hnext hgd hbits hB hL hJ ht hA hS
    have hne : ¬ (told.length : Int) = size := by omega
    have hneB : ((told.length : Int) == size) = false := by simpa using hne
    have hs := hL.s
    have hp := hL.p
    obtain ⟨LL, hLL⟩ : ∃ LL, mP (L.drop next) (need + 1) told (bitsQ jn) = LL := ⟨_, rfl⟩
    rw [hLL] at hgd ⊢
    have hcapI : (L.length : Int) ≤ (pc : Int) := by omega
    have hnxI : (next : Int) ≤ (L.length : Int) := by omega
    have hnxI2 : (next : Int) ≤ (pc : Int) := by omega
    have HGD := Lib.hid hgd
    have HLL := Lib.hid hLL
    have HSZ := Lib.hid hsz
    have HL0 := Lib.hid hL
    clear hLL hsz hL hgd
    by_cases hz : next = L.length
    · subst hz
      have hno : ¬ (0 : Int) < (L.length : Int) - (L.length : Int) := by omega
      have e0 : LL = [] := by rw [← HLL.out, List.drop_length, mP_nil]
      rw [e0]
      clear hnxI hne
      go_enter Try.func95, Try.ntmps95
      go_wp2
      all_goals (first
        | (go_loopw [26] (fun iv wr => iv = .int .i64 0 ∧ wr = W) (fun _ _ => 0)
           case atStart => exact ⟨rfl, rfl⟩
           case round =>
             obtain ⟨rfl, rfl⟩ := hrel
             go_wp2
             go_ret
             exact ⟨true, rfl, show LookYesP J R S A c told (pre ++ []) _ _ from by rw [List.append_nil]; exact LookYesP.start hJ ht⟩))
    · have hlt : next < L.length := by omega
      obtain ⟨q0, hq0⟩ := getSome L next hlt
      obtain ⟨pb, po, rfl, hpb, _, _⟩ := HL0.out.r.pair (k := next) (x := q0.1) (y := q0.2) hq0
      have hc4 : ¬ pc ≤ next := by omega
      have hsz := HSZ.out
      have hs0 : (told.length : Int) < size := by omega
      have hs1 : size ≤ 100 := by omega
      clear hsz
      clear hq0 hz hpb hne
      go_enter Try.func95, Try.ntmps95
      go_wp2
      clear hs hp hc4 hcapI hnxI hnxI2 hlt
      go_loopw [26] (fun iv wr => ∃ (i : Nat) (done : List PL), iv = .int .i64 i ∧ next + i ≤ L.length ∧ LL = done ++ mP (L.drop (next + i)) (need + 1) told (bitsQ jn) ∧ LookYesP J R S A c told (pre ++ done) W wr) (fun iv _ => L.length - (intOf iv).toNat)
      case atStart => exact ⟨0, [], rfl, by omega, by rw [List.nil_append]; exact HLL.out.symm, by rw [List.append_nil]; exact LookYesP.start hJ ht⟩
      case round =>
        obtain ⟨i, done, rfl, hi, hLL', hyes⟩ := hrel
        have hL2 := HL0.out.of hyes.ro hyes.below.size h1 h2 h3 h4 h5
        have Hyes := Lib.hid hyes
        have HL' := Lib.hid hLL'
        have zW := hyes.below.size
        clear hyes hLL'
        by_cases hend : next + i = L.length
        · have hno : ¬ (i : Int) < ((L.length - next : Nat) : Int) := by omega
          have e := HL'.out
          rw [hend, List.drop_length, mP_nil, List.append_nil] at e
          go_wp2
          go_ret
          have fin : LookPostP J Jx R S A c told pre LL W true wr := by rw [e]; exact Hyes.out
          rw [e] at fin
          first | exact ⟨true, rfl, fin⟩ | exact .inr ⟨rfl, fin⟩
        · obtain ⟨⟨x, y⟩, hxy⟩ := getSome L (next + i) (by omega)
          have hq := hLf (x, y) (List.mem_of_getElem? hxy)
          simp only at hq
          obtain ⟨a, rfl⟩ : ∃ a : Nat, x = a := ⟨x.toNat, by omega⟩
          obtain ⟨b, rfl⟩ : ∃ b : Nat, y = b := ⟨y.toNat, by omega⟩
          have hab : a < b ∧ b < n := by omega
          have hyesI : (i : Int) < ((L.length - next : Nat) : Int) := by omega
          have hdrop : L.drop (next + i) = ((a : Int), (b : Int)) :: L.drop (next + (i + 1)) := by
            have hl : next + i < L.length := by omega
            rw [List.drop_eq_getElem_cons hl]
            have := List.getElem?_eq_getElem hl
            rw [hxy] at this
            rw [← Option.some.inj this]
            rfl
          obtain ⟨pb', po', e, hpbl, c0, c1⟩ := hL2.r.pair hxy
          simp only [Option.some.injEq, Addr.mk.injEq, and_true] at e
          obtain ⟨rfl, rfl⟩ := e
          rw [show po + (next + i) * 2 = po + next * 2 + i * 2 by omega] at c0 c1
          have fs := hL2.s
          have hbsl : bs < wr.heap.size := World.block_lt_of_cell? wr _ fs
          obtain ⟨X, hX⟩ : ∃ X, wr.alloc (Obj.cells #[.int .i64 a, .int .i64 b] 76) = X := ⟨_, rfl⟩
          have bX : Below wr.heap.size wr X := by rw [← hX]; go_grown
          have sX : wr.heap.size < X.heap.size := by rw [← hX]; simp
          have q0 : X.cell? ⟨wr.heap.size, 0, none⟩ = some (.int .i64 a) := by rw [← hX]; simp
          have q1 : X.cell? ⟨wr.heap.size, 1, none⟩ = some (.int .i64 b) := by rw [← hX]; simp
          have gs := carry bX fs hbsl
          have p0 : ∀ z : Ext X.heap.size X, z.val.cell? ⟨wr.heap.size, 0, none⟩ = some (.int .i64 a) := fun z => z.cell q0 sX
          have ps : ∀ z : Ext X.heap.size X, z.val.cell? ⟨bs, 0, none⟩ = some (.int .i64 size) := fun z => z.cell gs (by show bs < X.heap.size; omega)
          have callE : ∀ z : Ext X.heap.size X, Calls Try.prog 97 #[.int .i64 a] z.val fun e w' => e = .returned (.int .u16 ((2 ^ a - 1 : Nat) : Int)) ∧ Below z.val.heap.size z.val w' := fun z => (everybody_any a (by omega) z.val).mono fun _ _ h => ⟨h.1, by rw [← h.2]; exact Below.refl _ _⟩
          have hj16 := bits_small hn hbits
          have h2a : 2 ^ a - 1 < 65536 := by
            have : 2 ^ a < 2 ^ 16 := Nat.pow_lt_pow_right (by omega) (by omega)
            rw [show (2 : Nat) ^ 16 = 65536 from rfl] at this
            omega
          have hand0 := u16_andNot_nat jn (2 ^ a - 1) hj16 h2a
          have callO : ∀ z : Ext X.heap.size X, Calls Try.prog 96 #[.int .u16 ((jn &&& (65535 - (2 ^ a - 1)) : Nat) : Int)] z.val fun e w' => e = .returned (.int .i64 ((cntQ n (bitsQ jn) a : Nat) : Int)) ∧ Below z.val.heap.size z.val w' := fun z => by
            have := onesCount_any (above_set (a := a) hn (by omega) hbits) z.val
            rwa [above_len] at this
          obtain ⟨m0, hm0⟩ : ∃ m0, 2 ^ a - 1 = m0 := ⟨_, rfl⟩
          rw [hm0] at hand0 callE callO
          obtain ⟨m1, hm1⟩ : ∃ m1, jn &&& (65535 - m0) = m1 := ⟨_, rfl⟩
          rw [hm1] at hand0 callO
          obtain ⟨K, hK⟩ : ∃ K, cntQ n (bitsQ jn) a = K := ⟨_, rfl⟩
          rw [hK] at callO
          have HX := Lib.hid hX
          have CallE := Lib.hid callE
          have CallO := Lib.hid callO
          have HK := Lib.hid hK
          have Hdrop := Lib.hid hdrop
          clear hX callE callO hK hdrop hm0 hm1 h2a hq hxy
          by_cases hpr : (K : Int) < 2 * (size - (told.length : Int))
          · go_wp2_with fail
            rw [HX.out]
            refine wp_region_ext X.heap.size (by kernel_rfl) (by kernel_rfl) ?_
            repeat (go_big_quiet_step ((first
              | (go_at_call 97; exact Calls.ext_of ((CallE.out _).mono fun _ _ h => ⟨h.1, h.2.mono (Ext.size _)⟩))
              | (go_at_call 96; exact Calls.ext_of ((CallO.out _).mono fun _ _ h => ⟨h.1, h.2.mono (Ext.size _)⟩)))))
            refine wpQuiet_nil ?_
            rintro w1 ⟨⟨_, hb1⟩, rfl⟩
            have b1 := bX.trans (hb1.mono bX.size)
            clear p0 ps c0 c1 hb1
            have fin : LookPostP J Jx R S A c told pre LL W true w1 := by
              have e := HL'.out
              have hsz := HSZ.out
              rw [Hdrop.out, mP_prune (n := n) (Hdrop.out ▸ hLs.drop) (Hdrop.out ▸ fun q hq => hLf q (List.mem_of_mem_drop hq)) (by rw [show ((a : Int), (b : Int)).1.toNat = a from rfl, HK.out]; omega), List.append_nil] at e
              rw [e]
              exact Hyes.out.later hh hR hB b1
            go_wp2
            go_ret
            first | exact ⟨true, rfl, fin⟩ | exact .inr ⟨rfl, fin⟩
          · have haI : (a : Int) < 12 := by omega
            have hbI : (b : Int) < 12 := by omega
            have callC : ∀ (Y : World) (g : Nat), CRead Y Y.heap.size (some ⟨g, 0, none⟩) (icells [(a : Int), (b : Int)]) → Calls Try.prog 98 #[.slice (some ⟨g, 0, none⟩) 2 2] Y fun e w' => e = .returned (.int .u16 ((2 ^ a ||| 2 ^ b : Nat) : Int)) ∧ Y = w' := fun Y g hY => by
              have := crowdOf_any [(a : Int), (b : Int)] (some ⟨g, 0, none⟩) 2 Y (by simp; omega) (by simp) hY
              rwa [show crowdN [(a : Int), (b : Int)] = 2 ^ a ||| 2 ^ b by simp [crowdN]] at this
            have hboth := both_lt (a := a) (b := b) (by omega) (by omega)
            have hasb := has_both (J := jn) (a := a) (b := b)
            have cutb := cut_both (J := jn) (a := a) (b := b) hj16 (by omega) (by omega)
            obtain ⟨m2, hm2⟩ : ∃ m2, 2 ^ a ||| 2 ^ b = m2 := ⟨_, rfl⟩
            rw [hm2] at callC hboth hasb cutb
            have hand1 := u16_and_nat jn m2 hj16 hboth
            have hand2 := u16_andNot_nat jn m2 hj16 hboth
            have CallC := Lib.hid callC
            have Hasb := Lib.hid hasb
            have Cutb := Lib.hid cutb
            clear callC hasb cutb hm2
            go_wp2_with fail
            rw [HX.out]
            refine wp_region_ext X.heap.size (by kernel_rfl) (by kernel_rfl) ?_
            repeat (go_big_quiet_step ((first
              | (go_at_call 97; exact Calls.ext_of ((CallE.out _).mono fun _ _ h => ⟨h.1, h.2.mono (Ext.size _)⟩))
              | (go_at_call 96; exact Calls.ext_of ((CallO.out _).mono fun _ _ h => ⟨h.1, h.2.mono (Ext.size _)⟩)))))
            refine wpQuiet_nil ?_
            rintro w1 ⟨⟨_, hb1⟩, rfl⟩
            have b1 := bX.trans (hb1.mono bX.size)
            have t0 := carry hb1 q0 sX
            have t1 := carry hb1 q1 sX
            have z1 : wr.heap.size < w1.heap.size := by have := hb1.size; omega
            clear p0 ps c0 c1 hb1
            have hcr : CRead (w1.alloc (Obj.cells #[.int .i64 a, .int .i64 b] 3)) (w1.alloc (Obj.cells #[.int .i64 a, .int .i64 b] 3)).heap.size (some ⟨w1.heap.size, 0, none⟩) (icells [(a : Int), (b : Int)]) := by
              intro j u hu
              refine ⟨_, 0, rfl, by simp, ?_⟩
              rw [Nat.zero_add]
              match j, hu with
              | 0, hu => simp [icells] at hu; subst hu; simp
              | 1, hu => simp [icells] at hu; subst hu; simp
            have callC := CallC.out _ _ hcr
            obtain ⟨w2, hw2⟩ : ∃ w2, w1.alloc (Obj.cells #[.int .i64 a, .int .i64 b] 3) = w2 := ⟨_, rfl⟩
            rw [hw2] at callC
            have b2 : Below wr.heap.size wr w2 := by rw [← hw2]; exact b1.alloc b1.size _
            have u0 : w2.cell? ⟨wr.heap.size, 0, none⟩ = some (.int .i64 a) := by rw [← hw2]; exact (World.cell?_alloc_lt _ _ _ z1).trans t0
            have u1 : w2.cell? ⟨wr.heap.size, 1, none⟩ = some (.int .i64 b) := by rw [← hw2]; exact (World.cell?_alloc_lt _ _ _ z1).trans t1
            have Callc := Lib.hid callC
            have HY := Lib.hid hw2
            clear callC hw2 hcr CallC CallE CallO
            go_wp2_with fail
            rw [HY.out]
            refine Callc.out.mono ?_
            rintro e w3 ⟨rfl, rfl⟩
            have z2 : wr.heap.size < w2.heap.size := Nat.lt_of_lt_of_le z1 (by rw [← HY.out]; simp)
            clear t0 t1 Callc HY b1 z1 bX sX q0 q1 gs hand0 hpr HX
            by_cases hm : jn &&& m2 = m2
            · have hmI : ((((jn &&& m2 : Nat) : Int) == ((m2 : Nat) : Int))) = true := by
                rw [hm]; simp
              have hto := Hyes.out.told
              have f1 := hL2.k
              have hblw : bl < wr.heap.size := World.block_lt_of_cell? wr _ f1
              have v1 := carry b2 f1 hblw
              have g1 : ∀ o, (w2.alloc o).cell? ⟨bl, 0, none⟩ = some (matV bs yb bp bl) := fun o => (World.cell?_alloc_lt w2 _ _ (by show bl < _; omega)).trans v1
              have g2 : ∀ o, (w2.drew.alloc o).cell? ⟨bl, 0, none⟩ = some (matV bs yb bp bl) := fun o => (World.cell?_alloc_lt w2.drew _ _ (by show bl < w2.heap.size; omega)).trans v1
              have hll : (told ++ [((a : Int), (b : Int))]).length = told.length + 1 := by simp
              have Hlen : (told ++ [((a : Int), (b : Int))]).length + need ≤ 100 := by rw [hll]; omega
              have hSZ2 : size = ((told.length + 1 : Nat) : Int) + need := by have := HSZ.out; omega
              have hgd2 : ∀ q, q <+: mP (L.drop (next + (i + 1))) need (told ++ [((a : Int), (b : Int))]) (bitsQ (jn &&& (65535 - m2))) → Good (pre ++ done ++ q) := fun q hq => by
                rw [List.append_assoc]
                refine HGD.out _ ?_
                rw [HL'.out, Hdrop.out, mP_cons, if_pos (Hasb.out.1 hm), ← Cutb.out]
                exact (List.prefix_append_right_inj done).2 (hq.trans (List.prefix_append _ _))
              have hnx : ((next + (i + 1) : Nat) : Int) = IntKind.i64.wrap (IntKind.i64.wrap ((next : Int) + (i : Int)) + 1) := by
                rw [wrap_i64_le (x := (next : Int) + (i : Int)) (by omega) (by omega), wrap_i64_le (by omega) (by omega)]
                push_cast
                rw [Int.add_assoc]
              have hb3 := cut_few hbits (65535 - m2)
              have Hto := Lib.hid hto
              clear hto
              have hls : LL = (done ++ mP (L.drop (next + (i + 1))) need (told ++ [((a : Int), (b : Int))]) (bitsQ (jn &&& (65535 - m2)))) ++ mP (L.drop (next + (i + 1))) (need + 1) told (bitsQ jn) := by
                rw [HL'.out, Hdrop.out, mP_cons, if_pos (Hasb.out.1 hm), ← Cutb.out, List.append_assoc]
              have HLs := Lib.hid hls
              have HGD2 := Lib.hid hgd2
              have HSZ2 := Lib.hid hSZ2
              have Hnx := Lib.hid hnx
              have Hb3 := Lib.hid hb3
              clear hls hgd2 hSZ2 hnx hb3 hm hs0 hs1 hboth hj16 hyesI hab haI hbI hneB
              go_wp2_with fail
              refine wp_region_any (by kernel_rfl) ?_
              change wpAny _ _ _ _ _ _ _ w2.drew
              refine wpAny_take (i := 0) (v := ?v0) rfl (by kernel_rfl) (by kernel_rfl) (by kernel_rfl) (fun _ _ _ h => h) (Or.inl ⟨by first | kernel_rfl | rfl, ?hy0⟩) ?rest0
              case hy0 => (intro w; go_simp; all_goals (with_reducible rfl))
              refine wpAny_take (i := 1) (v := ?v1) rfl (by kernel_rfl) (by kernel_rfl) (by kernel_rfl) (fun _ _ _ h => h) (Or.inl ⟨by first | kernel_rfl | rfl, ?hy1⟩) ?rest1
              case hy1 => (intro w; go_simp; all_goals (with_reducible rfl))
              refine wpAny_take (i := 2) (v := ?v2) rfl (by kernel_rfl) (by kernel_rfl) (by kernel_rfl) (fun _ _ _ h => h) (Or.inl ⟨by first | kernel_rfl | rfl, ?hy2⟩) ?rest2
              case hy2 => (intro w; go_simp; all_goals (with_reducible rfl))
              refine wpAny_take (i := 3) (v := ?v3) rfl (by kernel_rfl) (by kernel_rfl) (by kernel_rfl) (fun _ _ _ h => h) (Or.inl ⟨by first | kernel_rfl | rfl, ?hy3⟩) ?rest3
              case hy3 => (intro w; go_simp; all_goals (with_reducible rfl))
              refine wpAny_take (i := 4) (v := ?v4) rfl (by kernel_rfl) (by kernel_rfl) (by kernel_rfl) (fun _ _ _ h => h) (Or.inl ⟨by first | kernel_rfl | rfl, ?hy4⟩) ?rest4
              case hy4 => (intro w; go_simp; all_goals (with_reducible rfl))
              refine wpAny_take (i := 5) (v := ?v5) rfl (by kernel_rfl) (by kernel_rfl) (by kernel_rfl) (fun _ _ _ h => h) (Or.inl ⟨by first | kernel_rfl | rfl, ?hy5⟩) ?rest5
              case hy5 => (intro w; go_simp; all_goals (with_reducible rfl))
              refine wpAny_take (i := 7) (v := ?v7) rfl (by kernel_rfl) (by kernel_rfl) (by kernel_rfl) (fun _ _ _ h => h) (Or.inl ⟨by first | kernel_rfl | rfl, ?hy7⟩) ?rest7
              case hy7 => (intro w; go_simp; all_goals (with_reducible rfl))
              refine wpAny_take (i := 11) (v := ?v11) rfl (by kernel_rfl) (by kernel_rfl) (by kernel_rfl) (fun _ _ _ h => h) (Or.inl ⟨by first | kernel_rfl | rfl, ?hy11⟩) ?rest11
              case hy11 => (intro w; go_simp; all_goals (with_reducible rfl))
              refine wpAny_take (i := 12) (v := ?v12) rfl (by kernel_rfl) (by kernel_rfl) (by kernel_rfl) (fun _ _ _ h => h) (Or.inl ⟨by first | kernel_rfl | rfl, ?hy12⟩) ?rest12
              case hy12 => (intro w; go_simp; all_goals (with_reducible rfl))
              refine wpAny_take (i := 13) (v := ?v13) rfl (by kernel_rfl) (by kernel_rfl) (by kernel_rfl) (fun _ _ _ h => h) (Or.inl ⟨by first | kernel_rfl | rfl, ?hy13⟩) ?rest13
              case hy13 => (intro w; go_simp; all_goals (with_reducible rfl))
              refine wpAny_take (i := 14) (v := ?v14) rfl (by kernel_rfl) (by kernel_rfl) (by kernel_rfl) (fun _ _ _ h => h) (Or.inl ⟨by first | kernel_rfl | rfl, ?hy14⟩) ?rest14
              case hy14 => (intro w; go_simp; all_goals (with_reducible rfl))
              refine wpAny_take (i := 15) (v := ?v15) rfl (by kernel_rfl) (by kernel_rfl) (by kernel_rfl) (fun _ _ _ h => h) (Or.inl ⟨by first | kernel_rfl | rfl, ?hy15⟩) ?rest15
              case hy15 => (intro w; go_simp; all_goals (with_reducible rfl))
              refine wpAny_take (i := 16) (v := ?v16) rfl (by kernel_rfl) (by kernel_rfl) (by kernel_rfl) (fun _ _ _ h => h) (Or.inl ⟨by first | kernel_rfl | rfl, ?hy16⟩) ?rest16
              case hy16 => (intro w; go_simp; all_goals (with_reducible rfl))
              refine wpAny_take (i := 17) (v := ?v17) rfl (by kernel_rfl) (by kernel_rfl) (by kernel_rfl) (fun _ _ _ h => h) (Or.inl ⟨by first | kernel_rfl | rfl, ?hy17⟩) ?rest17
              case hy17 => (intro w; go_simp; all_goals (with_reducible rfl))
              refine wpAny_ready (rs := [6, 8]) (by kernel_rfl) (by simp) ?_
              refine AllReady.cons rfl (fun K hK => ?_) (AllReady.cons rfl (fun K hK => ?_) AllReady.nil)
              · rw [if_pos (by kernel_rfl)]
                go_simp
                refine hK _ _ ?_
                clear hK K
                refine wpAny_ready (rs := [8]) (by kernel_rfl) (by simp) ?_
                refine AllReady.cons rfl (fun K hK => ?_) AllReady.nil
                rw [if_pos (by kernel_rfl)]
                go_simp
                refine hK _ _ ?_
                clear hK K
                refine wpAny_ready (rs := [9]) (by kernel_rfl) (by simp) ?_
                refine AllReady.cons rfl (fun K hK => ?_) AllReady.nil
                rw [if_pos (by kernel_rfl)]
                go_simp
                refine hK _ _ ?_
                clear hK K
                refine wpAny_ready (rs := [10]) (by kernel_rfl) (by simp) ?_
                refine AllReady.cons rfl (fun K hK => ?_) AllReady.nil
                refine step_append_toldP (by rfl) _ _ (by rfl) A c told a b (by rfl) (((own_below Hto.out b2 (Nat.le_refl _)).drew).alloc _) ⟨w2.heap.size, 0, none⟩ (by rfl) (cells_two (by simp) (by simp)) (by omega) ?_; intro A1 c1 w4 G1; obtain ⟨⟨S2, e1, e2, e3, e4⟩, e5, e6, e7⟩ := Hyes.out.step hh hA hS hR hB ((b2.drew).alloc (b2.drew).size _) G1; have hL3 := HL0.out.of (fun j hj => (e5 j hj).trans (Hyes.out.ro j hj)) e7 h1 h2 h3 h4 h5; have k1 := hL3.k; have ihc := ih (told ++ [((a : Int), (b : Int))]) (next + (i + 1)) (jn &&& (65535 - m2)) A1 c1 S2 (pre ++ done) w4 (by rw [hll]; exact HSZ2.out) Hlen (by omega) HGD2.out Hb3.out e6 hL3 e1 G1.new e4 (fun j hj => by rcases e3 j hj with h | h; exact hS j h; omega); rw [hll, Hnx.out] at ihc; have IHC := Lib.hid ihc; have HG := Lib.hid G1; clear ihc hL3 G1
                refine hK _ _ ?_
                clear hK K
                refine wpAny_ready (rs := [18]) (by kernel_rfl) (by simp) ?_
                refine AllReady.cons rfl (fun K hK => ?_) AllReady.nil
                rw [if_pos (by kernel_rfl)]
                go_simp
                refine IHC.out.mono ?_
                rintro e w5 ⟨ok, rfl, hpost⟩
                try go_simp
                refine hK _ _ ?_
                clear hK K
                refine wpAny_ready (rs := [19]) (by kernel_rfl) (by simp) ?_
                refine AllReady.cons rfl (fun K hK => ?_) AllReady.nil
                rw [if_pos (by kernel_rfl)]
                go_simp
                refine hK _ _ ?_
                clear hK K
                refine wpAny_ready (rs := [20]) (by kernel_rfl) (by simp) ?_
                refine AllReady.cons rfl (fun K hK => ?_) AllReady.nil
                rw [if_pos (by kernel_rfl)]
                go_simp
                refine hK _ _ ?_
                clear hK K
                refine wpAny_done (by kernel_rfl) ?_ _
                cases ok
                · obtain ⟨S', q, x, hq, hx⟩ := hpost
                  have fin : LookPostP J Jx R S A c told pre LL W false w5 := ⟨S', done ++ q, x, by rw [HLs.out, List.append_assoc done q]; exact ((List.prefix_append_right_inj done).2 hq).trans (List.prefix_append _ _), by simpa [List.append_assoc] using hx⟩
                  have Fin := Lib.hid fin
                  clear fin hx hq
                  go_wp2
                  go_ret
                  first | exact ⟨false, rfl, Fin.out⟩ | exact .inl ⟨rfl, Fin.out⟩
                · have fin : LookYesP J R S A c told (pre ++ (done ++ mP (L.drop (next + (i + 1))) need (told ++ [((a : Int), (b : Int))]) (bitsQ (jn &&& (65535 - m2))))) W w5 := by rw [← List.append_assoc]; exact Hyes.out.next hA hS hR hB ((b2.drew).alloc (b2.drew).size _) HG.out e2 e3 hpost
                  have Fin := Lib.hid fin
                  clear fin hpost
                  go_wp2
                  go_roundw
                  case rel => exact ⟨i + 1, _, by go_num, by omega, HLs.out, Fin.out⟩
                  case measure => simp [intOf]; omega
              · rw [if_pos (by kernel_rfl)]
                go_simp
                refine hK _ _ ?_
                clear hK K
                refine wpAny_ready (rs := [6, 9]) (by kernel_rfl) (by simp) ?_
                refine AllReady.cons rfl (fun K hK => ?_) (AllReady.cons rfl (fun K hK => ?_) AllReady.nil)
                · rw [if_pos (by kernel_rfl)]
                  go_simp
                  refine hK _ _ ?_
                  clear hK K
                  refine wpAny_ready (rs := [9]) (by kernel_rfl) (by simp) ?_
                  refine AllReady.cons rfl (fun K hK => ?_) AllReady.nil
                  rw [if_pos (by kernel_rfl)]
                  go_simp
                  refine hK _ _ ?_
                  clear hK K
                  refine wpAny_ready (rs := [10]) (by kernel_rfl) (by simp) ?_
                  refine AllReady.cons rfl (fun K hK => ?_) AllReady.nil
                  refine step_append_toldP (by rfl) _ _ (by rfl) A c told a b (by rfl) (((own_below Hto.out b2 (Nat.le_refl _)).drew).alloc _) ⟨w2.heap.size, 0, none⟩ (by rfl) (cells_two (by simp) (by simp)) (by omega) ?_; intro A1 c1 w4 G1; obtain ⟨⟨S2, e1, e2, e3, e4⟩, e5, e6, e7⟩ := Hyes.out.step hh hA hS hR hB ((b2.drew).alloc (b2.drew).size _) G1; have hL3 := HL0.out.of (fun j hj => (e5 j hj).trans (Hyes.out.ro j hj)) e7 h1 h2 h3 h4 h5; have k1 := hL3.k; have ihc := ih (told ++ [((a : Int), (b : Int))]) (next + (i + 1)) (jn &&& (65535 - m2)) A1 c1 S2 (pre ++ done) w4 (by rw [hll]; exact HSZ2.out) Hlen (by omega) HGD2.out Hb3.out e6 hL3 e1 G1.new e4 (fun j hj => by rcases e3 j hj with h | h; exact hS j h; omega); rw [hll, Hnx.out] at ihc; have IHC := Lib.hid ihc; have HG := Lib.hid G1; clear ihc hL3 G1
                  refine hK _ _ ?_
                  clear hK K
                  refine wpAny_ready (rs := [18]) (by kernel_rfl) (by simp) ?_
                  refine AllReady.cons rfl (fun K hK => ?_) AllReady.nil
                  rw [if_pos (by kernel_rfl)]
                  go_simp
                  refine IHC.out.mono ?_
                  rintro e w5 ⟨ok, rfl, hpost⟩
                  try go_simp
                  refine hK _ _ ?_
                  clear hK K
                  refine wpAny_ready (rs := [19]) (by kernel_rfl) (by simp) ?_
                  refine AllReady.cons rfl (fun K hK => ?_) AllReady.nil
                  rw [if_pos (by kernel_rfl)]
                  go_simp
                  refine hK _ _ ?_
                  clear hK K
                  refine wpAny_ready (rs := [20]) (by kernel_rfl) (by simp) ?_
                  refine AllReady.cons rfl (fun K hK => ?_) AllReady.nil
                  rw [if_pos (by kernel_rfl)]
                  go_simp
                  refine hK _ _ ?_
                  clear hK K
                  refine wpAny_done (by kernel_rfl) ?_ _
                  cases ok
                  · obtain ⟨S', q, x, hq, hx⟩ := hpost
                    have fin : LookPostP J Jx R S A c told pre LL W false w5 := ⟨S', done ++ q, x, by rw [HLs.out, List.append_assoc done q]; exact ((List.prefix_append_right_inj done).2 hq).trans (List.prefix_append _ _), by simpa [List.append_assoc] using hx⟩
                    have Fin := Lib.hid fin
                    clear fin hx hq
                    go_wp2
                    go_ret
                    first | exact ⟨false, rfl, Fin.out⟩ | exact .inl ⟨rfl, Fin.out⟩
                  · have fin : LookYesP J R S A c told (pre ++ (done ++ mP (L.drop (next + (i + 1))) need (told ++ [((a : Int), (b : Int))]) (bitsQ (jn &&& (65535 - m2))))) W w5 := by rw [← List.append_assoc]; exact Hyes.out.next hA hS hR hB ((b2.drew).alloc (b2.drew).size _) HG.out e2 e3 hpost
                    have Fin := Lib.hid fin
                    clear fin hpost
                    go_wp2
                    go_roundw
                    case rel => exact ⟨i + 1, _, by go_num, by omega, HLs.out, Fin.out⟩
                    case measure => simp [intOf]; omega
                · rw [if_pos (by kernel_rfl)]
                  go_simp
                  refine hK _ _ ?_
                  clear hK K
                  refine wpAny_ready (rs := [6, 10]) (by kernel_rfl) (by simp) ?_
                  refine AllReady.cons rfl (fun K hK => ?_) (AllReady.cons rfl (fun K hK => ?_) AllReady.nil)
                  · rw [if_pos (by kernel_rfl)]
                    go_simp
                    refine hK _ _ ?_
                    clear hK K
                    refine wpAny_ready (rs := [10]) (by kernel_rfl) (by simp) ?_
                    refine AllReady.cons rfl (fun K hK => ?_) AllReady.nil
                    refine step_append_toldP (by rfl) _ _ (by rfl) A c told a b (by rfl) (((own_below Hto.out b2 (Nat.le_refl _)).drew).alloc _) ⟨w2.heap.size, 0, none⟩ (by rfl) (cells_two (by simp) (by simp)) (by omega) ?_; intro A1 c1 w4 G1; obtain ⟨⟨S2, e1, e2, e3, e4⟩, e5, e6, e7⟩ := Hyes.out.step hh hA hS hR hB ((b2.drew).alloc (b2.drew).size _) G1; have hL3 := HL0.out.of (fun j hj => (e5 j hj).trans (Hyes.out.ro j hj)) e7 h1 h2 h3 h4 h5; have k1 := hL3.k; have ihc := ih (told ++ [((a : Int), (b : Int))]) (next + (i + 1)) (jn &&& (65535 - m2)) A1 c1 S2 (pre ++ done) w4 (by rw [hll]; exact HSZ2.out) Hlen (by omega) HGD2.out Hb3.out e6 hL3 e1 G1.new e4 (fun j hj => by rcases e3 j hj with h | h; exact hS j h; omega); rw [hll, Hnx.out] at ihc; have IHC := Lib.hid ihc; have HG := Lib.hid G1; clear ihc hL3 G1
                    refine hK _ _ ?_
                    clear hK K
                    refine wpAny_ready (rs := [18]) (by kernel_rfl) (by simp) ?_
                    refine AllReady.cons rfl (fun K hK => ?_) AllReady.nil
                    rw [if_pos (by kernel_rfl)]
                    go_simp
                    refine IHC.out.mono ?_
                    rintro e w5 ⟨ok, rfl, hpost⟩
                    try go_simp
                    refine hK _ _ ?_
                    clear hK K
                    refine wpAny_ready (rs := [19]) (by kernel_rfl) (by simp) ?_
                    refine AllReady.cons rfl (fun K hK => ?_) AllReady.nil
                    rw [if_pos (by kernel_rfl)]
                    go_simp
                    refine hK _ _ ?_
                    clear hK K
                    refine wpAny_ready (rs := [20]) (by kernel_rfl) (by simp) ?_
                    refine AllReady.cons rfl (fun K hK => ?_) AllReady.nil
                    rw [if_pos (by kernel_rfl)]
                    go_simp
                    refine hK _ _ ?_
                    clear hK K
                    refine wpAny_done (by kernel_rfl) ?_ _
                    cases ok
                    · obtain ⟨S', q, x, hq, hx⟩ := hpost
                      have fin : LookPostP J Jx R S A c told pre LL W false w5 := ⟨S', done ++ q, x, by rw [HLs.out, List.append_assoc done q]; exact ((List.prefix_append_right_inj done).2 hq).trans (List.prefix_append _ _), by simpa [List.append_assoc] using hx⟩
                      have Fin := Lib.hid fin
                      clear fin hx hq
                      go_wp2
                      go_ret
                      first | exact ⟨false, rfl, Fin.out⟩ | exact .inl ⟨rfl, Fin.out⟩
                    · have fin : LookYesP J R S A c told (pre ++ (done ++ mP (L.drop (next + (i + 1))) need (told ++ [((a : Int), (b : Int))]) (bitsQ (jn &&& (65535 - m2))))) W w5 := by rw [← List.append_assoc]; exact Hyes.out.next hA hS hR hB ((b2.drew).alloc (b2.drew).size _) HG.out e2 e3 hpost
                      have Fin := Lib.hid fin
                      clear fin hpost
                      go_wp2
                      go_roundw
                      case rel => exact ⟨i + 1, _, by go_num, by omega, HLs.out, Fin.out⟩
                      case measure => simp [intOf]; omega
                  · refine step_append_toldP (by rfl) _ _ (by rfl) A c told a b (by rfl) (((own_below Hto.out b2 (Nat.le_refl _)).drew).alloc _) ⟨w2.heap.size, 0, none⟩ (by rfl) (cells_two (by simp) (by simp)) (by omega) ?_; intro A1 c1 w4 G1; obtain ⟨⟨S2, e1, e2, e3, e4⟩, e5, e6, e7⟩ := Hyes.out.step hh hA hS hR hB ((b2.drew).alloc (b2.drew).size _) G1; have hL3 := HL0.out.of (fun j hj => (e5 j hj).trans (Hyes.out.ro j hj)) e7 h1 h2 h3 h4 h5; have k1 := hL3.k; have ihc := ih (told ++ [((a : Int), (b : Int))]) (next + (i + 1)) (jn &&& (65535 - m2)) A1 c1 S2 (pre ++ done) w4 (by rw [hll]; exact HSZ2.out) Hlen (by omega) HGD2.out Hb3.out e6 hL3 e1 G1.new e4 (fun j hj => by rcases e3 j hj with h | h; exact hS j h; omega); rw [hll, Hnx.out] at ihc; have IHC := Lib.hid ihc; have HG := Lib.hid G1; clear ihc hL3 G1
                    refine hK _ _ ?_
                    clear hK K
                    refine wpAny_ready (rs := [6]) (by kernel_rfl) (by simp) ?_
                    refine AllReady.cons rfl (fun K hK => ?_) AllReady.nil
                    rw [if_pos (by kernel_rfl)]
                    go_simp
                    refine hK _ _ ?_
                    clear hK K
                    refine wpAny_ready (rs := [18]) (by kernel_rfl) (by simp) ?_
                    refine AllReady.cons rfl (fun K hK => ?_) AllReady.nil
                    rw [if_pos (by kernel_rfl)]
                    go_simp
                    refine IHC.out.mono ?_
                    rintro e w5 ⟨ok, rfl, hpost⟩
                    try go_simp
                    refine hK _ _ ?_
                    clear hK K
                    refine wpAny_ready (rs := [19]) (by kernel_rfl) (by simp) ?_
                    refine AllReady.cons rfl (fun K hK => ?_) AllReady.nil
                    rw [if_pos (by kernel_rfl)]
                    go_simp
                    refine hK _ _ ?_
                    clear hK K
                    refine wpAny_ready (rs := [20]) (by kernel_rfl) (by simp) ?_
                    refine AllReady.cons rfl (fun K hK => ?_) AllReady.nil
                    rw [if_pos (by kernel_rfl)]
                    go_simp
                    refine hK _ _ ?_
                    clear hK K
                    refine wpAny_done (by kernel_rfl) ?_ _
                    cases ok
                    · obtain ⟨S', q, x, hq, hx⟩ := hpost
                      have fin : LookPostP J Jx R S A c told pre LL W false w5 := ⟨S', done ++ q, x, by rw [HLs.out, List.append_assoc done q]; exact ((List.prefix_append_right_inj done).2 hq).trans (List.prefix_append _ _), by simpa [List.append_assoc] using hx⟩
                      have Fin := Lib.hid fin
                      clear fin hx hq
                      go_wp2
                      go_ret
                      first | exact ⟨false, rfl, Fin.out⟩ | exact .inl ⟨rfl, Fin.out⟩
                    · have fin : LookYesP J R S A c told (pre ++ (done ++ mP (L.drop (next + (i + 1))) need (told ++ [((a : Int), (b : Int))]) (bitsQ (jn &&& (65535 - m2))))) W w5 := by rw [← List.append_assoc]; exact Hyes.out.next hA hS hR hB ((b2.drew).alloc (b2.drew).size _) HG.out e2 e3 hpost
                      have Fin := Lib.hid fin
                      clear fin hpost
                      go_wp2
                      go_roundw
                      case rel => exact ⟨i + 1, _, by go_num, by omega, HLs.out, Fin.out⟩
                      case measure => simp [intOf]; omega
            · have hmI : ((((jn &&& m2 : Nat) : Int) == ((m2 : Nat) : Int))) = false := by
                simp only [beq_eq_false_iff_ne, ne_eq]
                omega
              have hmD : decide (((jn &&& m2 : Nat) : Int) = ((m2 : Nat) : Int)) = false := decide_eq_false (by omega)
              have hstep : LL = done ++ mP (L.drop (next + (i + 1))) (need + 1) told (bitsQ jn) := by
                have e := HL'.out
                rw [Hdrop.out, mP_cons, if_neg (fun h => hm (Hasb.out.2 h)), List.nil_append] at e
                exact e
              have hlat : ∀ X, Below wr.heap.size wr X → LookYesP J R S A c told (pre ++ done) W X := fun X hX => Hyes.out.later hh hR hB hX
              have Hstep := Lib.hid hstep
              have Hlat := Lib.hid hlat
              clear hstep hlat
              go_wp2_with fail
              go_big_region
              go_wp2
              go_roundw
              case rel => exact ⟨i + 1, done, by go_num, by omega, Hstep.out, Hlat.out _ (by first | exact b2 | exact b2.drew)⟩
              case measure => simp [intOf]; omega
end
end Go.Proofs.Ytkiobefojckocaa
/-
  THE PROGRAM's ITERATOR OVER SETS OF PAIRS ('allInPairs'): its contract, in the form that the law of the statement takes.
-/
namespace Go.Proofs.Ytkiobefojckocaa
open Go.RowKit

set_option maxHeartbeats 1000000 in
theorem allInPairs_any (n size : Int) (L : PL) (A : Option Addr) (c : Nat) (w : World) :
    Calls Try.prog 81 #[.agg #[.int .i64 n, .slice A L.length c], .int .i64 size] w fun e w' =>
      e = .returned (.func (.func 94) #[] #[.pointer (some ⟨w.heap.size + 1, 0, none⟩), .pointer (some ⟨w.heap.size, 0, none⟩)]) ∧
      w' = (w.alloc (.cells #[.int .i64 n, .slice A L.length c] 24)).alloc (.cells #[.int .i64 size] 3) := by
  go_enter Try.func81, Try.ntmps81
  go_wp2
  go_ret
  exact ⟨rfl, rfl⟩

/-- what a round is handed: a list of pairs told, in a block of the iterator's own -/
def RdP (S : Nat → Prop) (told : PL) (args : Array Value) (W : World) : Prop := ∃ A c, args = #[.slice A told.length c] ∧ World.toldP W A c told ∧ (∀ k, (Value.slice A told.length c).ownBlock = some k → S k) ∧ told.length ≤ 100
theorem RdP.stays {S : Nat → Prop} {told : PL} {args : Array Value} {A C : World} (h : RdP S told args A) (hs : Stays S A C) : RdP S told args C := by
  obtain ⟨B, c, e, ht, hk, h100⟩ := h
  exact ⟨B, c, e, toldP_kept ht fun k hb => hs.same k (own_lies ht k hb).2 (hk k hb), hk, h100⟩
theorem RdP.one {S : Nat → Prop} {told : PL} {args : Array Value} {A : World} (h : RdP S told args A) : args.size = 1 := by
  obtain ⟨B, c, e, _⟩ := h
  rw [e]; rfl
theorem people_few {n : Nat} : ∀ x, (2 ^ n - 1).testBit x = true → x < n := by
  intro x hx
  rw [Nat.testBit_two_pow_sub_one] at hx
  simpa using hx

set_option maxHeartbeats 1000000 in
set_option maxRecDepth 100000 in
theorem mat_seq {n : Nat} {L : PL} {PA : Option Addr} {pc k : Nat} (hn : n ≤ 12) (hLs : L.Pairwise plt) (hLf : FromQ n 0 L) (hcap : L.length ≤ pc) (hL66 : L.length ≤ 1048576) (h100 : k ≤ 100) {bs bp : Nat} {w0 : World}
    (hs : w0.cell? ⟨bs, 0, none⟩ = some (.int .i64 k)) (hp0 : w0.cell? ⟨bp, 0, none⟩ = some (.int .i64 n)) (hp1 : w0.cell? ⟨bp, 1, none⟩ = some (.slice PA L.length pc)) (hr : CRead w0 w0.heap.size PA (pcells L)) :
    Seq Try.prog 94 #[.pointer (some ⟨bs, 0, none⟩), .pointer (some ⟨bp, 0, none⟩)] (fun j => j = bs ∨ j = bp ∨ (L ≠ [] ∧ j < w0.heap.size ∧ ∃ off, PA = some ⟨j, off, none⟩)) RdP (mP L k [] (bitsQ (2 ^ n - 1))) w0 := by
  intro l J Jx W hW hh hY h0
  have lbs : bs < w0.heap.size := World.block_lt_of_cell? w0 _ hs
  have lbp : bp < w0.heap.size := World.block_lt_of_cell? w0 _ hp0
  have hsz := hW.size
  show Calls Try.prog 94 #[.func (.yield l) #[] #[], .pointer (some ⟨bs, 0, none⟩), .pointer (some ⟨bp, 0, none⟩)] W _
  have qs := carry hW hs lbs
  have q0 := carry hW hp0 lbp
  have q1 := carry hW hp1 lbp
  have qr := (hr.below hW (Nat.le_refl _)).more hsz
  clear hs hp0 hp1
  obtain ⟨W2, hW2⟩ : ∃ W2, (W.alloc (Obj.cells #[.func (.yield l) #[] #[]] 121)).alloc (Obj.cells #[matV bs W.heap.size bp (W.heap.size + 1)] 122) = W2 := ⟨_, rfl⟩
  have z2 : W2.heap.size = W.heap.size + 2 := by rw [← hW2]; simp
  have b2 : Below W.heap.size W W2 := by rw [← hW2]; go_grown
  have y2 : W2.cell? ⟨W.heap.size, 0, none⟩ = some (.func (.yield l) #[] #[]) := by rw [← hW2]; exact (World.cell?_alloc_lt _ _ _ (by simp)).trans (by simp)
  have k2 : W2.cell? ⟨W.heap.size + 1, 0, none⟩ = some (matV bs W.heap.size bp (W.heap.size + 1)) := by
    rw [← hW2]
    have := heap_alloc_new (W.alloc (Obj.cells #[.func (.yield l) #[] #[]] 121)) (Obj.cells #[matV bs W.heap.size bp (W.heap.size + 1)] 122)
    rw [World.size_alloc] at this
    rw [cell_of_row _ _ _ _ _ _ this]
    rfl
  have p2 := carry b2 q0 (by omega)
  have at2 : MatAt W2.drew l k L PA pc bs W.heap.size bp (W.heap.size + 1) := ⟨show W2.cell? ⟨bs, 0, none⟩ = _ from carry b2 qs (by show bs < W.heap.size; omega), y2, k2, show W2.cell? ⟨bp, 1, none⟩ = _ from carry b2 q1 (by show bp < W.heap.size; omega), (qr.below b2 (Nat.le_refl _)).more b2.size⟩
  have hJ2 : J (fun j => j = W.heap.size ∨ j = W.heap.size + 1) [] W2.drew := hh _ _ _ _ _ h0 (Apart.of_below b2.drew) (fun j hj => .inr (by show W.heap.size ≤ j ∧ j < W2.heap.size; omega))
  have hpab : L ≠ [] → ∀ b off, PA = some ⟨b, off, none⟩ → (b = bs ∨ b = bp ∨ (L ≠ [] ∧ b < w0.heap.size ∧ ∃ off, PA = some ⟨b, off, none⟩)) ∨ b = W.heap.size ∨ b = W.heap.size + 1 := by
    intro hne b off e
    obtain ⟨q, hq⟩ := getSome L 0 (by cases L with | nil => exact absurd rfl hne | cons x l => simp)
    obtain ⟨b', off', e', hb', _⟩ := hr.pair (k := 0) (x := q.1) (y := q.2) hq
    rw [e] at e'
    simp only [Option.some.injEq, Addr.mk.injEq, and_true] at e'
    exact .inl (.inr (.inr ⟨hne, by omega, off, e⟩))
  have call := mat_any (Good := fun q => q <+: mP L k [] (bitsQ (2 ^ n - 1))) (J := fun S pre X => J (fun j => S j ∨ j = W.heap.size ∨ j = W.heap.size + 1) pre X) (Jx := fun S pre X => Jx (fun j => S j ∨ j = W.heap.size ∨ j = W.heap.size + 1) pre X)
    (R := fun j => (j = bs ∨ j = bp ∨ (L ≠ [] ∧ j < w0.heap.size ∧ ∃ off, PA = some ⟨j, off, none⟩)) ∨ j = W.heap.size ∨ j = W.heap.size + 1) (B := W.heap.size + 2) (l := l) (n := n) (size := k) (L := L) (PA := PA) (pc := pc) (bs := bs) (yb := W.heap.size) (bp := bp) (bl := W.heap.size + 1)
    (fun j hj => by rcases hj with (h | h | h) | h; all_goals omega)
    (fun S pre told A c W1 hj htold hk h100 hgd => by
      refine YieldAt.mono (hY _ pre told _ W1 hj ⟨A, c, rfl, htold, fun k hb => .inl (hk k hb), h100⟩ hgd) fun e W' h => ?_
      rcases h with ⟨he, hj', hst⟩ | h
      · exact .inl ⟨he, hj', hst.mono fun j hj => by rcases hj with h | h | h; exact .inl (.inl h); exact .inr h; exact .inl (.inr h)⟩
      · exact .inr h)
    (fun S S' pre A C hj hap hS => hh _ _ _ _ _ hj (hap.mono fun j h => .inl h) (fun j h => by
      rcases h with h | h
      · exact (hS j h).imp .inl id
      · exact .inl (.inr h)))
    (.inl (.inl rfl)) (.inr (.inl rfl)) (.inr (.inr rfl)) (.inl (.inr (.inl rfl))) hpab hn hLs hLf hcap hL66 k [] 0 (2 ^ n - 1) none 0 (fun _ => False) [] W2.drew
    (by simp) (by simpa using h100) (Nat.zero_le _) (fun q hq => hq) people_few (by show W.heap.size + 2 ≤ W2.heap.size; omega) at2 (hh _ _ _ _ _ hJ2 (Apart.refl _ _) (fun j hj => by rcases hj with h | h; exact h.elim; exact .inl h)) (World.ownsRow_nil _ _ _ _) (fun k hk => by simp [Value.ownBlock] at hk) (fun j h => h.elim)
  rw [List.drop_zero] at call
  have Call := Lib.hid call
  have HW2 := Lib.hid hW2
  have evr := everybody_any n hn
  have Evr := Lib.hid evr
  clear call hW2 at2 hJ2 y2 q1 qs hY hh
  go_enter Try.func94, Try.ntmps94
  go_wp2_with fail
  rw [HW2.out]
  go_region_law (first
    | (go_simp; go_at_call 97; refine (Evr.out _).mono ?_; rintro e w3 ⟨rfl, rfl⟩)
    | (go_simp; refine Call.out.mono ?_; rintro e W3 ⟨ok, rfl, hpost⟩)
    | fail)
  all_goals
    go_wp2
    go_end0
    refine ⟨⟨_, rfl⟩, ?_⟩
    cases ok
    · obtain ⟨S', q, x, hq, hx⟩ := hpost
      exact .inr ⟨_, q, x, hq, hx⟩
    · obtain ⟨S', hj, _⟩ := hpost.ex
      exact .inl ⟨_, hj⟩
end Go.Proofs.Ytkiobefojckocaa
/-
  PAIRINGS: how many there are, by the program ('CountPairings'), by its contract.
-/
namespace Go.Proofs.Ytkiobefojckocaa
open Go.RowKit Go.Shelf
attribute [local go_sem] Oper.semAt_some

theorem seq_wider {α : Type} {P : Program} {g : Nat} {lb : Array Value} {R R' : Nat → Prop} {Rd : (Nat → Prop) → α → Array Value → World → Prop} {xs : List α} {w0 : World} (h : Seq P g lb R Rd xs w0) (hR : ∀ j, R j → R' j) : Seq P g lb R' Rd xs w0 :=
  fun l J Jx W hW hh hY h0 => h l J Jx W hW hh (fun T pre x args W1 hJ hrd hpx => YieldAt.mono (hY T pre x args W1 hJ hrd hpx) fun _ _ hp =>
    hp.elim (fun ⟨he, hj, hs⟩ => .inl ⟨he, hj, hs.mono fun j hj => hj.elim .inl fun hr => .inr (hR j hr)⟩) .inr) h0

/-- A range over an iterator of one value, its variable not used elsewhere. -/
theorem wp_range_one {P : Program} {α : Type} {g : Operand} {p : Tmp} {body : Code} {Q : Exit → Act → World → Prop} {a : Act} {w : World} {gf : Nat} {lb : Array Value} (hg : a.eval g = .func (.func gf) #[] lb)
    (eg : ∀ args w, (callFunc gf args).run P w = .ok (.enter gf args) w) {R : Nat → Prop} {Rd : (Nat → Prop) → α → Array Value → World → Prop} {xs : List α} (hseq : Seq P gf lb R Rd xs w) (hR : ∀ j, R j → j < w.heap.size)
    (hRd : ∀ T x args A C, Rd T x args A → Stays T A C → Rd T x args C) (hps : ∀ T x args W, Rd T x args W → args.size = 1)
    (I : (Nat → Prop) → List α → World → Prop) (Ix : Code → List α → World → Prop) (hI : Held I) (hIx : ∀ c pre A C, Ix c pre A → Apart (fun j => j = w.heap.size + 1) A C → Ix c pre C) (h0 : I (fun _ => False) [] w)
    (hbody : ∀ (l : Nat) (T S : Nat → Prop) (pre : List α) (x : α) (v : Value) (W : World), I S pre W → Rd T x #[v] W → (∀ j, T j → S j) →
      body.wpIn (Fence.wide.inRound l) 3 P (iterPost w.heap.size S R I Ix (pre ++ [x]) W) { tmps := a.tmps.setIfInBounds p v, defers := [] } W)
    (hdone : ∀ (S : Nat → Prop) (W : World), I S xs W → W.heap[w.heap.size]? = some (.deferred (some [])) → Q .normal { a with defers := { target := .collected w.heap.size, args := #[] } :: a.defers } W)
    (hstop : ∀ (c : Code) (pre : List α) (x : α) (W : World), pre ++ [x] <+: xs → Ix c (pre ++ [x]) W → W.heap[w.heap.size]? = some (.deferred (some [])) → c.wp P Q { a with defers := { target := .collected w.heap.size, args := #[] } :: a.defers } W) :
    (Code.rangeFunc g #[p] Code.skip body).wp P Q a w := by
  refine (wpIn_wide (n := 3)).1 ?_
  have hone : ∀ args : Array Value, args.size = 1 → ∃ v, args = #[v] := fun args h => by
    obtain ⟨l⟩ := args
    match l, h with
    | [v], _ => exact ⟨v, rfl⟩
  refine wpIn_rangeFunc_iter hg eg hseq (Below.refl _ _) hR hRd (fun T x args W h => hps T x args W h) I Ix hI hIx h0 (fun args => { tmps := a.tmps.setIfInBounds p (args[0]?.getD undef), defers := [] }) ?_ ?_ hdone (fun c pre x W h1 h2 h3 => (wpIn_wide (n := 3)).2 (hstop c pre x W h1 h2 h3))
  · intro l T x args W K hrd hK
    obtain ⟨v, rfl⟩ := hone args (hps T x args W hrd)
    refine wpIn_skip ?_
    change K _ W
    simpa using hK
  · intro l T S pre x args W hi hrd hTS
    obtain ⟨v, rfl⟩ := hone args (hps T x args W hrd)
    exact hbody l T S pre x v W hi hrd hTS


theorem dP_len {t : Nat → Nat → Bool} {n : Nat} (hn : n ≤ 12) : ∀ (f : Nat) (told : PL) (S : Nat → Bool), (dP t n f told S).length ≤ 12 ^ f := by
  intro f
  induction f with
  | zero =>
    intro told S
    unfold dP
    repeat' split
    all_goals simp
  | succ f ih =>
    intro told S
    cases h : leastQ n S with
    | none =>
      have : (dP t n (f + 1) told S).length ≤ 1 := by
        unfold dP
        rw [h]
        simp
      have h1 : 0 < 12 ^ (f + 1) := Nat.pow_pos (by omega)
      omega
    | some a =>
      rw [dP_some h, List.length_flatMap]
      have hsum : ∀ (xs : List Nat), (xs.map fun (b : Nat) => (dP t n f (told ++ [((a : Int), (b : Int))]) (cutQ S ((a : Int), (b : Int)))).length).sum ≤ xs.length * 12 ^ f := by
        intro xs
        induction xs with
        | nil => simp
        | cons x xs ihx =>
          simp only [List.map_cons, List.sum_cons, List.length_cons]
          have := ih (told ++ [((a : Int), (x : Int))]) (cutQ S ((a : Int), (x : Int)))
          rw [Nat.succ_mul]
          omega
      refine Nat.le_trans (hsum _) ?_
      have hlen : ((List.range n).filter fun b => decide (a < b) && t a b && S b).length ≤ 12 := Nat.le_trans (List.length_filter_le _ _) (by simp; omega)
      rw [Nat.pow_succ, Nat.mul_comm]
      exact Nat.mul_le_mul_left _ hlen
/-- the program's lists of pairings -/
def pairsK (n : Nat) : Nat := (n + 1) / 2
def pairQ (n : Nat) (l : PL) : List PL := mP l (pairsK n) [] (bitsQ (2 ^ n - 1))
/-- the same, as the model takes them -/
def pairD (n : Nat) (l : PL) : List PL := dP (adj l) n n [] (bitsQ (2 ^ n - 1))
def resCountPairings (p : Int) (l : PL) : Int × Bool := if isP p l then (((pairQ p.toNat l).length : Int), true) else (0, false)
theorem people_bitsQ {n : Nat} {x : Nat} (hx : x < n) : bitsQ (2 ^ n - 1) x = true := by
  unfold bitsQ
  rw [Nat.testBit_two_pow_sub_one]
  simpa using hx
theorem cntQ_people (n : Nat) : cntQ n (bitsQ (2 ^ n - 1)) 0 = n := by
  unfold cntQ
  have h : ∀ m, m ≤ n → (List.range m).countP (fun x => decide (0 ≤ x) && bitsQ (2 ^ n - 1) x) = m := by
    intro m hm
    rw [List.countP_eq_length.2, List.length_range]
    intro x hx
    rw [List.mem_range] at hx
    rw [people_bitsQ (by omega)]
    simp
  exact h n (Nat.le_refl _)
/-- both ways tell the same pairings -/
theorem pairs_sorted {n : Nat} {l : PL} (h : isP n l = true) : l.Pairwise plt := (isP_list h).2.2.2
theorem pairs_from {n : Nat} {l : PL} (h : isP n l = true) : FromQ n 0 l := fun q hq => by
  have := (isP_list h).2.2.1 q hq
  omega
theorem pairs_all {n : Nat} {l : PL} (h : isP n l = true) (S : Nat → Bool) : AllQ n (adj l) S l := by
  intro x y hxy hy _ _
  unfold adj
  rw [Bool.or_eq_true, List.contains_iff_mem, List.contains_iff_mem]
  constructor
  · rintro (h1 | h1)
    · exact h1
    · have := pairs_from h _ h1
      simp only at this
      omega
  · exact fun h1 => .inl h1
theorem pairD_pairQ {n : Nat} {l : PL} (h : isP n l = true) : pairD n l = pairQ n l := by
  have hs := pairs_sorted h
  have hf := pairs_from h
  have ha := pairs_all h (bitsQ (2 ^ n - 1))
  unfold pairD pairQ pairsK
  have hc := cntQ_people n
  rcases Nat.mod_two_eq_zero_or_one n with h2 | h2
  · have e : (n + 1) / 2 = n / 2 := by omega
    rw [e]
    exact dP_mP (n / 2) n [] _ l (by omega) (by omega) hs hf ha
  · rw [dP_odd _ _ _ _ _ (by rw [hc]; exact h2)]
    rw [mP_need (n := n) (a := 0) l _ _ _ (by simpa using hf) (by rw [hc]; omega)]
theorem pairs_got {n k : Nat} {L : PL} {PA : Option Addr} {pc : Nat} (hn : n ≤ 12) (hLs : L.Pairwise plt) (hLf : FromQ n 0 L) (hcap : L.length ≤ pc) (hL66 : L.length ≤ 1048576) (h100 : k ≤ 100) (w : World) (hr : CRead w w.heap.size PA (pcells L)) :
    Calls Try.prog 81 #[.agg #[.int .i64 n, .slice PA L.length pc], .int .i64 k] w fun e w1 =>
      ∃ lb, e = .returned (.func (.func 94) #[] lb) ∧ Below w.heap.size w w1 ∧ Seq Try.prog 94 lb (fun j => (L ≠ [] ∧ ∃ off, PA = some ⟨j, off, none⟩) ∨ w.heap.size ≤ j ∧ j < w1.heap.size) RdP (mP L k [] (bitsQ (2 ^ n - 1))) w1 := by
  refine (allInPairs_any n k L PA pc w).mono ?_
  rintro e w1 ⟨rfl, rfl⟩
  have hb : Below w.heap.size w ((w.alloc (.cells #[.int .i64 n, .slice PA L.length pc] 24)).alloc (.cells #[.int .i64 k] 3)) := by go_grown
  have h1 := heap_alloc_new w (.cells #[.int .i64 n, .slice PA L.length pc] 24)
  have h2 := heap_alloc_new (w.alloc (.cells #[.int .i64 n, .slice PA L.length pc] 24)) (.cells #[.int .i64 k] 3)
  simp only [World.size_alloc] at h2
  refine ⟨_, rfl, hb, (seq_wider (mat_seq hn hLs hLf hcap hL66 h100 (w0 := _) (bs := w.heap.size + 1) (bp := w.heap.size) ?_ ?_ ?_ ((hr.below hb (Nat.le_refl _)).more hb.size)) ?_)⟩
  · rw [cell_of_row _ _ _ _ _ _ h2]; rfl
  · refine (World.cell?_alloc_lt _ _ _ (by simp)).trans ?_
    rw [cell_of_row _ _ _ _ _ _ h1]; rfl
  · refine (World.cell?_alloc_lt _ _ _ (by simp)).trans ?_
    rw [cell_of_row _ _ _ _ _ _ h1]; rfl
  · intro j hj
    simp only [World.size_alloc]
    rcases hj with h | h | ⟨h1, _, h3⟩
    · right; omega
    · right; omega
    · exact .inl ⟨h1, h3⟩
theorem pairsForAll_any (n : Nat) (hn : n ≤ 12) (A : Option Addr) (m c : Nat) (w : World) : Calls Try.prog 56 #[.agg #[.int .i64 n, .slice A m c]] w fun e w' => e = .returned (.int .i64 ((pairsK n : Nat) : Int)) ∧ Below w.heap.size w w' := by
  have h : ((n : Int) + 1).tdiv 2 = ((pairsK n : Nat) : Int) := by
    unfold pairsK
    rw [Int.tdiv_eq_ediv_of_nonneg (by omega)]
    omega
  have h2 : ((n : Int) + 1) / 2 = ((pairsK n : Nat) : Int) := by unfold pairsK; omega
  obtain ⟨v, hv⟩ : ∃ v, ((pairsK n : Nat) : Int) = v := ⟨_, rfl⟩
  rw [hv] at h h2 ⊢
  clear hv
  go_enter Try.func56, Try.ntmps56
  go_wp2
  go_ret
  exact ⟨by rw [← h2]; rfl, by go_grown⟩
end Go.Proofs.Ytkiobefojckocaa
/-
  slices.Clone of pairs and of numbers, by its contracts, at every address.
-/
namespace Go.Proofs.Ytkiobefojckocaa
open Go.RowKit

theorem read_add_P {w : World} {B : Nat} {a : Addr} {l : PL} (h : CRead w B (some a) (pcells l)) : ∀ j u, (pcells l)[j]? = some u → w.cell? (a.add j) = some u := by
  intro j u hj
  obtain ⟨b, off, e, _, hc⟩ := h j u hj
  simp only [Option.some.injEq] at e
  subst e
  rw [Go.WideShapes.add_plain]
  exact hc
set_option maxHeartbeats 1000000 in
set_option maxRecDepth 100000 in
theorem cloneP_any (l : PL) (A : Option Addr) (c : Nat) (w : World) (hl : l.length ≤ 1048576) (hA : CRead w w.heap.size A (pcells l)) :
    Calls Try.prog 82 #[.slice A l.length c] w fun e w' => ∃ A' c', e = .returned (.slice A' l.length c') ∧ w'.ownsRow w.heap.size 76 2 (.slice A' l.length c') l.length (pcells l) ∧ Below w.heap.size w w' := by
  obtain ⟨i0, hi, hz0, hz1, hz2⟩ := info_parts Try.infoPair
  have q22 : ∀ (w : World) (a : Option Addr) (n c n' c' : Nat), (binOp .eql 22 (.slice a n c) (.slice none n' c')).run Try.prog w = .ok (.bool a.isNone) w := fun w a n c n' c' => Lib.run_eql_slice_nil w _ _ a n c n' c' Try.underlying22
  have u22 : ∀ w, Sem.run Try.prog (underlying 22) w = .ok (TypeDesc.slice 76) w := run_underlying Try.underlying22
  cases A with
  | none =>
    have hq : l = [] := by
      cases l with
      | nil => rfl
      | cons x l =>
        obtain ⟨b, off, e, _⟩ := hA 0 _ (by simp [pcells]; rfl)
        cases e
    subst hq
    go_enter Try.func82, Try.ntmps82
    go_wp2
    go_ret
    exact ⟨none, 0, rfl, World.ownsRow_nil _ _ _ _, Below.refl _ _⟩
  | some a =>
    have hc := read_add_P hA
    have H : Aside (∀ j u, (pcells l)[j]? = some u → w.cell? (a.add j) = some u) := hc
    clear hc hA
    go_enter Try.func82, Try.ntmps82
    go_wp2_with (at_builtin; refine wpList_append_own _ rfl _ _ 22 rfl w.heap.size 76 i0 (.agg #[.int .i64 0, .int .i64 0]) 2 16 Try.underlying22 hi hz0 hz1 hz2 rfl (by decide) _ _ _ rfl (World.ownsRow_made w #[] 0 (Nat.le_refl _) (Nat.zero_le _) rfl) a l.length c (pcells l) rfl ?qc1 ?qc2 ?qc3 ?qc4 ?qc5 ?qc6 ?_)
    case qc1 => exact pcells_length l
    case qc2 =>
      intro j u hj
      exact Lib.cell?_alloc_some _ (H.out j u hj)
    case qc3 => exact pcells_one l
    case qc4 => unfold maxLen; omega
    case qc5 => omega
    case qc6 => simp
    intro v' w1 hown hgrow _

    obtain ⟨A1, c1, rfl, _⟩ := own_shape hown
    go_wp2
    go_ret
    exact ⟨A1, c1, rfl, hown, ((Below.refl _ w).alloc (Nat.le_refl _) _).grown hgrow (by simp) (by intro k hk; simp [Value.ownBlock] at hk; omega)⟩

theorem read_add_I {w : World} {B : Nat} {a : Addr} {l : List Int} (h : CRead w B (some a) (icells l)) : ∀ j u, (icells l)[j]? = some u → w.cell? (a.add j) = some u := by
  intro j u hj
  obtain ⟨b, off, e, _, hc⟩ := h j u hj
  simp only [Option.some.injEq] at e
  subst e
  rw [Go.WideShapes.add_plain]
  exact hc
set_option maxHeartbeats 1000000 in
set_option maxRecDepth 100000 in
theorem cloneI_any (l : List Int) (A : Option Addr) (c : Nat) (w : World) (hl : l.length ≤ 1048576) (hA : CRead w w.heap.size A (icells l)) :
    Calls Try.prog 91 #[.slice A l.length c] w fun e w' => ∃ A' c', e = .returned (.slice A' l.length c') ∧ w'.ownsRow w.heap.size 3 1 (.slice A' l.length c') l.length (icells l) ∧ Below w.heap.size w w' := by
  obtain ⟨i0, hi, hz0, hz1, hz2⟩ := info_parts Try.infoInt
  have q22 : ∀ (w : World) (a : Option Addr) (n c n' c' : Nat), (binOp .eql 70 (.slice a n c) (.slice none n' c')).run Try.prog w = .ok (.bool a.isNone) w := fun w a n c n' c' => Lib.run_eql_slice_nil w _ _ a n c n' c' Try.underlying70
  have u22 : ∀ w, Sem.run Try.prog (underlying 70) w = .ok (TypeDesc.slice 3) w := run_underlying Try.underlying70
  cases A with
  | none =>
    have hq : l = [] := by
      cases l with
      | nil => rfl
      | cons x l =>
        obtain ⟨b, off, e, _⟩ := hA 0 _ (by simp [icells]; rfl)
        cases e
    subst hq
    go_enter Try.func91, Try.ntmps91
    go_wp2
    go_ret
    exact ⟨none, 0, rfl, World.ownsRow_nil _ _ _ _, Below.refl _ _⟩
  | some a =>
    have hc := read_add_I hA
    have H : Aside (∀ j u, (icells l)[j]? = some u → w.cell? (a.add j) = some u) := hc
    clear hc hA
    go_enter Try.func91, Try.ntmps91
    go_wp2_with (at_builtin; refine wpList_append_own _ rfl _ _ 70 rfl w.heap.size 3 i0 (.int .i64 0) 1 8 Try.underlying70 hi hz0 hz1 hz2 rfl (by decide) _ _ _ rfl (World.ownsRow_made w #[] 0 (Nat.le_refl _) (Nat.zero_le _) rfl) a l.length c (icells l) rfl ?qc1 ?qc2 ?qc3 ?qc4 ?qc5 ?qc6 ?_)
    case qc1 => rw [icells_length, Nat.mul_one]
    case qc2 =>
      intro j u hj
      exact Lib.cell?_alloc_some _ (H.out j u hj)
    case qc3 => exact icells_one l
    case qc4 => unfold maxLen; omega
    case qc5 => omega
    case qc6 => simp
    intro v' w1 hown hgrow _

    obtain ⟨A1, c1, rfl, _⟩ := own_shape hown
    go_wp2
    go_ret
    exact ⟨A1, c1, rfl, hown, ((Below.refl _ w).alloc (Nat.le_refl _) _).grown hgrow (by simp) (by intro k hk; simp [Value.ownBlock] at hk; omega)⟩
end Go.Proofs.Ytkiobefojckocaa
