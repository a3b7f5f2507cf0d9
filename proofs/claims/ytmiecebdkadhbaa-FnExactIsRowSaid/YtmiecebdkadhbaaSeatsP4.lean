/-
  Texts put together for the claims of 'Seats' (pack 4): PairsOf, OtherP, Friends, GroupS, TrG, CountG, Threes, ThreesAt, NameP, Are, ExchP, Shelf, ContI, Diff, DistP, SeatP.
-/
import Derived.Test.YtmiecebdkadhbaaSeatsP1
import Derived.Test.YtmiecebdkadhbaaSeatsP2
import Derived.Test.YtmiecebdkadhbaaSeatsP3
import Derived.Deep.RegionHeld3
import Derived.Deep.RegionWith
import Derived.Shelf.SlicesE.Clone
import Derived.Shelf.SlicesG.SearchI
import Derived.Shelf.SlicesG.Turned
import Derived.Shelf.SlGeneric
import Derived.Ground.SlgnProg
import Derived.Test.YtmiecebdkadhbaaProg
/-
  'impl.pairsOf': the pairs of the meetings that are taken, by its contracts: for friends and for strangers.
-/
namespace Go.Proofs.Ytmiecebdkadhbaa
open Go.RowKit

def taken (f : Bool → Bool) (l : ML) : PL := (l.filter fun m => f m.2.2).map fun m => (m.1, m.2.1)
theorem taken_le (f : Bool → Bool) (l : ML) : (taken f l).length ≤ l.length := by unfold taken; rw [List.length_map]; exact List.length_filter_le _ _
theorem taken_snoc (f : Bool → Bool) (l : ML) (x y : Int) (b : Bool) : taken f (l ++ [(x, y, b)]) = taken f l ++ if f b = true then [(x, y)] else [] := by
  unfold taken
  rw [List.filter_append, List.map_append]
  congr 1
  by_cases h : f b = true
  · rw [if_pos h, List.filter_cons_of_pos (by exact h)]; rfl
  · rw [if_neg h, List.filter_cons_of_neg (by exact h)]; rfl
theorem taken_meets (f : Bool → Bool) (l qs : PL) : taken f (meets l qs) = qs.filter fun q => f (l.contains q) := by
  unfold taken meets
  rw [List.filter_map, List.map_map]
  have e : ((fun m : Int × Int × Bool => (m.1, m.2.1)) ∘ fun q : Int × Int => (q.1, q.2, l.contains q)) = id := rfl
  rw [e, List.map_id]
  rfl

set_option maxHeartbeats 400000 in
theorem ofStrangers_any (x y : Int) (f : Bool) (w : World) : Calls Try.prog 109 #[.agg #[.int .i64 x, .int .i64 y, .bool f]] w fun e w' => e = .returned (.bool (!f)) ∧ Below w.heap.size w w' := by
  go_enter Try.func109, Try.ntmps109
  go_wp2
  go_ret
  exact ⟨by simp, by go_grown⟩

set_option maxHeartbeats 2000000 in
set_option maxRecDepth 100000 in
theorem pairsOf_ofStrangers_any (l : ML) (A : Option Addr) (c : Nat) (w : World) (hl : l.length ≤ 1000) (hA : CRead w w.heap.size A (mcells l)) :
    Calls Try.prog 107 #[.slice A l.length c, .func (.func 109) #[] #[]] w fun e w' => ∃ A' c', e = .returned (.slice A' (taken (fun b => !b) l).length c') ∧
      w'.ownsRow w.heap.size 95 2 (.slice A' (taken (fun b => !b) l).length c') (taken (fun b => !b) l).length (pcells (taken (fun b => !b) l)) ∧ Below w.heap.size w w' := by
  obtain ⟨i0, hi, hz0, hz1, hz2⟩ := info_parts Try.infoPair
  go_enter Try.func107, Try.ntmps107
  go_wp2
  go_loopw [5, 10] (fun v i wr => ∃ k : Nat, k ≤ l.length ∧ i = .int .i64 k ∧ wr.ownsRow w.heap.size 95 2 v (taken (fun b => !b) (l.take k)).length (pcells (taken (fun b => !b) (l.take k))) ∧ Below w.heap.size w wr) (fun _ i _ => l.length - (intOf i).toNat)
  case atStart => exact ⟨0, Nat.zero_le _, rfl, World.ownsRow_nil _ _ _ _, Below.refl _ _⟩
  case round =>
    obtain ⟨k, hk, rfl, hown, hb⟩ := hrel
    have hs := hb.size
    by_cases hlt : k < l.length
    · obtain ⟨⟨x, y, f⟩, hx⟩ := getSome l k hlt
      obtain ⟨bb, off, rfl, hbb, c0, c1, c2⟩ := (hA.below hb (Nat.le_refl _)).meet hx
      have hki : (k : Int) < (l.length : Int) := by omega
      have htl := taken_le (fun b => !b) (l.take k)
      have htl2 : (l.take k).length ≤ 1000 := Nat.le_trans (List.length_take_le' _ _) hl
      have hsn := taken_snoc (fun b => !b) (l.take k) x y f
      have Hx := Lib.hid hx
      have Hsn := Lib.hid hsn
      clear hx hsn
      cases hf : !f with
      | false =>
        have Hf := Lib.hid hf
        clear hf
        go_wp2_with fail
        refine (ofStrangers_any x y f _).mono ?_
        rw [Hf.out]
        rintro e w2 ⟨rfl, hb2⟩
        simp only [World.size_alloc] at hb2
        have k2 : Below wr.heap.size wr w2 := Below.trans (b := _) (by go_grown) (hb2.mono (by omega))
        go_wp2
        go_roundw
        case rel =>
          refine ⟨k + 1, by omega, by go_num, ?_, hb.trans (k2.mono hs)⟩
          rw [List.take_add_one, Hx.out, Option.toList_some, Hsn.out, Hf.out]
          simp only [Bool.false_eq_true, if_false, List.append_nil]
          exact own_below hown k2 (Nat.le_refl _)
        case measure => simp [intOf]; omega
      | true =>
        have Hf := Lib.hid hf
        clear hf
        go_wp2_with fail
        refine (ofStrangers_any x y f _).mono ?_
        rw [Hf.out]
        rintro e w2 ⟨rfl, hb2⟩
        simp only [World.size_alloc] at hb2
        have k2 : Below wr.heap.size wr w2 := Below.trans (b := _) (by go_grown) (hb2.mono (by omega))
        have d0 : w2.cell? ⟨wr.heap.size, 0, none⟩ = some (.int .i64 x) := carry hb2 (by simp) (by omega)
        have d1 : w2.cell? ⟨wr.heap.size, 1, none⟩ = some (.int .i64 y) := carry hb2 (by simp) (by omega)
        have own2 := own_below hown k2 (Nat.le_refl _)
        have s2 := k2.size
        clear hown c0 c1 c2
        go_wp2_with (at_builtin; refine wpList_append_own _ rfl _ _ 29 rfl w.heap.size 95 i0 _ 2 16 Try.underlying29 hi hz0 hz1 hz2 rfl (by decide) _ _ _ rfl (own2.alloc _) ⟨w2.heap.size, 0, none⟩ 1 1 [.int .i64 x, .int .i64 y] rfl rfl (two_cells (by simp) (by simp)) (two_one rfl rfl) (by unfold maxLen; omega) (by omega) (by simp; omega) ?_; intro v1 w3 hown3 hg3 _; obtain ⟨A1, d1', rfl, _⟩ := own_shape hown3)
        go_roundw
        case rel =>
          refine ⟨k + 1, by omega, by go_num, ?_, ?_⟩
          · rw [List.take_add_one, Hx.out, Option.toList_some, Hsn.out, Hf.out]
            simp only [if_true]
            rw [pcells_append, List.length_append]
            exact hown3
          · exact ((hb.trans (k2.mono hs)).alloc (by omega) _).grown hg3 (by simp; omega) (fun k hk => (own2.lt k hk).1)
        case measure => simp [intOf]; omega
    · have hkl : k = l.length := by omega
      subst hkl
      have hge : ¬ ((l.length : Int) < l.length) := by omega
      rw [List.take_length] at hown
      obtain ⟨A', c', rfl, _⟩ := own_shape hown
      have Hown := Lib.hid hown
      clear hown
      go_wp2
      go_ret
      exact ⟨A', c', rfl, Hown.out, hb⟩
end Go.Proofs.Ytmiecebdkadhbaa
/-
  'OtherParty' and 'FullParty': the model's and the program's, by their contracts.
-/
namespace Go.Proofs.Ytmiecebdkadhbaa
open Go.RowKit

set_option maxHeartbeats 2000000 in
set_option maxRecDepth 100000 in
theorem other_any (p : Int) (l : PL) (A : Option Addr) (c : Nat) (w : World) (hp : isP p l = true) (hA : CRead w w.heap.size A (pcells l)) :
    Calls Try.prog 84 #[.agg #[.int .i64 p, .slice A l.length c]] w (GotParty w p (otherP p.toNat l)) := by
  have hn := isP_range hp
  have hml : (meets l (allP p.toNat)).length ≤ 1000 := by rw [meets_length]; have := allP_length_le (n := p.toNat) (by omega); omega
  have hrl : (otherP p.toNat l).length ≤ 66 := filter_length_le (by omega) _
  have htk : taken (fun b => !b) (meets l (allP p.toNat)) = otherP p.toNat l := taken_meets _ _ _
  have Htk := Lib.hid htk
  have Hp := Lib.hid hp
  clear hp htk
  go_enter Try.func84, Try.ntmps84
  go_wp2
  generalize hW : (w.alloc (Obj.cells #[.int .i64 p, .slice A l.length c] 31)).alloc (Obj.cells #[.int .i64 0, .slice none 0 0] 31) = W
  have a0 : W.cell? ⟨w.heap.size, 0, none⟩ = some (.int .i64 p) := by rw [← hW]; simp
  have a1 : W.cell? ⟨w.heap.size, 1, none⟩ = some (.slice A l.length c) := by rw [← hW]; simp
  have x0 : W.cell? ⟨w.heap.size + 1, 0, none⟩ = some (.int .i64 0) := by rw [← hW]; simp
  have x1 : W.cell? ⟨w.heap.size + 1, 1, none⟩ = some (.slice none 0 0) := by rw [← hW]; simp
  have z0 : W.frozen? ⟨w.heap.size + 1, 0, none⟩ = false := by rw [← hW]; simp
  have z1 : W.frozen? ⟨w.heap.size + 1, 1, none⟩ = false := by rw [← hW]; simp
  have kW : Below w.heap.size w W := by rw [← hW]; go_grown
  have sW : w.heap.size + 1 < W.heap.size := by rw [← hW]; simp
  clear hW
  go_region_held3 (fun w' => w'.cell? ⟨w.heap.size, 0, none⟩ = some (.int .i64 p) ∧ w'.cell? ⟨w.heap.size, 1, none⟩ = some (.slice A l.length c)) (first | exact ⟨a0, a1⟩ | exact ⟨b0, b1⟩ | exact ⟨d0, d1⟩ | exact ⟨(World.cell?_setCell_other _ _ _ _ (by simp)).trans ((World.cell?_setCell_other _ _ _ _ (by simp)).trans d0), (World.cell?_setCell_other _ _ _ _ (by simp)).trans ((World.cell?_setCell_other _ _ _ _ (by simp)).trans d1)⟩) ((first
    | (go_at_call 108; refine (meetingsOf_any p l A c _ Hp.out ((hA.below kW.drew (Nat.le_refl _)).more kW.size)).mono ?_; rintro e w1 ⟨A1, c1, rfl, own1, hb1⟩; have g1 : Below W.heap.size W w1 := (Below.refl _ _).drew.trans hb1; have b0 := carry g1 a0 (by omega); have b1 := carry g1 a1 (by omega); have y0 := carry g1 x0 (by omega); have y1 := carry g1 x1 (by omega); have y2 := (g1.frozen (p := ⟨w.heap.size + 1, 0, none⟩) (by simp; omega)).trans z0; have y3 := (g1.frozen (p := ⟨w.heap.size + 1, 1, none⟩) (by simp; omega)).trans z1; have s1 := g1.size)
    | (go_at_call 107; refine (pairsOf_ofStrangers_any (meets l (allP p.toNat)) A1 c1 _ hml (CRead.of_own own1)).mono ?_; rw [Htk.out]; rintro e w2 ⟨A2, c2, rfl, own2, hb2⟩; have d0 := carry hb2 b0 (by omega); have d1 := carry hb2 b1 (by omega); have v0 := carry hb2 y0 (by omega); have v1 := carry hb2 y1 (by omega); have v2 := (hb2.frozen (p := ⟨w.heap.size + 1, 0, none⟩) (by simp; omega)).trans y2; have v3 := (hb2.frozen (p := ⟨w.heap.size + 1, 1, none⟩) (by simp; omega)).trans y3; have s2 := hb2.size)
    | skip))
  go_wp2
  refine bodyPost_ret (v := .agg #[.int .i64 p, .slice A2 (otherP p.toNat l).length c2]) (by simp [results, Try.results84, go_sem, v0, v1]) rfl ?_
  exact ⟨A2, c2, rfl, own_lower (ownsRow_setCell_below (ownsRow_setCell_below own2 (a := ⟨w.heap.size + 1, 0, none⟩) (by simp; omega) _) (a := ⟨w.heap.size + 1, 1, none⟩) (by simp; omega) _) (by omega),
    ((kW.trans ((g1.trans (hb2.mono s1)).mono kW.size)).setCell (p := ⟨w.heap.size + 1, 0, none⟩) (by simp) _).setCell (p := ⟨w.heap.size + 1, 1, none⟩) (by simp) _⟩

def resOtherParty (p : Int) (l : PL) : Int × PL × Bool := if isP p l then (p, otherP p.toNat l, true) else (0, [], false)
theorem resOtherParty_len (p : Int) (l : PL) : (resOtherParty p l).2.1.length ≤ 1048576 := by
  unfold resOtherParty
  split
  · rename_i h
    have := isP_range h
    exact Nat.le_trans (filter_length_le (n := p.toNat) (by omega) _) (by omega)
  · simp

end Go.Proofs.Ytmiecebdkadhbaa
/-
  'AreFriends': the model's and the program's, by their contracts.
-/
namespace Go.Proofs.Ytmiecebdkadhbaa
open Go.RowKit

/-! ## People -/
def isMan (p a : Int) : Bool := decide (0 ≤ a ∧ a < p)
theorem isMan_yes {p a : Int} (h : 0 ≤ a ∧ a < p) : isMan p a = true := decide_eq_true h
theorem isMan_no {p a : Int} (h : ¬ (0 ≤ a ∧ a < p)) : isMan p a = false := decide_eq_false h
set_option maxHeartbeats 400000 in
theorem isPerson_any (p a : Int) (A : Option Addr) (n c : Nat) (w : World) :
    Calls Try.prog 100 #[.agg #[.int .i64 p, .slice A n c], .int .i64 a] w fun e w' => e = .returned (.bool (isMan p a)) ∧ Below w.heap.size w w' := by
  by_cases h0 : 0 ≤ a
  · by_cases h1 : a < p
    · rw [isMan_yes ⟨h0, h1⟩]
      go_enter Try.func100, Try.ntmps100
      go_wp2
      go_ret
      exact ⟨rfl, by go_grown⟩
    · rw [isMan_no (by omega)]
      go_enter Try.func100, Try.ntmps100
      go_wp2
      go_ret
      exact ⟨rfl, by go_grown⟩
  · rw [isMan_no (by omega)]
    go_enter Try.func100, Try.ntmps100
    go_wp2
    go_ret
    exact ⟨rfl, by go_grown⟩

/-- a party and two different people -/
def isTwo (p : Int) (l : PL) (a b : Int) : Bool := isP p l && isMan p a && isMan p b && decide (a ≠ b)
theorem isTwo_parts {p : Int} {l : PL} {a b : Int} (h : isTwo p l a b = true) : isP p l = true ∧ (0 ≤ a ∧ a < p) ∧ (0 ≤ b ∧ b < p) ∧ a ≠ b := by
  simp only [isTwo, isMan, Bool.and_eq_true, decide_eq_true_eq] at h
  exact ⟨h.1.1.1, h.1.1.2, h.1.2, h.2⟩

/-! ## The pair of two people; whether it is among pairs -/
set_option maxHeartbeats 400000 in
theorem pairOf_any (a b : Int) (w : World) : Calls Try.prog 98 #[.int .i64 a, .int .i64 b] w fun e w' => e = .returned (.agg #[.int .i64 (min a b), .int .i64 (max a b)]) ∧ Below w.heap.size w w' := by
  rcases Int.lt_trichotomy a b with h | h | h
  · rw [Int.min_eq_left (by omega), Int.max_eq_right (by omega)]
    go_enter Try.func98, Try.ntmps98
    go_wp2
    go_returns
    exact ⟨by first | rfl | rw [Int.min_eq_left (by omega), Int.max_eq_right (by omega)], by go_grown⟩
  · subst h
    rw [Int.min_self, Int.max_self]
    go_enter Try.func98, Try.ntmps98
    go_wp2
    go_returns
    exact ⟨by first | rfl | rw [Int.min_self, Int.max_self], by go_grown⟩
  · rw [Int.min_eq_right (by omega), Int.max_eq_left (by omega)]
    go_enter Try.func98, Try.ntmps98
    go_wp2
    go_returns
    exact ⟨by first | rfl | rw [Int.min_eq_right (by omega), Int.max_eq_left (by omega)], by go_grown⟩

def indexP (x y : Int) (l : PL) : Int := if l.contains (x, y) then (l.idxOf (x, y) : Int) else -1
end Go.Proofs.Ytmiecebdkadhbaa
/-
  'IsGroup' of the model, by its contract.
-/
namespace Go.Proofs.Ytmiecebdkadhbaa
open Go.RowKit

theorem getD_is {q : List Int} {k : Nat} {x : Int} (h : q[k]? = some x) : q.getD k 0 = x := by rw [List.getD_eq_getElem?_getD, h]; rfl

end Go.Proofs.Ytmiecebdkadhbaa
/-
  THE MODEL's GROUPS OF A SIZE ('spec.trGroups'), by its contract: induction on how many are still to come.
-/
namespace Go.Proofs.Ytmiecebdkadhbaa
open Go.RowKit

theorem candR_set {t : Nat → Nat → Bool} {n : Nat} (hn : n ≤ 12) (q : List Int) (a : Nat) : (candR t n q a).length ≤ 12 := by
  unfold candR
  refine Nat.le_trans (List.length_filter_le _ _) ?_
  simp only [List.length_range']
  omega
theorem lists_candR {t : Nat → Nat → Bool} {n k : Nat} (hn : n ≤ 12) (q : List Int) (a : Nat) : (listsC t k q (candR t n q a)).length ≤ 4096 := by
  have h1 := listsC_length_le t k q (candR t n q a)
  have h2 : 2 ^ (candR t n q a).length ≤ 2 ^ 12 := Nat.pow_le_pow_right (by omega) (candR_set hn q a)
  omega
theorem Try.infoIntsG : (Try.prog.info? 25).map (fun i => (i.zero, i.size, i.bytes)) = some (some (.slice none 0 0), 1, 24) := by kernel_rfl

end Go.Proofs.Ytmiecebdkadhbaa
/-
  'CountGroups': the model's and the program's, by their contracts.
-/
namespace Go.Proofs.Ytmiecebdkadhbaa
open Go.RowKit

theorem friendsT_of {n : Int} {l : PL} (h : isP n l = true) : TiesOf (friendsT l) (adj l) := by
  have hn := isP_range h
  have hl := (isP_list h).2.2.1
  have key : ∀ m, m ≤ l.length → TiesOf (friendsT (l.take m)) (adj (l.take m)) := by
    intro m
    induction m with
    | zero => intro _; exact TiesOf.none
    | succ m ih =>
      intro hm
      obtain ⟨⟨x, y⟩, hx⟩ := getSome l m (by omega)
      have h0 := hl _ (List.mem_of_getElem? hx)
      simp only at h0
      obtain ⟨a, rfl⟩ : ∃ a : Nat, x = a := ⟨x.toNat, by omega⟩
      obtain ⟨b, rfl⟩ : ∃ b : Nat, y = b := ⟨y.toNat, by omega⟩
      rw [List.take_add_one, hx, Option.toList_some, friendsT_snoc, adj_snoc]
      exact (ih (by omega)).with (by omega) (by omega) (by omega)
  have := key l.length (Nat.le_refl _)
  rwa [List.take_length] at this
theorem candR_all (t : Nat → Nat → Bool) (n : Nat) : candR t n [] 0 = List.range n := by
  unfold candR
  rw [List.filter_eq_self.2 (by simp), Nat.sub_zero, List.range_eq_range']
/-- the groups of a size -/
def groupsL (n : Nat) (l : PL) (k : Nat) : List (List Int) := listsC (adj l) k [] (List.range n)
theorem groupsL_few {n : Nat} (hn : n ≤ 12) (l : PL) (k : Nat) : (groupsL n l k).length ≤ 4096 := lists_few (IsSet.people (n := n) (by omega)) (fun b hb => by have := List.mem_range.1 hb; omega)
def resCountGroups (p : Int) (l : PL) (k : Int) : Int × Bool := if isP p l && decide (0 ≤ k ∧ k ≤ 12) then ((groupsL p.toNat l k.toNat).length, true) else (0, false)

end Go.Proofs.Ytmiecebdkadhbaa
/-
  HOW MANY LISTS OF TIED PEOPLE HAVE A PERSON. Nothing here speaks of the program.
-/
namespace Go.Proofs.Ytmiecebdkadhbaa
open Go.RowKit

theorem listsC_told (t : Nat → Nat → Bool) : ∀ (k : Nat) (told : List Int) (cs : List Nat), listsC t k told cs = (listsC t k [] cs).map (told ++ ·) := by
  intro k told cs
  induction h : k + cs.length using Nat.strongRecOn generalizing k told cs with
  | _ n ih =>
    match k, cs with
    | 0, cs => rw [listsC_zero, listsC_zero]; simp
    | k + 1, [] => rw [listsC_nil, listsC_nil]; rfl
    | k + 1, a :: cs =>
      simp only [List.length_cons] at h
      have h0 : (cs.filter (t a)).length ≤ cs.length := List.length_filter_le _ _
      rw [listsC_cons, listsC_cons, List.map_append, ih (k + (cs.filter (t a)).length) (by omega) k (told ++ [(a : Int)]) _ rfl, ih (k + 1 + cs.length) (by omega) (k + 1) told cs rfl,
        ih (k + (cs.filter (t a)).length) (by omega) k ([] ++ [(a : Int)]) _ rfl, List.map_map]
      congr 1
      refine List.map_congr_left fun x _ => ?_
      simp
theorem listsC_len (t : Nat → Nat → Bool) (k : Nat) (told : List Int) (cs : List Nat) : (listsC t k told cs).length = (listsC t k [] cs).length := by rw [listsC_told, List.length_map]
theorem listsC_size (t : Nat → Nat → Bool) : ∀ (k : Nat) (told : List Int) (cs : List Nat), ∀ l ∈ listsC t k told cs, l.length = told.length + k := by
  intro k told cs
  induction h : k + cs.length using Nat.strongRecOn generalizing k told cs with
  | _ n ih =>
    match k, cs with
    | 0, cs => rw [listsC_zero]; simp
    | k + 1, [] => rw [listsC_nil]; simp
    | k + 1, a :: cs =>
      simp only [List.length_cons] at h
      have h0 : (cs.filter (t a)).length ≤ cs.length := List.length_filter_le _ _
      rw [listsC_cons]
      intro l hl
      rcases List.mem_append.1 hl with hl | hl
      · have := ih (k + (cs.filter (t a)).length) (by omega) k _ _ rfl l hl
        simp at this
        omega
      · have := ih (k + 1 + cs.length) (by omega) (k + 1) _ _ rfl l hl
        omega
/-- whom a list has -/
theorem listsC_mem (t : Nat → Nat → Bool) : ∀ (k : Nat) (told : List Int) (cs : List Nat), ∀ l ∈ listsC t k told cs, ∀ x ∈ l, x ∈ told ∨ ∃ b ∈ cs, x = ((b : Nat) : Int) := by
  intro k told cs
  induction h : k + cs.length using Nat.strongRecOn generalizing k told cs with
  | _ n ih =>
    match k, cs with
    | 0, cs => rw [listsC_zero]; intro l hl x hx; simp at hl; subst hl; exact .inl hx
    | k + 1, [] => rw [listsC_nil]; simp
    | k + 1, a :: cs =>
      simp only [List.length_cons] at h
      have h0 : (cs.filter (t a)).length ≤ cs.length := List.length_filter_le _ _
      rw [listsC_cons]
      intro l hl x hx
      rcases List.mem_append.1 hl with hl | hl
      · rcases ih (k + (cs.filter (t a)).length) (by omega) k _ _ rfl l hl x hx with h1 | ⟨b, hb, h1⟩
        · rcases List.mem_append.1 h1 with h1 | h1
          · exact .inl h1
          · simp at h1
            exact .inr ⟨a, by simp, h1⟩
        · exact .inr ⟨b, by simp [(List.mem_filter.1 hb).1], h1⟩
      · rcases ih (k + 1 + cs.length) (by omega) (k + 1) _ _ rfl l hl x hx with h1 | ⟨b, hb, h1⟩
        · exact .inl h1
        · exact .inr ⟨b, by simp [hb], h1⟩
/-- how many lists have a person -/
def hasN (L : List (List Int)) (a : Nat) : Nat := L.countP (hasI · a)
theorem hasN_append (L M : List (List Int)) (a : Nat) : hasN (L ++ M) a = hasN L a + hasN M a := List.countP_append
theorem hasN_none {t : Nat → Nat → Bool} {k : Nat} {told : List Int} {cs : List Nat} {a : Nat} (h0 : (a : Int) ∉ told) (h : a ∉ cs) : hasN (listsC t k told cs) a = 0 := by
  refine List.countP_eq_zero.2 fun l hl hc => ?_
  rcases listsC_mem t k told cs l hl _ (hasI_mem.1 hc) with h1 | ⟨b, hb, h1⟩
  · exact h0 h1
  · have : a = b := by omega
    exact h (this ▸ hb)
theorem hasN_all {t : Nat → Nat → Bool} {k : Nat} {told : List Int} {cs : List Nat} {a : Nat} (h0 : (a : Int) ∈ told) : hasN (listsC t k told cs) a = (listsC t k told cs).length := by
  refine List.countP_eq_length.2 fun l hl => ?_
  rw [listsC_told] at hl
  obtain ⟨m, _, rfl⟩ := List.mem_map.1 hl
  exact hasI_mem.2 (List.mem_append_left _ h0)
theorem hasN_listsC {t : Nat → Nat → Bool} (hsym : ∀ i j, t i j = t j i) {a : Nat} (hirr : t a a = false) : ∀ (k : Nat) (told : List Int) (cs : List Nat),
    cs.Pairwise (· < ·) → a ∈ cs → (a : Int) ∉ told → hasN (listsC t (k + 1) told cs) a = (listsC t k [] (cs.filter (t a))).length := by
  intro k told cs
  induction h : k + cs.length using Nat.strongRecOn generalizing k told cs with
  | _ n ih =>
    intro hs ha h0
    match cs with
    | [] => simp at ha
    | x :: cs =>
      simp only [List.length_cons] at h
      obtain ⟨hx, hs'⟩ := List.pairwise_cons.1 hs
      have hl0 : (cs.filter (t x)).length ≤ cs.length := List.length_filter_le _ _
      rw [listsC_cons, hasN_append]
      by_cases e : x = a
      · subst e
        have hn : x ∉ cs := fun hc => by have := hx x hc; omega
        rw [hasN_all (by simp), hasN_none h0 hn, listsC_len, List.filter_cons_of_neg (by simp [hirr])]
        omega
      · have ha' : a ∈ cs := by rcases List.mem_cons.1 ha with h | h; exact absurd h.symm e; exact h
        have h1 : (a : Int) ∉ told ++ [(x : Int)] := by simp [h0]; omega
        rw [ih (k + cs.length) (by omega) k told cs rfl hs' ha' h0]
        match k with
        | 0 =>
          rw [listsC_zero, listsC_zero, listsC_zero]
          have : hasN [told ++ [(x : Int)]] a = 0 := List.countP_eq_zero.2 fun l hl hc => by
            simp only [List.mem_singleton] at hl
            subst hl
            exact h1 (hasI_mem.1 hc)
          rw [this]
          simp
        | k + 1 =>
          cases hxa : t x a with
          | true =>
            have hax : t a x = true := by rw [hsym, hxa]
            rw [ih (k + (cs.filter (t x)).length) (by omega) k _ _ rfl (hs'.filter _) (List.mem_filter.2 ⟨ha', hxa⟩) h1, List.filter_cons_of_pos hax, listsC_cons, List.length_append, listsC_len t k ([] ++ [(x : Int)])]
            congr 2
            rw [List.filter_filter, List.filter_filter]
            congr 1
            exact List.filter_congr fun b _ => Bool.and_comm _ _
          | false =>
            have hax : ¬ t a x = true := by rw [hsym, hxa]; simp
            rw [hasN_none h1 (fun hc => by have := (List.mem_filter.1 hc).2; simp [hxa] at this), List.filter_cons_of_neg hax]
            omega
end Go.Proofs.Ytmiecebdkadhbaa
/-
  'ThreesAt': the model's and the program's, by their contracts.
-/
namespace Go.Proofs.Ytmiecebdkadhbaa
open Go.RowKit

theorem adj_of {n : Nat} {l : PL} (h : isP n l = true) {a b : Nat} (hab : adj l a b = true) : a < n ∧ b < n ∧ a ≠ b := by
  have hl := (isP_list h).2.2.1
  unfold adj at hab
  simp only [Bool.or_eq_true, List.contains_iff_mem] at hab
  rcases hab with hab | hab
  · have := hl _ hab; simp only at this; omega
  · have := hl _ hab; simp only at this; omega
theorem adj_self {n : Nat} {l : PL} (h : isP n l = true) (a : Nat) : adj l a a = false := by
  cases e : adj l a a with
  | false => rfl
  | true => exact absurd rfl (adj_of h e).2.2
theorem friends_set {n : Nat} {l : PL} (h : isP n l = true) {T : Nat → Nat} (hT : TiesOf T (adj l)) {a : Nat} (ha : a < n) : IsSet (T a) ((List.range n).filter (adj l a)) := by
  have hn := isP_range h
  refine ⟨List.pairwise_lt_range.filter _, fun b hb => by have := List.mem_range.1 (List.mem_filter.1 hb).1; omega, fun b => ?_⟩
  rw [List.mem_filter, List.mem_range]
  by_cases hb : b < 16
  · rw [hT.bit a b (by omega) hb]
    exact ⟨fun e => ⟨(adj_of h e).2.1, e⟩, fun e => e.2⟩
  · have : (T a).testBit b = false := Nat.testBit_lt_two_pow (Nat.lt_of_lt_of_le (hT.lt a (by omega)) (Nat.pow_le_pow_right (n := 2) (i := 16) (by omega) (by omega)))
    rw [this]
    simp
    omega
def threesAtN (n : Nat) (l : PL) (a : Nat) : Nat := hasN (groupsL n l 3) a
theorem threesAt_eq {n : Nat} {l : PL} (h : isP n l = true) {a : Nat} (ha : a < n) : (listsC (adj l) 2 [] ((List.range n).filter (adj l a))).length = threesAtN n l a := by
  unfold threesAtN groupsL
  rw [hasN_listsC (adj_comm l) (adj_self h a) 2 [] _ List.pairwise_lt_range (List.mem_range.2 ha) (by simp)]
def resThreesAt (p : Int) (l : PL) (a : Int) : Int × Bool := if isP p l && isMan p a then (threesAtN p.toNat l a.toNat, true) else (0, false)

end Go.Proofs.Ytmiecebdkadhbaa
/-
  PEOPLE RENAMED, as plain lists and as tables. Nothing here speaks of the program.
-/
namespace Go.Proofs.Ytmiecebdkadhbaa
open Go.RowKit

/-- a list of all p people, each once -/
def isNamingI (p : Int) (q : List Int) : Bool := decide ((q.length : Int) = p) && (q.all (fun x => decide (0 ≤ x ∧ x < p)) && decide q.Nodup)
theorem isNamingI_len {p : Int} {q : List Int} (h : (q.length : Int) ≠ p) : isNamingI p q = false := by simp [isNamingI, h]
theorem isNamingI_bad {p : Int} {q : List Int} {k : Nat} {x : Int} (hx : q[k]? = some x) (h : ¬ (0 ≤ x ∧ x < p)) : isNamingI p q = false := by
  cases he : isNamingI p q with
  | false => rfl
  | true =>
    simp only [isNamingI, Bool.and_eq_true, decide_eq_true_eq, List.all_eq_true] at he
    exact absurd (he.2.1 x (List.mem_of_getElem? hx)) h
theorem isNamingI_dup {p : Int} {q : List Int} {k : Nat} {x : Int} (hx : q[k]? = some x) (h : x ∈ q.take k) : isNamingI p q = false := by
  cases he : isNamingI p q with
  | false => rfl
  | true =>
    simp only [isNamingI, Bool.and_eq_true, decide_eq_true_eq] at he
    have hn := he.2.2
    rw [List.Nodup, List.pairwise_iff_getElem] at hn
    obtain ⟨i, hi, e⟩ := List.getElem_of_mem h
    rw [List.length_take] at hi
    rw [List.getElem_take] at e
    have hk : k < q.length := (List.getElem?_eq_some_iff.1 hx).1
    rw [List.getElem?_eq_getElem hk] at hx
    simp only [Option.some.injEq] at hx
    exact absurd (e.trans hx.symm) (hn i k (by omega) hk (by omega))
theorem isNamingI_of {p : Int} {q : List Int} (hl : (q.length : Int) = p) (h : ∀ (k : Nat) (x : Int), k < q.length → q[k]? = some x → (0 ≤ x ∧ x < p) ∧ x ∉ q.take k) : isNamingI p q = true := by
  simp only [isNamingI, Bool.and_eq_true, decide_eq_true_eq, List.all_eq_true]
  refine ⟨hl, fun x hx => ?_, ?_⟩
  · obtain ⟨i, hi, rfl⟩ := List.getElem_of_mem hx
    exact (h i _ hi (List.getElem?_eq_getElem hi)).1
  · rw [List.Nodup, List.pairwise_iff_getElem]
    intro i j hi hj hij e
    refine (h j _ hj (List.getElem?_eq_getElem hj)).2 ?_
    rw [← e, List.mem_iff_getElem?]
    exact ⟨i, by rw [List.getElem?_take, if_pos hij, List.getElem?_eq_getElem hi]⟩
theorem isNamingI_parts {p : Int} {q : List Int} (h : isNamingI p q = true) : (q.length : Int) = p ∧ (∀ x ∈ q, 0 ≤ x ∧ x < p) ∧ q.Nodup := by
  simp only [isNamingI, Bool.and_eq_true, decide_eq_true_eq, List.all_eq_true] at h
  exact h

theorem nodup_le : ∀ (l m : List Int), l.Nodup → (∀ x ∈ l, x ∈ m) → l.length ≤ m.length
  | [], m, _, _ => Nat.zero_le _
  | a :: l, m, hn, hs => by
    rw [List.nodup_cons] at hn
    have h1 := nodup_le l (m.erase a) hn.2 fun x hx => by
      have hne : x ≠ a := by rintro rfl; exact hn.1 hx
      exact (List.mem_erase_of_ne hne).2 (hs x (List.mem_cons_of_mem _ hx))
    have ha := hs a (List.mem_cons_self ..)
    have h2 := List.length_erase_of_mem ha
    have h3 := List.length_pos_of_mem ha
    rw [List.length_cons]
    omega
theorem naming_all {p : Int} {q : List Int} (h : isNamingI p q = true) {i : Nat} (hi : (i : Int) < p) : (i : Int) ∈ q := by
  obtain ⟨hl, hm, hn⟩ := isNamingI_parts h
  apply Classical.byContradiction
  intro hc
  have := nodup_le ((i : Int) :: q) ((List.range q.length).map fun k : Nat => (k : Int)) (List.nodup_cons.2 ⟨hc, hn⟩) (by
    intro x hx
    rw [List.mem_map]
    rcases List.mem_cons.1 hx with rfl | hx
    · exact ⟨i, by rw [List.mem_range]; omega, rfl⟩
    · have := hm x hx
      exact ⟨x.toNat, by rw [List.mem_range]; omega, by omega⟩)
  rw [List.length_cons, List.length_map, List.length_range] at this
  omega

/-- the name of a person -/
def nameI (q : List Int) (x : Int) : Int := q.getD x.toNat 0
theorem nameI_at {q : List Int} {i : Nat} {x : Int} (hx : q[i]? = some x) : nameI q i = x := by
  unfold nameI
  rw [List.getD_eq_getElem?_getD, Int.toNat_natCast, hx]
  rfl
/-- who has a name -/
def whoI (q : List Int) (i : Nat) : Nat := q.idxOf (i : Int)
theorem whoI_at {q : List Int} (hn : q.Nodup) {a i : Nat} (h : q[a]? = some (i : Int)) : whoI q i = a := by
  have ha : a < q.length := (List.getElem?_eq_some_iff.1 h).1
  rw [List.getElem?_eq_getElem ha] at h
  simp only [Option.some.injEq] at h
  unfold whoI
  rw [← h]
  exact hn.idxOf_getElem a ha
theorem whoI_name {p : Int} {q : List Int} (h : isNamingI p q = true) {i : Nat} (hi : (i : Int) < p) : q[whoI q i]? = some (i : Int) := by
  have hm := naming_all h hi
  unfold whoI
  have hlt := List.idxOf_lt_length_of_mem hm
  rw [List.getElem?_eq_getElem hlt, List.getElem_idxOf]
theorem whoI_lt {p : Int} {q : List Int} (h : isNamingI p q = true) {i : Nat} (hi : (i : Int) < p) : (whoI q i : Int) < p := by
  have := (List.getElem?_eq_some_iff.1 (whoI_name h hi)).1
  have hl := (isNamingI_parts h).1
  omega

/-- the table renamed -/
def namedT (q : List Int) (t : Nat → Nat → Bool) : Nat → Nat → Bool := fun i j => t (whoI q i) (whoI q j)
/-- in the middle of being filled -/
def namedTo (q : List Int) (t : Nat → Nat → Bool) (a b : Nat) : Nat → Nat → Bool := fun i j => if whoI q i < a ∨ whoI q i = a ∧ whoI q j < b then t (whoI q i) (whoI q j) else false
theorem namedTo_start (q : List Int) (t : Nat → Nat → Bool) : namedTo q t 0 0 = fun _ _ => false := by funext i j; simp [namedTo]
theorem namedTo_next {n : Nat} {q : List Int} (h : isNamingI n q = true) (t : Nat → Nat → Bool) {a b x y : Nat} (hx : q[a]? = some (x : Int)) (hy : q[b]? = some (y : Int)) :
    ∀ i j, i < n → j < n → upd (namedTo q t a b) x y (t a b) i j = namedTo q t a (b + 1) i j := by
  intro i j hi hj
  have hn := (isNamingI_parts h).2.2
  unfold upd namedTo
  have ex := whoI_at hn hx
  have ey := whoI_at hn hy
  by_cases hc : i = x ∧ j = y
  · obtain ⟨rfl, rfl⟩ := hc
    rw [if_pos ⟨rfl, rfl⟩, ex, ey, if_pos (by omega)]
  · rw [if_neg hc]
    have hne : ¬ (whoI q i = a ∧ whoI q j = b) := by
      rintro ⟨e1, e2⟩
      have h1 := whoI_name h (i := i) (by omega)
      have h2 := whoI_name h (i := j) (by omega)
      rw [e1, hx] at h1
      rw [e2, hy] at h2
      simp only [Option.some.injEq] at h1 h2
      exact hc ⟨by omega, by omega⟩
    have : (whoI q i < a ∨ whoI q i = a ∧ whoI q j < b) ↔ (whoI q i < a ∨ whoI q i = a ∧ whoI q j < b + 1) := by omega
    simp only [this]
theorem namedTo_row {n : Nat} {q : List Int} (h : isNamingI n q = true) (t : Nat → Nat → Bool) (a : Nat) : ∀ i j, i < n → j < n → namedTo q t a n i j = namedTo q t (a + 1) 0 i j := by
  intro i j hi hj
  have := whoI_lt h (i := j) (by omega)
  unfold namedTo
  have : (whoI q i < a ∨ whoI q i = a ∧ whoI q j < n) ↔ (whoI q i < a + 1 ∨ whoI q i = a + 1 ∧ whoI q j < 0) := by omega
  simp only [this]
theorem namedTo_all {n : Nat} {q : List Int} (h : isNamingI n q = true) (t : Nat → Nat → Bool) : ∀ i j, i < n → j < n → namedTo q t n 0 i j = namedT q t i j := by
  intro i j hi hj
  have := whoI_lt h (i := i) (by omega)
  unfold namedTo namedT
  rw [if_pos (by omega)]

/-! ## Pairs, sorted -/
def pairI (a b : Int) : Int × Int := (min a b, max a b)
def sortP (l : PL) : PL := l.mergeSort fun x y => !pairLess y x
theorem pairLess_plt {a b : Int × Int} : pairLess a b = true ↔ plt a b := by unfold pairLess plt; simp
theorem sortP_perm (l : PL) : (sortP l).Perm l := List.mergeSort_perm _ _
theorem sortP_mem {l : PL} {r : Int × Int} : r ∈ sortP l ↔ r ∈ l := (sortP_perm l).mem_iff
theorem sortP_length (l : PL) : (sortP l).length = l.length := (sortP_perm l).length_eq
theorem sortP_sorted {l : PL} (hn : l.Nodup) : (sortP l).Pairwise plt := by
  have h := List.pairwise_mergeSort (le := fun x y : Int × Int => !pairLess y x) (by
    intro a b c
    simp only [Bool.not_eq_true', ← Bool.not_eq_true, pairLess_plt]
    unfold plt
    omega) (by
    intro a b
    simp only [Bool.or_eq_true, Bool.not_eq_true', ← Bool.not_eq_true, pairLess_plt]
    unfold plt
    omega) l
  have hn' : (sortP l).Nodup := (sortP_perm l).nodup_iff.2 hn
  refine (h.and hn').imp fun {a b} hab => ?_
  obtain ⟨h1, h2⟩ := hab
  simp only [Bool.not_eq_true', ← Bool.not_eq_true, pairLess_plt] at h1
  unfold plt at h1 ⊢
  apply Classical.byContradiction
  intro hc
  exact h2 (Prod.ext (by omega) (by omega))
/-- the pairs of people renamed, as they come -/
def namesP (l : PL) (q : List Int) : PL := l.map fun r => pairI (nameI q r.1) (nameI q r.2)
theorem namesP_snoc (l : PL) (q : List Int) (x y : Int) : namesP (l ++ [(x, y)]) q = namesP l q ++ [pairI (nameI q x) (nameI q y)] := by simp [namesP]
theorem namesP_length (l : PL) (q : List Int) : (namesP l q).length = l.length := by simp [namesP]
theorem name_of {p : Int} {q : List Int} (h : isNamingI p q = true) {x : Int} (hx : 0 ≤ x ∧ x < p) : ∃ i : Nat, nameI q x = i ∧ (i : Int) < p ∧ q[x.toNat]? = some (i : Int) ∧ whoI q i = x.toNat := by
  obtain ⟨hl, hm, hn⟩ := isNamingI_parts h
  obtain ⟨y, hy⟩ := getSome q x.toNat (by omega)
  have h1 := hm y (List.mem_of_getElem? hy)
  have e : ((x.toNat : Nat) : Int) = x := by omega
  have h2 := nameI_at hy
  rw [e] at h2
  refine ⟨y.toNat, by omega, by omega, by rw [hy]; congr 1; omega, whoI_at hn ?_⟩
  rw [hy]
  congr 1
  omega
theorem namesP_nodup {p : Int} {l : PL} {q : List Int} (hp : isP p l = true) (h : isNamingI p q = true) : (namesP l q).Nodup := by
  obtain ⟨_, _, hm, hs⟩ := isP_list hp
  unfold namesP
  rw [List.Nodup, List.pairwise_map]
  refine List.Pairwise.imp_of_mem (fun {r s} hr hs' hlt e => ?_) hs
  have a0 := hm r hr
  have b0 := hm s hs'
  obtain ⟨i1, e1, _, _, w1⟩ := name_of h (x := r.1) (by omega)
  obtain ⟨i2, e2, _, _, w2⟩ := name_of h (x := r.2) (by omega)
  obtain ⟨i3, e3, _, _, w3⟩ := name_of h (x := s.1) (by omega)
  obtain ⟨i4, e4, _, _, w4⟩ := name_of h (x := s.2) (by omega)
  rw [e1, e2, e3, e4] at e
  unfold pairI at e
  simp only [Prod.mk.injEq] at e
  have hc : i1 = i3 ∧ i2 = i4 ∨ i1 = i4 ∧ i2 = i3 := by omega
  unfold plt at hlt
  rcases hc with ⟨c1, c2⟩ | ⟨c1, c2⟩
  · subst c1; subst c2; omega
  · subst c1; subst c2; omega
theorem tabP_named {n : Nat} {l : PL} {q : List Int} (hp : isP n l = true) (h : isNamingI n q = true) : tabP n (namedT q (adj l)) = sortP (namesP l q) := by
  obtain ⟨_, h12, hm, hs⟩ := isP_list hp
  refine sorted_ext (filter_list (by omega) _).2.2.2 (sortP_sorted (namesP_nodup hp h)) fun r => ?_
  unfold tabP
  rw [List.mem_filter, mem_allP, sortP_mem]
  unfold namesP
  rw [List.mem_map]
  constructor
  · rintro ⟨⟨h0, h1, h2⟩, ht⟩
    have w1 := whoI_name h (i := r.1.toNat) (by omega)
    have w2 := whoI_name h (i := r.2.toNat) (by omega)
    unfold namedT adj at ht
    rw [Bool.or_eq_true, List.contains_iff_mem, List.contains_iff_mem] at ht
    rcases ht with ht | ht
    · refine ⟨_, ht, ?_⟩
      simp only
      rw [nameI_at w1, nameI_at w2]
      unfold pairI
      exact Prod.ext (by simp only; omega) (by simp only; omega)
    · refine ⟨_, ht, ?_⟩
      simp only
      rw [nameI_at w1, nameI_at w2]
      unfold pairI
      exact Prod.ext (by simp only; omega) (by simp only; omega)
  · rintro ⟨s, hsl, rfl⟩
    have b0 := hm s hsl
    obtain ⟨i1, e1, l1, _, w1⟩ := name_of h (x := s.1) (by omega)
    obtain ⟨i2, e2, l2, _, w2⟩ := name_of h (x := s.2) (by omega)
    rw [e1, e2]
    have hne : i1 ≠ i2 := by
      rintro rfl
      omega
    unfold pairI namedT adj
    have d1 : ((s.1.toNat : Nat) : Int) = s.1 := by omega
    have d2 : ((s.2.toNat : Nat) : Int) = s.2 := by omega
    rcases Nat.lt_or_ge i1 i2 with hlt | hge
    · have m1 : min (i1 : Int) i2 = i1 := by omega
      have m2 : max (i1 : Int) i2 = i2 := by omega
      rw [m1, m2]
      refine ⟨⟨by simp only; omega, by simp only; omega, by simp only; omega⟩, ?_⟩
      simp only [Int.toNat_natCast, w1, w2, d1, d2, Bool.or_eq_true, List.contains_iff_mem]
      exact .inl hsl
    · have m1 : min (i1 : Int) i2 = i2 := by omega
      have m2 : max (i1 : Int) i2 = i1 := by omega
      rw [m1, m2]
      refine ⟨⟨by simp only; omega, by simp only; omega, by simp only; omega⟩, ?_⟩
      simp only [Int.toNat_natCast, w1, w2, d1, d2, Bool.or_eq_true, List.contains_iff_mem]
      exact .inr hsl
end Go.Proofs.Ytmiecebdkadhbaa
/-
  'AreFriends': the model's and the program's, by their contracts.
-/
namespace Go.Proofs.Ytmiecebdkadhbaa
open Go.RowKit

def areF (l : PL) (a b : Int) : Bool := l.contains (min a b, max a b)
def resAreFriends (p : Int) (l : PL) (a b : Int) : Bool × Bool := if isTwo p l a b then (areF l a b, true) else (false, false)
theorem adj_areF {n : Nat} {l : PL} (h : isP n l = true) {i j : Nat} (hij : i ≠ j) : adj l i j = areF l i j := by
  unfold areF
  rcases Nat.lt_or_gt_of_ne hij with h1 | h1
  · rw [adj_pair h h1, Int.min_eq_left (by omega), Int.max_eq_right (by omega)]
  · rw [adj_comm, adj_pair h h1, Int.min_eq_right (by omega), Int.max_eq_left (by omega)]

end Go.Proofs.Ytmiecebdkadhbaa
/-
  TWO PAIRS EXCHANGED, as plain lists and as tables. Nothing here speaks of the program.
-/
namespace Go.Proofs.Ytmiecebdkadhbaa
open Go.RowKit

/-- four people of p, each one another -/
def fourI (p a b c d : Int) : Bool := decide ((0 ≤ a ∧ a < p) ∧ (0 ≤ b ∧ b < p) ∧ (0 ≤ c ∧ c < p) ∧ (0 ≤ d ∧ d < p) ∧ a ≠ b ∧ a ≠ c ∧ a ≠ d ∧ b ≠ c ∧ b ≠ d ∧ c ≠ d)
theorem fourI_parts {p a b c d : Int} (h : fourI p a b c d = true) : (0 ≤ a ∧ a < p) ∧ (0 ≤ b ∧ b < p) ∧ (0 ≤ c ∧ c < p) ∧ (0 ≤ d ∧ d < p) ∧ a ≠ b ∧ a ≠ c ∧ a ≠ d ∧ b ≠ c ∧ b ≠ d ∧ c ≠ d := of_decide_eq_true h
theorem fourI_not {p a b c d : Int} (h : ¬ ((0 ≤ a ∧ a < p) ∧ (0 ≤ b ∧ b < p) ∧ (0 ≤ c ∧ c < p) ∧ (0 ≤ d ∧ d < p) ∧ a ≠ b ∧ a ≠ c ∧ a ≠ d ∧ b ≠ c ∧ b ≠ d ∧ c ≠ d)) : fourI p a b c d = false := decide_eq_false h
/-- the pairs that can be exchanged -/
def canX (l : PL) (a b c d : Int) : Bool := (areF l a b && areF l c d) && (!areF l a c && !areF l b d)
def exchP (n : Nat) (l : PL) (a b c d : Int) : PL := (allP n).filter fun q => if q = (min b d, max b d) then true else if q = (min a c, max a c) then true else if q = (min c d, max c d) then false else if q = (min a b, max a b) then false else l.contains q
def resExchangePairs (p : Int) (l : PL) (a b c d : Int) : Int × PL × Bool := if isP p l && fourI p a b c d && canX l a b c d then (p, exchP p.toNat l a b c d, true) else (0, [], false)
theorem resExchangePairs_len (p : Int) (l : PL) (a b c d : Int) : (resExchangePairs p l a b c d).2.1.length ≤ 1048576 := by
  unfold resExchangePairs
  split
  · rename_i h
    simp only [Bool.and_eq_true] at h
    have := isP_range h.1.1
    exact Nat.le_trans (filter_length_le (n := p.toNat) (by omega) _) (by omega)
  · simp
/-- a table set at a pair, both ways -/
def upd2 (t : Nat → Nat → Bool) (a b : Nat) (x : Bool) : Nat → Nat → Bool := upd (upd t a b x) b a x
theorem upd2_at {t : Nat → Nat → Bool} {a b : Nat} {x : Bool} {i j : Nat} (hij : i < j) : upd2 t a b x i j = if (((i : Int), (j : Int)) : Int × Int) = (min (a : Int) b, max (a : Int) b) then x else t i j := by
  unfold upd2 upd
  by_cases h1 : i = b ∧ j = a
  · rw [if_pos h1, if_pos]
    simp only [Prod.mk.injEq]
    omega
  · by_cases h2 : i = a ∧ j = b
    · rw [if_neg h1, if_pos h2, if_pos]
      simp only [Prod.mk.injEq]
      omega
    · rw [if_neg h1, if_neg h2, if_neg]
      simp only [Prod.mk.injEq]
      omega
theorem tabP_exch {n : Nat} {l : PL} (h : isP n l = true) (a b c d : Nat) : tabP n (upd2 (upd2 (upd2 (upd2 (adj l) a b false) c d false) a c true) b d true) = exchP n l a b c d := by
  unfold tabP exchP
  refine List.filter_congr fun q hq => ?_
  have hm := mem_allP.1 hq
  obtain ⟨u, v⟩ := q
  obtain ⟨i, rfl⟩ : ∃ i : Nat, u = i := ⟨u.toNat, by simp at hm; omega⟩
  obtain ⟨j, rfl⟩ : ∃ j : Nat, v = j := ⟨v.toNat, by simp at hm; omega⟩
  simp only at hm
  have hij : i < j := by omega
  simp only [Int.toNat_natCast, upd2_at hij, adj_pair h hij]

/-! ## As the program makes them -/
def givenP (a b c d : Int) : PL := [pairI a c, pairI b d]
def takenP (a b c d : Int) : PL := [pairI a b, pairI c d]
def leftP (l : PL) (a b c d : Int) : PL := l.filter fun r => decide (¬ (r = pairI a b ∨ r = pairI c d))
def madeP (l : PL) (a b c d : Int) : PL := givenP a b c d ++ leftP l a b c d
theorem taken_contains (a b c d : Int) (r : Int × Int) : (takenP a b c d).contains r = decide (r = pairI a b ∨ r = pairI c d) := by
  rw [Bool.eq_iff_iff, List.contains_iff_mem]
  simp [takenP]
theorem given_contains (a b c d : Int) (r : Int × Int) : (givenP a b c d).contains r = decide (r = pairI a c ∨ r = pairI b d) := by
  rw [Bool.eq_iff_iff, List.contains_iff_mem]
  simp [givenP]
theorem leftP_snoc (l : PL) (a b c d : Int) (r : Int × Int) : leftP (l ++ [r]) a b c d = leftP l a b c d ++ if (takenP a b c d).contains r then [] else [r] := by
  unfold leftP
  rw [List.filter_append, taken_contains]
  congr 1
  by_cases h : r = pairI a b ∨ r = pairI c d
  · rw [List.filter_cons_of_neg (by simp [h]), if_pos (decide_eq_true h)]
    rfl
  · rw [List.filter_cons_of_pos (by simp [h]), decide_eq_false h]
    rfl
theorem areF_mem {l : PL} {a b : Int} : areF l a b = true ↔ pairI a b ∈ l := by unfold areF pairI; exact List.contains_iff_mem
theorem left_count (l : PL) {a b c d : Int} (hne : pairI a b ≠ pairI c d) : (leftP l a b c d).length + l.count (pairI a b) + l.count (pairI c d) = l.length := by
  unfold leftP
  generalize pairI a b = x at hne ⊢
  generalize pairI c d = y at hne ⊢
  induction l with
  | nil => rfl
  | cons r l ih =>
    by_cases h1 : r = x
    · subst h1
      rw [List.filter_cons_of_neg (by simp), List.count_cons_self, List.count_cons_of_ne hne, List.length_cons]
      omega
    · by_cases h2 : r = y
      · subst h2
        rw [List.filter_cons_of_neg (by simp), List.count_cons_self, List.count_cons_of_ne (Ne.symm hne), List.length_cons]
        omega
      · rw [List.filter_cons_of_pos (by simp [h1, h2]), List.count_cons_of_ne h1, List.count_cons_of_ne h2, List.length_cons, List.length_cons]
        omega
theorem plt_nodup {l : PL} (h : l.Pairwise plt) : l.Nodup := List.Pairwise.imp (fun {x y} hxy e => by subst e; unfold plt at hxy; omega) h
theorem made_len {n : Nat} {l : PL} {a b c d : Int} (hp : isP n l = true) (h4 : fourI n a b c d = true) : (madeP l a b c d).length = l.length ↔ areF l a b = true ∧ areF l c d = true := by
  obtain ⟨_, _, _, hs⟩ := isP_list hp
  have hnd := plt_nodup hs
  have h := fourI_parts h4
  have hne : pairI a b ≠ pairI c d := by unfold pairI; simp only [ne_eq, Prod.mk.injEq]; omega
  have hc := left_count l hne
  have h1 := hnd.count (a := pairI a b)
  have h2 := hnd.count (a := pairI c d)
  have e : (madeP l a b c d).length = 2 + (leftP l a b c d).length := by simp [madeP, givenP]; omega
  rw [e, areF_mem, areF_mem]
  by_cases m1 : pairI a b ∈ l <;> by_cases m2 : pairI c d ∈ l <;> simp only [m1, m2, if_true, if_false] at h1 h2 <;> simp only [m1, m2, and_self, and_true, and_false, iff_true, iff_false] <;> omega
theorem made_sorted {n : Nat} {l : PL} {a b c d : Int} (hp : isP n l = true) (h4 : fourI n a b c d = true) (hac : areF l a c = false) (hbd : areF l b d = false) : sortP (madeP l a b c d) = exchP n l a b c d := by
  obtain ⟨_, _, hm, hs⟩ := isP_list hp
  have h := fourI_parts h4
  have n1 : pairI a c ∉ l := fun hh => by rw [areF_mem.2 hh] at hac; cases hac
  have n2 : pairI b d ∉ l := fun hh => by rw [areF_mem.2 hh] at hbd; cases hbd
  have hnd : (madeP l a b c d).Nodup := by
    unfold madeP
    rw [List.nodup_append]
    refine ⟨?_, (plt_nodup hs).sublist List.filter_sublist, ?_⟩
    · simp only [givenP, List.nodup_cons, List.mem_singleton, List.not_mem_nil, not_false_eq_true, List.nodup_nil, and_true]
      unfold pairI
      simp only [Prod.mk.injEq]
      omega
    · intro x hx y hy e
      subst e
      have hl := (List.mem_filter.1 hy).1
      simp only [givenP, List.mem_cons, List.not_mem_nil, or_false] at hx
      rcases hx with rfl | rfl
      · exact n1 hl
      · exact n2 hl
  refine sorted_ext (sortP_sorted hnd) ((sorted_allP n).filter _) fun r => ?_
  unfold exchP
  rw [sortP_mem, List.mem_filter, mem_allP]
  simp only [madeP, givenP, leftP, List.mem_append, List.mem_cons, List.not_mem_nil, or_false, List.mem_filter, decide_eq_true_eq, not_or]
  constructor
  · rintro ((rfl | rfl) | ⟨hr, h1, h2⟩)
    · refine ⟨by unfold pairI; simp only; omega, ?_⟩
      by_cases e : pairI a c = (min b d, max b d)
      · rw [if_pos e]
      · rw [if_neg e, if_pos (show pairI a c = (min a c, max a c) from rfl)]
    · exact ⟨by unfold pairI; simp only; omega, by rw [if_pos (show pairI b d = (min b d, max b d) from rfl)]⟩
    · refine ⟨hm r hr, ?_⟩
      by_cases e1 : r = (min b d, max b d)
      · rw [if_pos e1]
      · by_cases e2 : r = (min a c, max a c)
        · rw [if_neg e1, if_pos e2]
        · rw [if_neg e1, if_neg e2, if_neg (show ¬ r = (min c d, max c d) from h2), if_neg (show ¬ r = (min a b, max a b) from h1)]
          simpa using hr
  · rintro ⟨_, hr⟩
    by_cases e1 : r = (min b d, max b d)
    · exact .inl (.inr e1)
    · by_cases e2 : r = (min a c, max a c)
      · exact .inl (.inl e2)
      · rw [if_neg e1, if_neg e2] at hr
        by_cases e3 : r = (min c d, max c d)
        · rw [if_pos e3] at hr; cases hr
        · rw [if_neg e3] at hr
          by_cases e4 : r = (min a b, max a b)
          · rw [if_pos e4] at hr; cases hr
          · rw [if_neg e4] at hr
            exact .inr ⟨by simpa using hr, e4, e3⟩
end Go.Proofs.Ytmiecebdkadhbaa
/-
  DERIVED: THE SHELF's CONTRACTS AT THIS DUMP, IN PLAIN WORDS (tools/lay-plain.mjs out of 'YtmiecebdkadhbaaShelfHome.lean', which tools/lay-shelf.mjs wrote): THE SAME DECLARATIONS UNDER THE SAME NAMES: 'import', 'namespace', 'open', 'def', 'theorem' AND NOTHING ELSE: no command of the shelf's: FOR A HAND-IN. Each laying: the table of numbers ('.._ren') and one theorem, a field a fact of the dump's own or the kernel's comparison; each contract: ONE APPLICATION.
-/
namespace Go.Proofs
open Go.Shelf
def Try.indexI_ren : Go.Shelf.Ren := ⟨fun | 29 => 123 | n => n, fun | 22 => 25 | 23 => 3 | 3 => 3 | 0 => 0 | 4 => 4 | n => n, fun | n => n⟩
theorem Try.indexI : Go.Proofs.SlLaysN.n29 Try.prog Try.indexI_ren := {
  mixed := by kernel_rfl
  f29 := ⟨Try.f123.name, by decide, Try.func123.trans (congrArg some (by kernel_rfl))⟩
  t0 := Try.underlying0
  a0 := Try.isAgg0
  z0 := Try.sizeOf0
  v0 := Try.zeroValue0
  t3 := Try.underlying3
  a3 := Try.isAgg3
  z3 := Try.sizeOf3
  v3 := Try.zeroValue3
  t4 := Try.underlying4
  a4 := Try.isAgg4
  z4 := Try.sizeOf4
  v4 := Try.zeroValue4
  t22 := Try.underlying25
  a22 := Try.isAgg25
  z22 := Try.sizeOf25
  v22 := Try.zeroValue25
  t23 := Try.underlying3
  a23 := Try.isAgg3
  z23 := Try.sizeOf3
  v23 := Try.zeroValue3 }
def Try.containsI_ren : Go.Shelf.Ren := ⟨fun | 31 => 101 | 29 => 123 | n => n, fun | 22 => 25 | 23 => 3 | 4 => 4 | 3 => 3 | 0 => 0 | n => n, fun | n => n⟩
theorem Try.containsI : Go.Proofs.SlLaysN.n31 Try.prog Try.containsI_ren := {
  mixed := by kernel_rfl
  f29 := ⟨Try.f123.name, by decide, Try.func123.trans (congrArg some (by kernel_rfl))⟩
  f31 := ⟨Try.f101.name, by decide, Try.func101.trans (congrArg some (by kernel_rfl))⟩
  t0 := Try.underlying0
  a0 := Try.isAgg0
  z0 := Try.sizeOf0
  v0 := Try.zeroValue0
  t3 := Try.underlying3
  a3 := Try.isAgg3
  z3 := Try.sizeOf3
  v3 := Try.zeroValue3
  t4 := Try.underlying4
  a4 := Try.isAgg4
  z4 := Try.sizeOf4
  v4 := Try.zeroValue4
  t22 := Try.underlying25
  a22 := Try.isAgg25
  z22 := Try.sizeOf25
  v22 := Try.zeroValue25
  t23 := Try.underlying3
  a23 := Try.isAgg3
  z23 := Try.sizeOf3
  v23 := Try.zeroValue3 }
end Go.Proofs
/-
  'slices.Contains' at numbers, from the shelf.
-/
namespace Go.Proofs.Ytmiecebdkadhbaa
open Go.RowKit

set_option maxRecDepth 100000 in
theorem containsI_any (q : List Int) (x : Int) (A : Option Addr) (c : Nat) (w : World) (hl : q.length ≤ 1048576) (hA : CRead w w.heap.size A (icells q)) :
    Calls Try.prog 101 #[.slice A q.length c, .int .i64 x] w fun e w' => e = .returned (.bool (hasI q x)) ∧ w = w' := by
  by_cases h0 : q.length = 0
  · have hq : q = [] := List.eq_nil_of_length_eq_zero h0
    subst hq
    have h := AnyG.slices_Contains_int_empty Try.containsI A c x w
    change Calls Try.prog 101 _ _ _ at h
    exact h.mono fun _ _ ⟨he, hw⟩ => ⟨he, hw.symm⟩
  · obtain ⟨b, off, rfl, hb, hc⟩ := hA.ints (by omega)
    have h := AnyG.slices_Contains_int Try.containsI b off q.length c q x w (Nat.le_refl _) (by omega) hc
    rw [List.take_length] at h
    change Calls Try.prog 101 _ _ _ at h
    exact h.mono fun _ _ ⟨he, hw⟩ => ⟨he, hw.symm⟩
end Go.Proofs.Ytmiecebdkadhbaa
/-
  'impl.areDifferent', by its contract.
-/
namespace Go.Proofs.Ytmiecebdkadhbaa
open Go.RowKit

/-- people of p, each one another -/
def diffI (p : Int) (q : List Int) : Bool := q.all (fun x => decide (0 ≤ x ∧ x < p)) && decide q.Nodup
theorem diffI_bad {p : Int} {q : List Int} {k : Nat} {x : Int} (hx : q[k]? = some x) (h : ¬ (0 ≤ x ∧ x < p)) : diffI p q = false := by
  cases he : diffI p q with
  | false => rfl
  | true =>
    simp only [diffI, Bool.and_eq_true, decide_eq_true_eq, List.all_eq_true] at he
    exact absurd (he.1 x (List.mem_of_getElem? hx)) h
theorem diffI_dup {p : Int} {q : List Int} {k : Nat} {x : Int} (hx : q[k]? = some x) (h : x ∈ q.take k) : diffI p q = false := by
  cases he : diffI p q with
  | false => rfl
  | true =>
    simp only [diffI, Bool.and_eq_true, decide_eq_true_eq] at he
    have hn := he.2
    rw [List.Nodup, List.pairwise_iff_getElem] at hn
    obtain ⟨i, hi, e⟩ := List.getElem_of_mem h
    rw [List.length_take] at hi
    rw [List.getElem_take] at e
    have hk : k < q.length := (List.getElem?_eq_some_iff.1 hx).1
    rw [List.getElem?_eq_getElem hk] at hx
    simp only [Option.some.injEq] at hx
    exact absurd (e.trans hx.symm) (hn i k (by omega) hk (by omega))
theorem diffI_of {p : Int} {q : List Int} (h : ∀ (k : Nat) (x : Int), k < q.length → q[k]? = some x → (0 ≤ x ∧ x < p) ∧ x ∉ q.take k) : diffI p q = true := by
  simp only [diffI, Bool.and_eq_true, decide_eq_true_eq, List.all_eq_true]
  constructor
  · intro x hx
    obtain ⟨i, hi, e⟩ := List.getElem_of_mem hx
    exact (h i x hi (by rw [List.getElem?_eq_getElem hi, e])).1
  · rw [List.Nodup, List.pairwise_iff_getElem]
    intro i j hi hj hij e
    refine (h j q[j] hj (List.getElem?_eq_getElem hj)).2 ?_
    rw [List.mem_take_iff_getElem]
    exact ⟨i, by omega, e⟩
theorem diff_four (p a b c d : Int) : diffI p [a, b, c, d] = fourI p a b c d := by
  unfold diffI fourI
  rw [Bool.eq_iff_iff]
  simp only [Bool.and_eq_true, decide_eq_true_eq, List.all_eq_true, List.nodup_cons, List.mem_cons, List.not_mem_nil, or_false, not_or, not_false_eq_true, List.nodup_nil, and_true, forall_eq_or_imp, forall_eq]
  constructor
  · rintro ⟨⟨h1, h2, h3, h4⟩, ⟨e1, e2, e3⟩, ⟨e4, e5⟩, e6⟩
    exact ⟨h1, h2, h3, h4, e1, e2, e3, e4, e5, e6⟩
  · rintro ⟨h1, h2, h3, h4, e1, e2, e3, e4, e5, e6⟩
    exact ⟨⟨h1, h2, h3, h4⟩, ⟨e1, e2, e3⟩, ⟨e4, e5⟩, e6⟩

set_option maxHeartbeats 2000000 in
set_option maxRecDepth 100000 in
theorem areDifferent_any (p : Int) (q : List Int) (A B : Option Addr) (n c d : Nat) (w : World) (hq : q.length ≤ 1048576) (hd : q.length ≤ d) (hB : CRead w w.heap.size B (icells q)) :
    Calls Try.prog 71 #[.agg #[.int .i64 p, .slice A n c], .slice B q.length d] w fun e w' => e = .returned (.bool (diffI p q)) ∧ Below w.heap.size w w' := by
  go_enter Try.func71, Try.ntmps71
  go_wp2
  go_loopw [9] (fun i wr => ∃ k : Nat, k ≤ q.length ∧ i = .int .i64 k ∧ (∀ (j : Nat) (x : Int), j < k → q[j]? = some x → (0 ≤ x ∧ x < p) ∧ x ∉ q.take j) ∧ Below (w.heap.size + 1) (w.alloc (Obj.cells #[.int .i64 p, .slice A n c] 31)) wr) (fun i _ => q.length - (intOf i).toNat)
  case atStart => exact ⟨0, Nat.zero_le _, rfl, fun j x hj => by omega, by simpa using Below.refl _ _⟩
  case round =>
    obtain ⟨k, hk, rfl, hg, hb⟩ := hrel
    have Hg := Lib.hid hg
    have hs := hb.size
    simp only [World.size_alloc] at hs
    have hbw : Below w.heap.size w wr := Below.trans (b := _) (by go_grown) (hb.mono (by omega))
    have u0 : wr.cell? ⟨w.heap.size, 0, none⟩ = some (.int .i64 p) := carry hb (by simp) (by omega)
    have u1 : wr.cell? ⟨w.heap.size, 1, none⟩ = some (.slice A n c) := carry hb (by simp) (by omega)
    clear hg
    by_cases hlt : k < q.length
    · obtain ⟨x, hx⟩ := getSome q k hlt
      have RB := (hB.below hbw (Nat.le_refl _)).more hbw.size
      obtain ⟨b, off, rfl, hbb, v0⟩ := RB.int hx
      have hki : (k : Int) < (q.length : Int) := by omega
      have hkd : (k : Int) ≤ (d : Int) := by omega
      have hkd2 : k ≤ d := by omega
      have RBf := RB.front k
      have hlk : (q.take k).length = k := by rw [List.length_take]; omega
      have Hx := Lib.hid hx
      clear hx
      by_cases hman : 0 ≤ x ∧ x < p
      · have Hm := Lib.hid (isMan_yes hman)
        have Hman := Lib.hid hman
        clear hman
        go_wp2_with fail
        refine (isPerson_any p x A n c _).mono ?_
        rw [Hm.out]
        rintro e w2 ⟨rfl, hb2⟩
        have h := containsI_any (q.take k) x (some ⟨b, off, none⟩) d w2 (by omega) ((RBf.below hb2 (Nat.le_refl _)).more hb2.size)
        rw [hlk] at h
        go_wp2_with fail
        refine h.mono ?_
        rintro e w3 ⟨rfl, rfl⟩
        clear h
        cases hh : hasI (q.take k) x with
        | true =>
          have He := Lib.hid (diffI_dup (p := p) Hx.out (hasI_mem.1 hh))
          clear hh
          go_wp2
          go_ret
          exact ⟨by rw [He.out]; rfl, hbw.trans (hb2.mono (by omega))⟩
        | false =>
          have hnm : x ∉ q.take k := fun hm => by rw [hasI_mem.2 hm] at hh; cases hh
          clear hh
          go_wp2
          go_roundw
          case rel =>
            refine ⟨k + 1, by omega, by go_num, fun j z hj hz => ?_, hb.trans (hb2.mono (by omega))⟩
            by_cases hjk : j = k
            · subst hjk
              rw [Hx.out] at hz
              simp only [Option.some.injEq] at hz
              subst hz
              exact ⟨Hman.out, hnm⟩
            · exact Hg.out j z (by omega) hz
          case measure => simp [intOf]; omega
      · have Hm := Lib.hid (isMan_no hman)
        have He := Lib.hid (diffI_bad (p := p) Hx.out hman)
        clear hman
        go_wp2_with fail
        refine (isPerson_any p x A n c _).mono ?_
        rw [Hm.out]
        rintro e w2 ⟨rfl, hb2⟩
        go_wp2
        go_ret
        exact ⟨by rw [He.out]; rfl, hbw.trans (hb2.mono (by omega))⟩
    · have hkl : k = q.length := by omega
      have hge : ¬ ((k : Int) < (q.length : Int)) := by omega
      have He := Lib.hid (diffI_of (p := p) (q := q) fun j x hj hx => Hg.out j x (by omega) hx)
      go_wp2
      go_ret
      exact ⟨by rw [He.out]; rfl, hbw⟩
end Go.Proofs.Ytmiecebdkadhbaa
/-
  HOW FAR PEOPLE ARE, in pure terms: who is reached by at most so many steps, the distance, and what a queue of people who are looked at one after another knows of it.
-/
namespace Go.Proofs.Ytmiecebdkadhbaa

/-- who is reached by a walk of at most d steps -/
def rch (n : Nat) (t : Nat → Nat → Bool) (a : Nat) : Nat → Nat → Bool
  | 0, x => decide (x = a)
  | d + 1, x => rch n t a d x || (List.range n).any fun y => rch n t a d y && t y x
section
variable {n a : Nat} {t : Nat → Nat → Bool}
theorem rch_succ {d x : Nat} : rch n t a (d + 1) x = true ↔ rch n t a d x = true ∨ ∃ y, y < n ∧ rch n t a d y = true ∧ t y x = true := by
  simp only [rch, Bool.or_eq_true, List.any_eq_true, List.mem_range, Bool.and_eq_true]
theorem rch_mono {d x : Nat} (h : rch n t a d x = true) : ∀ {e : Nat}, d ≤ e → rch n t a e x = true := by
  intro e he
  induction e with
  | zero => rw [show d = 0 by omega] at h; exact h
  | succ e ih =>
    by_cases hd : d = e + 1
    · rw [← hd]; exact h
    · exact rch_succ.2 (.inl (ih (by omega)))
theorem rch_lt (ha : a < n) (ht : ∀ y x, t y x = true → x < n) {d x : Nat} (h : rch n t a d x = true) : x < n := by
  induction d generalizing x with
  | zero => simp [rch] at h; omega
  | succ d ih =>
    rcases rch_succ.1 h with h | ⟨y, _, _, h⟩
    · exact ih h
    · exact ht y x h
theorem rch_stop {d : Nat} (h : ∀ x, rch n t a (d + 1) x = rch n t a d x) (e : Nat) : ∀ x, rch n t a (d + e) x = rch n t a d x := by
  induction e with
  | zero => intro x; rfl
  | succ e ih =>
    intro x
    rw [← h x, Bool.eq_iff_iff]
    show rch n t a ((d + e) + 1) x = true ↔ _
    rw [rch_succ, rch_succ, ih x]
    constructor
    · rintro (h1 | ⟨y, hy, h1, h2⟩)
      · exact .inl h1
      · exact .inr ⟨y, hy, by rw [← ih y]; exact h1, h2⟩
    · rintro (h1 | ⟨y, hy, h1, h2⟩)
      · exact .inl h1
      · exact .inr ⟨y, hy, by rw [ih y]; exact h1, h2⟩
end
/-- the distance of x, -1 if there is none -/
def IsDist (n : Nat) (t : Nat → Nat → Bool) (a x : Nat) (o : Int) : Prop :=
  (o = -1 ∧ ∀ d, rch n t a d x = false) ∨ ∃ d : Nat, o = d ∧ rch n t a d x = true ∧ ∀ e, e < d → rch n t a e x = false
section
variable {n a x : Nat} {t : Nat → Nat → Bool}
theorem IsDist.unique {o o' : Int} (h : IsDist n t a x o) (h' : IsDist n t a x o') : o = o' := by
  rcases h with ⟨rfl, h⟩ | ⟨d, rfl, h1, h2⟩
  · rcases h' with ⟨rfl, _⟩ | ⟨d, rfl, h1, _⟩
    · rfl
    · rw [h d] at h1; cases h1
  · rcases h' with ⟨rfl, h⟩ | ⟨d', rfl, h1', h2'⟩
    · rw [h d] at h1; cases h1
    · rcases Nat.lt_trichotomy d d' with hd | hd | hd
      · rw [h2' d hd] at h1; cases h1
      · rw [hd]
      · rw [h2 d' hd] at h1'; cases h1'
theorem least_rch (d : Nat) (h : rch n t a d x = true) : ∃ m, m ≤ d ∧ rch n t a m x = true ∧ ∀ e, e < m → rch n t a e x = false := by
  induction d with
  | zero => exact ⟨0, Nat.le_refl _, h, fun e he => by omega⟩
  | succ d ih =>
    cases hd : rch n t a d x with
    | true => obtain ⟨m, h1, h2, h3⟩ := ih hd; exact ⟨m, by omega, h2, h3⟩
    | false =>
      refine ⟨d + 1, Nat.le_refl _, h, fun e he => ?_⟩
      cases he2 : rch n t a e x with
      | false => rfl
      | true => rw [rch_mono he2 (show e ≤ d by omega)] at hd; cases hd
theorem exists_dist (n : Nat) (t : Nat → Nat → Bool) (a x : Nat) : ∃ o, IsDist n t a x o := by
  by_cases h : ∃ d, rch n t a d x = true
  · obtain ⟨d, hd⟩ := h
    obtain ⟨m, _, h2, h3⟩ := least_rch d hd
    exact ⟨m, .inr ⟨m, rfl, h2, h3⟩⟩
  · refine ⟨-1, .inl ⟨rfl, fun d => ?_⟩⟩
    cases hd : rch n t a d x with
    | false => rfl
    | true => exact absurd ⟨d, hd⟩ h
end
noncomputable def distO (n : Nat) (t : Nat → Nat → Bool) (a x : Nat) : Int := Classical.choose (exists_dist n t a x)
section
variable {n a : Nat} {t : Nat → Nat → Bool}
theorem distO_spec (n : Nat) (t : Nat → Nat → Bool) (a x : Nat) : IsDist n t a x (distO n t a x) := Classical.choose_spec (exists_dist n t a x)
theorem IsDist.eq {x : Nat} {o : Int} (h : IsDist n t a x o) : distO n t a x = o := (distO_spec n t a x).unique h
theorem distO_ge (n : Nat) (t : Nat → Nat → Bool) (a x : Nat) : -1 ≤ distO n t a x := by
  rcases distO_spec n t a x with ⟨h, _⟩ | ⟨d, h, _⟩ <;> omega
theorem distO_self : distO n t a a = 0 := IsDist.eq (.inr ⟨0, rfl, by simp [rch], fun e he => by omega⟩)
/-- a queue of people who are looked at one after another, with what is told of how far they are; k of them have been looked at -/
structure Bfs (n : Nat) (t : Nat → Nat → Bool) (a : Nat) (Q : List Nat) (o : Nat → Int) (k : Nat) : Prop where
  start : a ∈ Q
  inn : ∀ x, x ∈ Q → x < n
  nodup : Q.Nodup
  out : ∀ x, x ∉ Q → o x = -1
  known : ∀ x, x ∈ Q → 0 ≤ o x
  exact : ∀ x, x ∈ Q → IsDist n t a x (o x)
  sorted : ∀ (i j x y : Nat), i ≤ j → Q[i]? = some x → Q[j]? = some y → o x ≤ o y
  small : ∀ x, x ∈ Q → o x ≤ Q.length
  last : ∀ (x u : Nat), x ∈ Q → Q[k]? = some u → o x ≤ o u + 1
  closed : ∀ (i x b : Nat), i < k → Q[i]? = some x → b < n → t x b = true → b ∈ Q
def updI (o : Nat → Int) (b : Nat) (v : Int) : Nat → Int := fun x => if x = b then v else o x
theorem Bfs.begin (ha : a < n) : Bfs n t a [a] (updI (fun _ => -1) a 0) 0 := by
  refine ⟨by simp, fun x hx => by simp at hx; omega, by simp, fun x hx => ?_, fun x hx => ?_, fun x hx => ?_, fun i j x y _ hi hj => ?_, fun x hx => ?_, fun x u hx hu => ?_, fun i x b hi => by omega⟩
  · simp only [List.mem_singleton] at hx; simp [updI, hx]
  · simp only [List.mem_singleton] at hx; simp [updI, hx]
  · simp only [List.mem_singleton] at hx
    subst hx
    simp only [updI, if_true]
    exact .inr ⟨0, rfl, by simp [rch], fun e he => by omega⟩
  · have h1 : i = 0 := by have := (List.getElem?_eq_some_iff.1 hi).1; simp at this; exact this
    have h2 : j = 0 := by have := (List.getElem?_eq_some_iff.1 hj).1; simp at this; exact this
    subst h1 h2
    rw [hi] at hj
    rw [Option.some.inj hj]
    exact Int.le_refl _
  · simp only [List.mem_singleton] at hx
    subst hx
    simp [updI]
  · simp only [List.mem_singleton] at hx
    simp at hu
    subst hx hu
    simp [updI]
theorem Bfs.few {Q : List Nat} {o : Nat → Int} {k : Nat} (h : Bfs n t a Q o k) : Q.length ≤ n := by
  have := List.Nodup.length_le_of_subset (l₁ := Q) (l₂ := List.range n) h.nodup fun x hx => List.mem_range.2 (h.inn x hx)
  simpa using this
/-- all who are nearer than the one that is looked at are in the queue -/
theorem Bfs.near {Q : List Nat} {o : Nat → Int} {k u : Nat} (h : Bfs n t a Q o k) (hu : Q[k]? = some u) (j : Nat) : (j : Int) ≤ o u → ∀ x, x < n → rch n t a j x = true → x ∈ Q := by
  induction j with
  | zero => intro _ x _ hx; simp [rch] at hx; rw [hx]; exact h.start
  | succ j ih =>
    intro hj x hxn hx
    rcases rch_succ.1 hx with hx | ⟨y, hyn, hy, hyx⟩
    · exact ih (by omega) x hxn hx
    · have hyQ := ih (by omega) y hyn hy
      have hoy : o y ≤ j := by
        rcases h.exact y hyQ with ⟨e, _⟩ | ⟨d, e, _, hm⟩
        · omega
        · rw [e]
          by_cases hdj : d ≤ j
          · omega
          · rw [hm j (by omega)] at hy; cases hy
      obtain ⟨i, hi⟩ := List.getElem?_of_mem hyQ
      by_cases hik : i < k
      · exact h.closed i y x hik hi hxn hyx
      · have := h.sorted k i u y (by omega) hu hi
        omega
theorem Bfs.push {Q : List Nat} {o : Nat → Int} {k u b : Nat} (h : Bfs n t a Q o k) (hu : Q[k]? = some u) (hb : b < n) (hub : t u b = true) (hbQ : o b < 0) : Bfs n t a (Q ++ [b]) (updI o b (o u + 1)) k := by
  have hbq : b ∉ Q := fun hm => by have := h.known b hm; omega
  have huQ : u ∈ Q := List.mem_of_getElem? hu
  have hne : u ≠ b := fun e => hbq (e ▸ huQ)
  have hold : ∀ x, x ∈ Q → updI o b (o u + 1) x = o x := fun x hx => if_neg fun (e : x = b) => hbq (e ▸ hx)
  have hnew : updI o b (o u + 1) b = o u + 1 := if_pos rfl
  have hk := (List.getElem?_eq_some_iff.1 hu).1
  have hat : ∀ {i x : Nat}, (Q ++ [b])[i]? = some x → (i < Q.length ∧ Q[i]? = some x) ∨ (i = Q.length ∧ x = b) := by
    intro i x hi
    by_cases hlt : i < Q.length
    · left; rw [List.getElem?_append_left hlt] at hi; exact ⟨hlt, hi⟩
    · right
      rw [List.getElem?_append_right (by omega)] at hi
      have := (List.getElem?_eq_some_iff.1 hi).1
      simp at this
      have e : i - Q.length = 0 := by omega
      rw [e] at hi
      simp at hi
      exact ⟨by omega, hi.symm⟩
  refine ⟨List.mem_append_left _ h.start, fun x hx => ?_, ?_, fun x hx => ?_, fun x hx => ?_, fun x hx => ?_, fun i j x y hij hi hj => ?_, fun x hx => ?_, fun x v hx hv => ?_, fun i x c hi hx hc htc => ?_⟩
  · rcases List.mem_append.1 hx with hx | hx
    · exact h.inn x hx
    · simp at hx; omega
  · rw [List.nodup_append]
    refine ⟨h.nodup, by simp, fun x hx y hy => ?_⟩
    simp at hy
    subst hy
    exact fun e => hbq (e ▸ hx)
  · rw [List.mem_append, not_or] at hx
    have hxb : x ≠ b := by simpa using hx.2
    rw [updI, if_neg hxb]
    exact h.out x hx.1
  · rcases List.mem_append.1 hx with hx | hx
    · rw [hold x hx]; exact h.known x hx
    · simp at hx; subst hx; rw [hnew]; have := h.known u huQ; omega
  · rcases List.mem_append.1 hx with hx | hx
    · rw [hold x hx]; exact h.exact x hx
    · simp at hx; subst hx; rw [hnew]
      rcases h.exact u huQ with ⟨e, _⟩ | ⟨d, e, hd, _⟩
      · have := h.known u huQ; omega
      · refine .inr ⟨d + 1, by rw [e]; rfl, rch_succ.2 (.inr ⟨u, h.inn u huQ, hd, hub⟩), fun j hj => ?_⟩
        cases hr : rch n t a j x with
        | false => rfl
        | true => exact absurd (h.near hu j (by rw [e]; omega) x hb hr) hbq
  · rcases hat hi with ⟨h1, hi'⟩ | ⟨h1, rfl⟩
    · rcases hat hj with ⟨h2, hj'⟩ | ⟨h2, rfl⟩
      · rw [hold x (List.mem_of_getElem? hi'), hold y (List.mem_of_getElem? hj')]; exact h.sorted i j x y hij hi' hj'
      · rw [hold x (List.mem_of_getElem? hi'), hnew]; exact h.last x u (List.mem_of_getElem? hi') hu
    · rcases hat hj with ⟨h2, hj'⟩ | ⟨h2, rfl⟩
      · omega
      · exact Int.le_refl _
  · rw [List.length_append, List.length_singleton]
    rcases List.mem_append.1 hx with hx | hx
    · rw [hold x hx]; have := h.small x hx; omega
    · simp at hx; subst hx; rw [hnew]; have := h.small u huQ; omega
  · rw [List.getElem?_append_left hk, hu] at hv
    have := Option.some.inj hv
    subst this
    rw [hold u huQ]
    rcases List.mem_append.1 hx with hx | hx
    · rw [hold x hx]; exact h.last x u hx hu
    · simp at hx; subst hx; rw [hnew]; exact Int.le_refl _
  · rcases hat hx with ⟨h1, hx⟩ | ⟨h1, rfl⟩
    · exact List.mem_append_left _ (h.closed i x c hi hx hc htc)
    · omega
theorem Bfs.next {Q : List Nat} {o : Nat → Int} {k u : Nat} (h : Bfs n t a Q o k) (hu : Q[k]? = some u) (hall : ∀ b, b < n → t u b = true → b ∈ Q) : Bfs n t a Q o (k + 1) := by
  refine ⟨h.start, h.inn, h.nodup, h.out, h.known, h.exact, h.sorted, h.small, fun x v hx hv => ?_, fun i x b hi hx hb htb => ?_⟩
  · have h1 := h.last x u hx hu
    have h2 := h.sorted k (k + 1) u v (by omega) hu hv
    omega
  · by_cases hik : i = k
    · subst hik
      rw [hu] at hx
      have := Option.some.inj hx
      subst this
      exact hall b hb htb
    · exact h.closed i x b (by omega) hx hb htb
theorem Bfs.done {Q : List Nat} {o : Nat → Int} {k : Nat} (h : Bfs n t a Q o k) (hk : Q.length ≤ k) (ht : ∀ y x, t y x = true → x < n) (x : Nat) : o x = distO n t a x := by
  have hcl : ∀ d y, rch n t a d y = true → y ∈ Q := by
    intro d
    induction d with
    | zero => intro y hy; simp [rch] at hy; rw [hy]; exact h.start
    | succ d ih =>
      intro y hy
      rcases rch_succ.1 hy with hy | ⟨z, hz, h1, h2⟩
      · exact ih y hy
      · obtain ⟨i, hi⟩ := List.getElem?_of_mem (ih z h1)
        have := (List.getElem?_eq_some_iff.1 hi).1
        exact h.closed i z y (by omega) hi (ht z y h2) h2
  by_cases hx : x ∈ Q
  · exact (h.exact x hx).eq.symm
  · rw [h.out x hx]
    refine (IsDist.eq (.inl ⟨rfl, fun d => ?_⟩)).symm
    cases hr : rch n t a d x with
    | false => rfl
    | true => exact absurd (hcl d x hr) hx
end
theorem range_set (n : Nat) (o : Nat → Int) (b : Nat) (v : Int) : ((List.range n).map o).set b v = (List.range n).map (updI o b v) := by
  refine List.ext_getElem (by simp) fun i h1 h2 => ?_
  simp only [List.length_set, List.length_map, List.length_range] at h1
  rw [List.getElem_set]
  simp only [List.getElem_map, List.getElem_range, updI]
  by_cases h : b = i
  · rw [if_pos h, if_pos h.symm]
  · rw [if_neg h, if_neg (fun e => h e.symm)]
/-- the crowd of all who are friends of some, with those told -/
def orT (T : Nat → Nat) (cs : List Nat) (R : Nat) : Nat := cs.foldl (fun r c => r ||| T c) R
theorem orT_snoc (T : Nat → Nat) (cs : List Nat) (c R : Nat) : orT T (cs ++ [c]) R = orT T cs R ||| T c := by simp [orT]
theorem orT_bit (T : Nat → Nat) (cs : List Nat) (R x : Nat) : (orT T cs R).testBit x = (R.testBit x || cs.any fun c => (T c).testBit x) := by
  induction cs generalizing R with
  | nil => simp [orT]
  | cons c cs ih =>
    show (orT T cs (R ||| T c)).testBit x = _
    rw [ih, Nat.testBit_or, List.any_cons, Bool.or_assoc]
theorem orT_small (T : Nat → Nat) (cs : List Nat) (R : Nat) (hR : R < 65536) (hT : ∀ c ∈ cs, T c < 65536) : orT T cs R < 65536 := by
  induction cs generalizing R with
  | nil => exact hR
  | cons c cs ih => exact ih (R ||| T c) (Nat.or_lt_two_pow (n := 16) hR (hT c List.mem_cons_self)) fun c hc => hT c (List.mem_cons_of_mem _ hc)
theorem orT_ge (T : Nat → Nat) (cs : List Nat) (R : Nat) : R ≤ orT T cs R := by
  induction cs generalizing R with
  | nil => exact Nat.le_refl _
  | cons c cs ih => exact Nat.le_trans Nat.left_le_or (ih (R ||| T c))
/-- what the program knows: the crowd that is reached by at most d steps -/
structure Reached (n : Nat) (t : Nat → Nat → Bool) (a d R : Nat) : Prop where
  bit : ∀ x, R.testBit x = rch n t a d x
  most : d ≤ R
  lt : R < 65536
theorem Reached.begin (n : Nat) (t : Nat → Nat → Bool) {a : Nat} (ha : a < 16) : Reached n t a 0 (2 ^ a) := by
  refine ⟨fun x => ?_, Nat.zero_le _, Nat.pow_lt_pow_right (n := 16) (by omega) ha⟩
  rw [Nat.testBit_two_pow]
  simp only [rch]
  rw [decide_eq_decide]
  exact eq_comm
theorem Reached.step_bit {n : Nat} {t : Nat → Nat → Bool} {a d R : Nat} {T : Nat → Nat} {cs : List Nat} (h : Reached n t a d R) (hcs : ∀ b, R.testBit b = true ↔ b ∈ cs) (hin : ∀ c ∈ cs, c < n) (hT : ∀ c x, c ∈ cs → (T c).testBit x = t c x) (x : Nat) :
    (orT T cs R).testBit x = rch n t a (d + 1) x := by
  rw [orT_bit, h.bit, Bool.eq_iff_iff, rch_succ, Bool.or_eq_true, List.any_eq_true]
  constructor
  · rintro (h1 | ⟨c, hc, h2⟩)
    · exact .inl h1
    · exact .inr ⟨c, hin c hc, by rw [← h.bit]; exact (hcs c).2 hc, by rw [← hT c x hc]; exact h2⟩
  · rintro (h1 | ⟨y, hy, h1, h2⟩)
    · exact .inl h1
    · have hc := (hcs y).1 (by rw [h.bit]; exact h1)
      exact .inr ⟨y, hc, by rw [hT y x hc]; exact h2⟩
theorem Reached.step {n : Nat} {t : Nat → Nat → Bool} {a d R : Nat} {T : Nat → Nat} {cs : List Nat} (h : Reached n t a d R) (hcs : ∀ b, R.testBit b = true ↔ b ∈ cs) (hin : ∀ c ∈ cs, c < n) (hT : ∀ c x, c ∈ cs → (T c).testBit x = t c x) (hTs : ∀ c ∈ cs, T c < 65536) (hne : orT T cs R ≠ R) :
    Reached n t a (d + 1) (orT T cs R) := by
  have h1 := orT_ge T cs R
  have h2 := h.most
  exact ⟨h.step_bit hcs hin hT, by omega, orT_small T cs R h.lt hTs⟩
theorem Reached.stop {n : Nat} {t : Nat → Nat → Bool} {a d R b : Nat} {T : Nat → Nat} {cs : List Nat} (h : Reached n t a d R) (hcs : ∀ b, R.testBit b = true ↔ b ∈ cs) (hin : ∀ c ∈ cs, c < n) (hT : ∀ c x, c ∈ cs → (T c).testBit x = t c x) (heq : orT T cs R = R) (hb : R.testBit b = false) :
    distO n t a b = -1 := by
  have hs := rch_stop (n := n) (t := t) (a := a) (d := d) fun x => by rw [← h.step_bit hcs hin hT x, heq, h.bit]
  refine IsDist.eq (.inl ⟨rfl, fun e => ?_⟩)
  cases hr : rch n t a e b with
  | false => rfl
  | true =>
    have h1 := rch_mono hr (show e ≤ d + e by omega)
    rw [hs e b, ← h.bit, hb] at h1
    cases h1
theorem Reached.found {n : Nat} {t : Nat → Nat → Bool} {a d R b : Nat} (h : Reached n t a d R) (hb : R.testBit b = true) (hno : ∀ e, e < d → rch n t a e b = false) : distO n t a b = d :=
  IsDist.eq (.inr ⟨d, rfl, by rw [← h.bit]; exact hb, hno⟩)
end Go.Proofs.Ytmiecebdkadhbaa
/-
  SEATS: who sits beside whom, strangers beside each other, seats turned. Nothing here speaks of the program.
-/
namespace Go.Proofs.Ytmiecebdkadhbaa
open Go.RowKit

def prP (a b : Int) : Int × Int := (min a b, max a b)
def alongP (s : List Int) : PL := (List.range (s.length - 1)).map fun i => prP (s.getD i 0) (s.getD (i + 1) 0)
def aroundP (s : List Int) : PL := alongP s ++ [prP (s.getD (s.length - 1) 0) (s.getD 0 0)]
theorem alongP_length (s : List Int) : (alongP s).length = s.length - 1 := by simp [alongP]
theorem aroundP_length {s : List Int} (h : 0 < s.length) : (aroundP s).length = s.length := by simp [aroundP, alongP_length]; omega
theorem alongP_at {s : List Int} {k : Nat} (h : k < s.length - 1) : (alongP s)[k]? = some (prP (s.getD k 0) (s.getD (k + 1) 0)) := by
  unfold alongP
  rw [List.getElem?_map, List.getElem?_range h]
  rfl
theorem alongP_take {s : List Int} {k : Nat} (h : k < s.length - 1) : (alongP s).take (k + 1) = (alongP s).take k ++ [prP (s.getD k 0) (s.getD (k + 1) 0)] := by
  rw [List.take_add_one, alongP_at h]
  rfl
theorem aroundP_at {s : List Int} {k : Nat} (h : k < s.length) : (aroundP s)[k]? = some (prP (s.getD k 0) (s.getD ((k + 1) % s.length) 0)) := by
  unfold aroundP
  by_cases hk : k < s.length - 1
  · rw [List.getElem?_append_left (by rw [alongP_length]; exact hk), alongP_at hk, Nat.mod_eq_of_lt (by omega)]
  · have e : k = s.length - 1 := by omega
    subst e
    rw [List.getElem?_append_right (by rw [alongP_length]; exact Nat.le_refl _), alongP_length, Nat.sub_self, show s.length - 1 + 1 = s.length by omega, Nat.mod_self]
    rfl
theorem prP_in {n a b : Int} (ha : 0 ≤ a ∧ a < n) (hb : 0 ≤ b ∧ b < n) : 0 ≤ (prP a b).1 ∧ (prP a b).1 < n ∧ 0 ≤ (prP a b).2 ∧ (prP a b).2 < n := by
  unfold prP
  simp only
  omega
theorem getD_in {n : Int} {s : List Int} (h : ∀ x ∈ s, 0 ≤ x ∧ x < n) {i : Nat} (hi : i < s.length) : 0 ≤ s.getD i 0 ∧ s.getD i 0 < n := by
  refine h _ ?_
  rw [List.getD_eq_getElem?_getD, List.getElem?_eq_getElem hi]
  exact List.getElem_mem hi
theorem getD_at {s : List Int} {i : Nat} (hi : i < s.length) : s[i]? = some (s.getD i 0) := by
  rw [List.getD_eq_getElem?_getD, List.getElem?_eq_getElem hi]; rfl
theorem alongP_in {n : Int} {s : List Int} (h : ∀ x ∈ s, 0 ≤ x ∧ x < n) : ∀ q ∈ alongP s, 0 ≤ q.1 ∧ q.1 < n ∧ 0 ≤ q.2 ∧ q.2 < n := by
  intro q hq
  obtain ⟨i, hi, rfl⟩ := List.mem_map.1 hq
  have := List.mem_range.1 hi
  exact prP_in (getD_in h (by omega)) (getD_in h (by omega))
theorem aroundP_in {n : Int} {s : List Int} (h : ∀ x ∈ s, 0 ≤ x ∧ x < n) (h0 : 0 < s.length) : ∀ q ∈ aroundP s, 0 ≤ q.1 ∧ q.1 < n ∧ 0 ≤ q.2 ∧ q.2 < n := by
  intro q hq
  rcases List.mem_append.1 hq with h1 | h1
  · exact alongP_in h q h1
  · rw [List.mem_singleton] at h1
    subst h1
    exact prP_in (getD_in h (by omega)) (getD_in h h0)

/-- how many pairs are strangers -/
def strangeN (t : Nat → Nat → Bool) (L : PL) : Nat := (L.filter fun q => !t q.1.toNat q.2.toNat).length
theorem strangeN_le (t : Nat → Nat → Bool) (L : PL) : strangeN t L ≤ L.length := List.length_filter_le _ _
theorem strangeN_snoc (t : Nat → Nat → Bool) (L : PL) (q : Int × Int) : strangeN t (L ++ [q]) = strangeN t L + if t q.1.toNat q.2.toNat then 0 else 1 := by
  unfold strangeN
  rw [List.filter_append, List.length_append]
  cases h : t q.1.toNat q.2.toNat <;> simp [h]
theorem strangeN_next {t : Nat → Nat → Bool} {L : PL} {k : Nat} {q : Int × Int} (h : L[k]? = some q) : strangeN t (L.take (k + 1)) = strangeN t (L.take k) + if t q.1.toNat q.2.toNat then 0 else 1 := by
  rw [List.take_add_one, h, Option.toList_some, strangeN_snoc]
theorem strangeN_take (t : Nat → Nat → Bool) (L : PL) (k : Nat) : strangeN t (L.take k) ≤ k := Nat.le_trans (strangeN_le _ _) (by simp; omega)
theorem adj_pr (l : PL) (a b : Nat) : adj l (prP (a : Int) b).1.toNat (prP (a : Int) b).2.toNat = adj l a b := by
  unfold prP
  simp only
  rcases Nat.le_total a b with h | h
  · rw [show (min (a : Int) b).toNat = a by omega, show (max (a : Int) b).toNat = b by omega]
  · rw [show (min (a : Int) b).toNat = b by omega, show (max (a : Int) b).toNat = a by omega, adj_comm]
def resIsSeating (p : Int) (l : PL) (q : List Int) : Bool × Bool :=
  if isP p l then (decide (3 ≤ q.length) && isNamingI p q && decide (strangeN (adj l) (aroundP q) = 0), true) else (false, false)
def resIsRow (p : Int) (l : PL) (q : List Int) : Bool × Bool :=
  if isP p l then (decide (1 ≤ q.length) && isNamingI p q && decide (strangeN (adj l) (alongP q) = 0), true) else (false, false)
def resStrangersBeside (p : Int) (l : PL) (q : List Int) : Int × Bool :=
  if isP p l && decide (3 ≤ p) && isNamingI p q then ((strangeN (adj l) (aroundP q) : Int), true) else (0, false)

/-! ## Turned seats -/
/-- those from i up to before m, of a turn from i to j, in the other order -/
def turnU (q : List Int) (i j m : Nat) : Nat → Int := fun k => if i ≤ k ∧ k < m then q.getD (i + j - k) 0 else q.getD k 0
/-- the s outer ones at both ends in the other order -/
def turnB (q : List Int) (i j s : Nat) : Nat → Int := fun k => if (i ≤ k ∧ k < i + s) ∨ (j < k + s ∧ k ≤ j) then q.getD (i + j - k) 0 else q.getD k 0
def turnI (q : List Int) (i j : Nat) : List Int := (List.range q.length).map (turnU q i j (j + 1))
theorem turnI_length (q : List Int) (i j : Nat) : (turnI q i j).length = q.length := by simp [turnI]
theorem range_getD (q : List Int) : (List.range q.length).map (fun k => q.getD k 0) = q := by
  refine List.ext_getElem (by simp) fun i h1 h2 => ?_
  simp [List.getD_eq_getElem?_getD, List.getElem?_eq_getElem h2]
theorem turnU_start (q : List Int) (i j : Nat) : (List.range q.length).map (turnU q i j i) = q := by
  refine Eq.trans (List.map_congr_left fun k _ => ?_) (range_getD q)
  unfold turnU
  rw [if_neg (by omega)]
theorem turnU_next (q : List Int) {i j m : Nat} (him : i ≤ m) : updI (turnU q i j m) m (q.getD (i + j - m) 0) = turnU q i j (m + 1) := by
  funext k
  unfold updI turnU
  by_cases hk : k = m
  · subst hk; rw [if_pos rfl, if_pos (by omega)]
  · rw [if_neg hk]
    by_cases h : i ≤ k ∧ k < m
    · rw [if_pos h, if_pos (by omega)]
    · rw [if_neg h, if_neg (by omega)]
theorem turnB_start (q : List Int) (i j : Nat) : (List.range q.length).map (turnB q i j 0) = q := by
  refine Eq.trans (List.map_congr_left fun k _ => ?_) (range_getD q)
  unfold turnB
  rw [if_neg (by omega)]
theorem turnB_next (q : List Int) {i j s : Nat} (h : i + s < j - s) (hj : s ≤ j) : updI (updI (turnB q i j s) (i + s) (turnB q i j s (j - s))) (j - s) (turnB q i j s (i + s)) = turnB q i j (s + 1) := by
  have e1 : turnB q i j s (j - s) = q.getD (j - s) 0 := by unfold turnB; rw [if_neg (by omega)]
  have e2 : turnB q i j s (i + s) = q.getD (i + s) 0 := by unfold turnB; rw [if_neg (by omega)]
  rw [e1, e2]
  funext k
  unfold updI
  by_cases h1 : k = j - s
  · subst h1
    rw [if_pos rfl]
    unfold turnB
    rw [if_pos (by omega)]
    congr 1
    omega
  · rw [if_neg h1]
    by_cases h2 : k = i + s
    · subst h2
      rw [if_pos rfl]
      unfold turnB
      rw [if_pos (by omega)]
      congr 1
      omega
    · rw [if_neg h2]
      unfold turnB
      by_cases h3 : (i ≤ k ∧ k < i + s) ∨ (j < k + s ∧ k ≤ j)
      · rw [if_pos h3, if_pos (by omega)]
      · rw [if_neg h3, if_neg (by omega)]
theorem turnB_done (q : List Int) {i j s : Nat} (h : ¬ (i + s < j - s)) (hs : 2 * s ≤ j - i + 1) (hij : i ≤ j) : turnB q i j s = turnU q i j (j + 1) := by
  funext k
  unfold turnB turnU
  by_cases h3 : (i ≤ k ∧ k < i + s) ∨ (j < k + s ∧ k ≤ j)
  · rw [if_pos h3, if_pos (by omega)]
  · rw [if_neg h3]
    by_cases h4 : i ≤ k ∧ k < j + 1
    · rw [if_pos h4]
      congr 1
      omega
    · rw [if_neg h4]
def turnsI (q : List Int) (i j : Int) : Bool := diffI 12 q && decide (0 ≤ i ∧ i ≤ j ∧ j < q.length)
def resTurnSeats (q : List Int) (i j : Int) : List Int × Bool := if turnsI q i j then (turnI q i.toNat j.toNat, true) else ([], false)
theorem diffI_len {q : List Int} (h : diffI 12 q = true) : q.length ≤ 12 := by
  simp only [diffI, Bool.and_eq_true, decide_eq_true_eq, List.all_eq_true] at h
  refine Nat.le_trans (nodup_le q ((List.range 12).map Int.ofNat) h.2 fun x hx => ?_) (by simp)
  have := h.1 x hx
  exact List.mem_map.2 ⟨x.toNat, by rw [List.mem_range]; omega, by simp; omega⟩
theorem turnsI_parts {q : List Int} {i j : Int} (h : turnsI q i j = true) : diffI 12 q = true ∧ q.length ≤ 12 ∧ 0 ≤ i ∧ i ≤ j ∧ j < q.length := by
  simp only [turnsI, Bool.and_eq_true, decide_eq_true_eq] at h
  exact ⟨h.1, diffI_len h.1, h.2⟩
theorem resTurnSeats_len (q : List Int) (i j : Int) : (resTurnSeats q i j).1.length ≤ 1048576 := by
  unfold resTurnSeats
  split
  · rename_i h
    have := turnsI_parts h
    show (turnI q i.toNat j.toNat).length ≤ _
    rw [turnI_length]
    omega
  · simp
end Go.Proofs.Ytmiecebdkadhbaa
