/-
  'FriendsOf': the model's and the program's, by their contracts.
-/
import Derived.Test.YtgkfnckgpbjbdaaAre
namespace Go.Proofs.Ytgkfnckgpbjbdaa
open Go.RowKit

def friendsI (l : PL) (a : Int) : List Int := l.filterMap fun q => if q.1 = a then some q.2 else if q.2 = a then some q.1 else none
def friendsT (n : Nat) (t : Nat → Bool) : List Int := ((List.range n).filter t).map fun b : Nat => (b : Int)
theorem isorted_ext : ∀ {l m : List Int}, l.Pairwise (· < ·) → m.Pairwise (· < ·) → (∀ q, q ∈ l ↔ q ∈ m) → l = m
  | [], [], _, _, _ => rfl
  | [], b :: m, _, _, h => by have := (h b).2 (List.mem_cons_self ..); cases this
  | a :: l, [], _, _, h => by have := (h a).1 (List.mem_cons_self ..); cases this
  | a :: l, b :: m, hl, hm, h => by
    rw [List.pairwise_cons] at hl hm
    have hab : a = b := by
      rcases List.mem_cons.1 ((h a).1 (List.mem_cons_self ..)) with e | e
      · exact e
      · rcases List.mem_cons.1 ((h b).2 (List.mem_cons_self ..)) with e' | e'
        · exact e'.symm
        · have h1 := hm.1 a e; have h2 := hl.1 b e'; omega
    subst hab
    rw [isorted_ext hl.2 hm.2 fun q => ?_]
    constructor
    · intro hq
      rcases List.mem_cons.1 ((h q).1 (List.mem_cons_of_mem _ hq)) with e | e
      · subst e; have := hl.1 q hq; omega
      · exact e
    · intro hq
      rcases List.mem_cons.1 ((h q).2 (List.mem_cons_of_mem _ hq)) with e | e
      · subst e; have := hm.1 q hq; omega
      · exact e
theorem friendsT_sorted (n : Nat) (t : Nat → Bool) : (friendsT n t).Pairwise (· < ·) := by
  unfold friendsT
  rw [List.pairwise_map]
  exact List.Pairwise.imp (fun {a b} h => by omega) ((List.pairwise_lt_range (n := n)).filter _)
theorem friendsI_sorted {p : Int} {l : PL} (h : isP p l = true) (a : Int) : (friendsI l a).Pairwise (· < ·) := by
  obtain ⟨_, _, hm, hs⟩ := isP_list h
  unfold friendsI
  rw [List.pairwise_filterMap]
  refine List.Pairwise.imp_of_mem (fun {q q'} hq hq' hlt u hu v hv => ?_) hs
  have h1 := hm q hq
  have h2 := hm q' hq'
  unfold plt at hlt
  split at hu
  · split at hv
    · simp at hu hv; omega
    · split at hv
      · simp at hu hv; omega
      · cases hv
  · split at hu
    · split at hv
      · simp at hu hv; omega
      · split at hv
        · simp at hu hv; omega
        · cases hv
    · cases hu
theorem friends_same {n : Nat} {l : PL} (h : isP n l = true) (a : Nat) : friendsT n (adj l a) = friendsI l a := by
  refine isorted_ext (friendsT_sorted _ _) (friendsI_sorted h _) fun x => ?_
  obtain ⟨_, _, hm, _⟩ := isP_list h
  simp only [friendsT, friendsI, List.mem_map, List.mem_filter, List.mem_range, List.mem_filterMap, adj, Bool.or_eq_true, List.contains_iff_mem]
  constructor
  · rintro ⟨b, ⟨_, hb | hb⟩, rfl⟩
    · exact ⟨_, hb, by simp⟩
    · refine ⟨_, hb, ?_⟩
      have := hm _ hb
      simp only at this ⊢
      rw [if_neg (by omega)]; simp
  · rintro ⟨q, hq, he⟩
    have := hm q hq
    obtain ⟨u, v⟩ := q
    simp only at this he
    split at he
    · rename_i hu
      simp at he
      subst hu
      refine ⟨x.toNat, ⟨by omega, .inl ?_⟩, by omega⟩
      rw [show ((x.toNat : Nat) : Int) = v from by omega]
      exact hq
    · split at he
      · rename_i hv
        simp at he
        subst hv
        refine ⟨x.toNat, ⟨by omega, .inr ?_⟩, by omega⟩
        rw [show ((x.toNat : Nat) : Int) = u from by omega]
        exact hq
      · cases he
theorem friendsI_le (l : PL) (a : Int) : (friendsI l a).length ≤ l.length := List.length_filterMap_le _ _
theorem friendsI_snoc (l : PL) (x y a : Int) : friendsI (l ++ [(x, y)]) a = friendsI l a ++ if x = a then [y] else if y = a then [x] else [] := by
  unfold friendsI
  rw [List.filterMap_append]
  congr 1
  simp only [List.filterMap_cons, List.filterMap_nil]
  by_cases h1 : x = a
  · simp [h1]
  · by_cases h2 : y = a <;> simp [h1, h2]
theorem friendsT_snoc (k : Nat) (t : Nat → Bool) : friendsT (k + 1) t = friendsT k t ++ if t k = true then [(k : Int)] else [] := by
  unfold friendsT
  rw [List.range_succ, List.filter_append, List.map_append]
  congr 1
  by_cases h : t k = true <;> simp [h]
theorem friendsT_le (k : Nat) (t : Nat → Bool) : (friendsT k t).length ≤ k := by
  unfold friendsT
  rw [List.length_map]
  exact Nat.le_trans (List.length_filter_le _ _) (by simp)

set_option maxHeartbeats 1000000 in
set_option maxRecDepth 100000 in
theorem paFriends_any (n a : Nat) (t : Nat → Nat → Bool) (A : Option Addr) (c : Nat) (G : Nat → Nat) (B : Nat) (w : World) (hn : n ≤ 12) (ha : a < n) (tab : TabG w B (.slice A n c) n n G t) :
    Calls Try.prog 81 #[.slice A n c, .int .i64 a] w fun e w' => ∃ A' c', e = .returned (.slice A' (friendsT n (t a)).length c') ∧
      w'.ownsRow w.heap.size 3 1 (.slice A' (friendsT n (t a)).length c') (friendsT n (t a)).length (icells (friendsT n (t a))) ∧ Below w.heap.size w w' := by
  obtain ⟨i0, hi, hz0, hz1, hz2⟩ := info_parts Try.infoInt
  obtain ⟨g, rfl⟩ := own_form tab.own (by omega)
  have d0 := tab.outer ha
  have hai : (a : Int) < n := by omega
  go_enter Try.func81, Try.ntmps81
  go_wp2
  clear d0
  go_loopw [5, 13] (fun v i wr => ∃ k : Nat, k ≤ n ∧ i = .int .i64 k ∧ wr.ownsRow w.heap.size 3 1 v (friendsT k (t a)).length (icells (friendsT k (t a))) ∧ Below w.heap.size w wr) (fun _ i _ => n - (intOf i).toNat)
  case atStart => exact ⟨0, Nat.zero_le _, rfl, World.ownsRow_nil _ _ _ _, Below.refl _ _⟩
  case round =>
    obtain ⟨k, hk, rfl, hown, hb⟩ := hrel
    have hs := hb.size
    by_cases hlt : k < n
    · have hki : (k : Int) < n := by omega
      have d1 := (tab.below hb (Nat.le_refl _)).cell ha hlt
      have hle := friendsT_le k (t a)
      have Hsn := Lib.hid (friendsT_snoc k (t a))
      cases ht : t a k with
      | false =>
        rw [ht] at d1
        have Ht := Lib.hid ht
        clear ht
        go_wp2
        go_roundw
        case rel =>
          refine ⟨k + 1, by omega, by go_num, ?_, hb⟩
          rw [Hsn.out, Ht.out]
          simp only [Bool.false_eq_true, if_false, List.append_nil]
          exact hown
        case measure => simp [intOf]; omega
      | true =>
        rw [ht] at d1
        have Ht := Lib.hid ht
        clear ht
        go_wp2_with (at_builtin; refine wpList_append_own _ rfl _ _ 40 rfl w.heap.size 3 i0 _ 1 8 Try.underlying40 hi hz0 hz1 hz2 rfl (by decide) _ _ _ rfl (hown.alloc _) ⟨wr.heap.size, 0, none⟩ 1 1 [.int .i64 k] rfl rfl (one_cell (by simp)) (one_one rfl) (by unfold maxLen; omega) (by omega) (by simp; omega) ?_; intro v1 w3 hown3 hg3 _; obtain ⟨A1, d1', rfl, _⟩ := own_shape hown3)
        go_roundw
        case rel =>
          refine ⟨k + 1, by omega, by go_num, ?_, ?_⟩
          · rw [Hsn.out, Ht.out]
            simp only [if_true]
            rw [icells_append, List.length_append]
            exact hown3
          · exact (hb.alloc hs _).grown hg3 (by simp; omega) (fun k hk => (hown.lt k hk).1)
        case measure => simp [intOf]; omega
    · have hkl : n = k := by omega
      subst hkl
      have hge : ¬ ((n : Int) < n) := by omega
      obtain ⟨A', c', rfl, _⟩ := own_shape hown
      have Hown := Lib.hid hown
      clear hown
      go_wp2
      go_ret
      exact ⟨A', c', rfl, Hown.out, hb⟩

def resFriendsOf (p : Int) (l : PL) (a : Int) : List Int × Bool := if isP p l && isMan p a then (friendsI l a, true) else ([], false)
theorem resFriendsOf_len (p : Int) (l : PL) (a : Int) : (resFriendsOf p l a).1.length ≤ 1048576 := by
  unfold resFriendsOf
  split
  · rename_i h
    simp only [Bool.and_eq_true] at h
    have h1 := isP_length h.1
    have h2 := isP_range h.1
    have h3 := people_sq h2.1 h2.2
    have h4 := friendsI_le l a
    show (friendsI l a).length ≤ 1048576
    omega
  · simp

set_option maxHeartbeats 1000000 in
theorem specFriendsOf_any (p : Int) (l : PL) (A : Option Addr) (c : Nat) (a : Int) (w : World) (hl : l.length ≤ 1048576) (hA : CRead w w.heap.size A (pcells l)) :
    Calls Try.prog 33 #[.agg #[.int .i64 p, .slice A l.length c], .int .i64 a] w (GotIntsOk w (resFriendsOf p l a).1 (resFriendsOf p l a).2) := by
  have hr : CRead (w.alloc (Obj.cells #[.int .i64 p, .slice A l.length c] 29)) (w.alloc (Obj.cells #[.int .i64 p, .slice A l.length c] 29)).heap.size A (pcells l) := (hA.below (B' := w.heap.size) (by go_grown) (Nat.le_refl _)).more (by go_size)
  cases hp : isP p l with
  | false =>
    have e : resFriendsOf p l a = ([], false) := by simp [resFriendsOf, hp]
    rw [e]
    have Hp := Lib.hid hp
    clear hp e
    go_enter Try.func33, Try.ntmps33
    go_wp2_with fail
    refine (paGood_any _ _ _ _ _ hl hr).mono ?_
    rw [Hp.out]
    rintro e w2 ⟨rfl, hb2⟩
    simp only [World.size_alloc] at hb2
    go_wp2
    go_ret2
    exact ⟨none, 0, rfl, World.ownsRow_nil _ _ _ _, Below.trans (b := _) (by go_grown) (hb2.mono (by omega))⟩
  | true =>
    have hn := isP_range hp
    cases ha : isMan p a with
    | false =>
      have e : resFriendsOf p l a = ([], false) := by simp [resFriendsOf, ha]
      rw [e]
      have Hp := Lib.hid hp
      have Ha := Lib.hid ha
      clear hp ha e
      go_enter Try.func33, Try.ntmps33
      go_wp2_with fail
      refine (paGood_any _ _ _ _ _ hl hr).mono ?_
      rw [Hp.out]
      rintro e w2 ⟨rfl, hb2⟩
      simp only [World.size_alloc] at hb2
      have a0 : w2.cell? ⟨w.heap.size, 0, none⟩ = some (.int .i64 p) := carry hb2 (by simp) (by omega)
      have a1 : w2.cell? ⟨w.heap.size, 1, none⟩ = some (.slice A l.length c) := carry hb2 (by simp) (by omega)
      have k2 : Below w.heap.size w w2 := Below.trans (b := _) (by go_grown) (hb2.mono (by omega))
      go_wp2_with fail
      refine (paHas_any p a A l.length c _ hn).mono ?_
      rw [Ha.out]
      rintro e w3 ⟨rfl, hb3⟩
      go_wp2
      go_ret2
      exact ⟨none, 0, rfl, World.ownsRow_nil _ _ _ _, k2.trans (hb3.mono k2.size)⟩
    | true =>
      have e : resFriendsOf p l a = (friendsI l a, true) := by simp [resFriendsOf, ha, hp]
      rw [e]
      have ha' : 0 ≤ a ∧ a < p := of_decide_eq_true ha
      obtain ⟨n, rfl⟩ : ∃ n : Nat, p = n := ⟨p.toNat, by omega⟩
      obtain ⟨i, rfl⟩ : ∃ i : Nat, a = i := ⟨a.toNat, by omega⟩
      have hin : i < n := by omega
      have hsame := friends_same hp i
      have Hp := Lib.hid hp
      have Ha := Lib.hid ha
      have Hsame := Lib.hid hsame
      clear hp ha e hsame
      go_enter Try.func33, Try.ntmps33
      go_wp2_with fail
      refine (paGood_any _ _ _ _ _ hl hr).mono ?_
      rw [Hp.out]
      rintro e w2 ⟨rfl, hb2⟩
      simp only [World.size_alloc] at hb2
      have a0 : w2.cell? ⟨w.heap.size, 0, none⟩ = some (.int .i64 n) := carry hb2 (by simp) (by omega)
      have a1 : w2.cell? ⟨w.heap.size, 1, none⟩ = some (.slice A l.length c) := carry hb2 (by simp) (by omega)
      have k2 : Below w.heap.size w w2 := Below.trans (b := _) (by go_grown) (hb2.mono (by omega))
      have s2 := hb2.size
      simp only [World.size_alloc] at s2
      go_wp2_with fail
      refine (paHas_any n i A l.length c _ hn).mono ?_
      rw [Ha.out]
      rintro e w3 ⟨rfl, hb3⟩
      have b0 := carry hb3 a0 (by omega)
      have b1 := carry hb3 a1 (by omega)
      have k3 := k2.trans (hb3.mono k2.size)
      clear a0 a1
      go_wp2_with fail
      refine (paTable_any _ _ _ _ _ Hp.out ((hA.below k3 (Nat.le_refl _)).more k3.size)).mono ?_
      simp only [Int.toNat_natCast]
      rintro e w4 ⟨A4, c4, G, rfl, tab, hb4⟩
      have k4 := k3.trans (hb4.mono k3.size)
      go_wp2_with fail
      refine (paFriends_any n i (adj l) A4 c4 G _ _ (by omega) hin tab).mono ?_
      rw [Hsame.out]
      rintro e w5 ⟨A5, c5, rfl, own5, hb5⟩
      go_wp2
      go_ret2
      exact ⟨A5, c5, rfl, own_lower own5 k4.size, k4.trans (hb5.mono k4.size)⟩

set_option maxHeartbeats 2000000 in
set_option maxRecDepth 100000 in
theorem implFriendsOf_any (p : Int) (l : PL) (A : Option Addr) (c : Nat) (a : Int) (w : World) (hl : l.length ≤ 1048576) (hA : CRead w w.heap.size A (pcells l)) :
    Calls Try.prog 34 #[.agg #[.int .i64 p, .slice A l.length c], .int .i64 a] w (GotIntsOk w (resFriendsOf p l a).1 (resFriendsOf p l a).2) := by
  have hr : CRead (w.alloc (Obj.cells #[.int .i64 p, .slice A l.length c] 29)) (w.alloc (Obj.cells #[.int .i64 p, .slice A l.length c] 29)).heap.size A (pcells l) := (hA.below (B' := w.heap.size) (by go_grown) (Nat.le_refl _)).more (by go_size)
  cases hp : isP p l with
  | false =>
    have e : resFriendsOf p l a = ([], false) := by simp [resFriendsOf, hp]
    rw [e]
    have Hp := Lib.hid hp
    clear hp e
    go_enter Try.func34, Try.ntmps34
    go_wp2_with fail
    refine (isParty_any _ _ _ _ _ hl hr).mono ?_
    rw [Hp.out]
    rintro e w2 ⟨rfl, hb2⟩
    simp only [World.size_alloc] at hb2
    go_wp2
    go_ret2
    exact ⟨none, 0, rfl, World.ownsRow_nil _ _ _ _, Below.trans (b := _) (by go_grown) (hb2.mono (by omega))⟩
  | true =>
    have hn := isP_range hp
    have hlen : l.length ≤ 66 := by have h1 := isP_length hp; have h2 := people_sq hn.1 hn.2; omega
    cases ha : isMan p a with
    | false =>
      have e : resFriendsOf p l a = ([], false) := by simp [resFriendsOf, ha]
      rw [e]
      have Hp := Lib.hid hp
      have Ha := Lib.hid ha
      clear hp ha e
      go_enter Try.func34, Try.ntmps34
      go_wp2_with fail
      refine (isParty_any _ _ _ _ _ hl hr).mono ?_
      rw [Hp.out]
      rintro e w2 ⟨rfl, hb2⟩
      simp only [World.size_alloc] at hb2
      have a0 : w2.cell? ⟨w.heap.size, 0, none⟩ = some (.int .i64 p) := carry hb2 (by simp) (by omega)
      have a1 : w2.cell? ⟨w.heap.size, 1, none⟩ = some (.slice A l.length c) := carry hb2 (by simp) (by omega)
      have k2 : Below w.heap.size w w2 := Below.trans (b := _) (by go_grown) (hb2.mono (by omega))
      go_wp2_with fail
      refine (isPerson_any p a A l.length c _).mono ?_
      rw [Ha.out]
      rintro e w3 ⟨rfl, hb3⟩
      go_wp2
      go_ret2
      exact ⟨none, 0, rfl, World.ownsRow_nil _ _ _ _, k2.trans (hb3.mono k2.size)⟩
    | true =>
      obtain ⟨i0, hi, hz0, hz1, hz2⟩ := info_parts Try.infoInt
      have e : resFriendsOf p l a = (friendsI l a, true) := by simp [resFriendsOf, ha, hp]
      rw [e]
      have Hp := Lib.hid hp
      have Ha := Lib.hid ha
      clear hp ha e
      go_enter Try.func34, Try.ntmps34
      go_wp2_with fail
      refine (isParty_any _ _ _ _ _ hl hr).mono ?_
      rw [Hp.out]
      rintro e w2 ⟨rfl, hb2⟩
      simp only [World.size_alloc] at hb2
      have a0 : w2.cell? ⟨w.heap.size, 0, none⟩ = some (.int .i64 p) := carry hb2 (by simp) (by omega)
      have a1 : w2.cell? ⟨w.heap.size, 1, none⟩ = some (.slice A l.length c) := carry hb2 (by simp) (by omega)
      have k2 : Below w.heap.size w w2 := Below.trans (b := _) (by go_grown) (hb2.mono (by omega))
      have s2 := hb2.size
      simp only [World.size_alloc] at s2
      go_wp2_with fail
      refine (isPerson_any p a A l.length c _).mono ?_
      rw [Ha.out]
      rintro e w3 ⟨rfl, hb3⟩
      have b0 := carry hb3 a0 (by omega)
      have b1 := carry hb3 a1 (by omega)
      have k3 := k2.trans (hb3.mono k2.size)
      clear a0 a1
      go_wp2
      clear b0 b1 hb2 hb3 s2
      go_loopw [6, 21] (fun v i wr => ∃ k : Nat, k ≤ l.length ∧ i = .int .i64 k ∧ wr.ownsRow w.heap.size 3 1 v (friendsI (l.take k) a).length (icells (friendsI (l.take k) a)) ∧ Below w.heap.size w wr) (fun _ i _ => l.length - (intOf i).toNat)
      case atStart => exact ⟨0, Nat.zero_le _, rfl, World.ownsRow_nil _ _ _ _, k3⟩
      case round =>
        obtain ⟨k, hk, rfl, hown, hb⟩ := hrel
        have hs := hb.size
        by_cases hlt : k < l.length
        · obtain ⟨⟨x, y⟩, hx⟩ := getSome l k hlt
          obtain ⟨bb, off, rfl, hbb, c0, c1⟩ := (hA.below hb (Nat.le_refl _)).pair hx
          have hki : (k : Int) < (l.length : Int) := by omega
          have hle := friendsI_le (l.take k) a
          have hle2 : (l.take k).length ≤ 66 := Nat.le_trans (List.length_take_le' _ _) hlen
          have Hsn := Lib.hid (friendsI_snoc (l.take k) x y a)
          have hxy := goodAt_pair (isP_good Hp.out hlt) hx
          have Hx := Lib.hid hx
          clear hx
          have e1 : y = a → ¬ x = a := by omega
          by_cases h1 : x = a
          · have h2 : ¬ y = a := by omega
            have Hsn2 : Hid (friendsI (l.take k ++ [(x, y)]) a = friendsI (l.take k) a ++ [y]) := by
              have := Hsn.out
              rwa [if_pos h1] at this
            subst h1
            go_wp2_with (at_builtin; refine wpList_append_own _ rfl _ _ 40 rfl w.heap.size 3 i0 _ 1 8 Try.underlying40 hi hz0 hz1 hz2 rfl (by decide) _ _ _ rfl ((hown.alloc _).alloc _) ⟨wr.heap.size + 1, 0, none⟩ 1 1 [.int .i64 y] rfl rfl (one_cell (by simp)) (one_one rfl) (by unfold maxLen; omega) (by omega) (by simp; omega) ?_; intro v1 w4 hown4 hg4 _; obtain ⟨A1, d1', rfl, _⟩ := own_shape hown4)
            go_roundw
            case rel =>
              refine ⟨k + 1, by omega, by go_num, ?_, ?_⟩
              · rw [List.take_add_one, Hx.out, Option.toList_some, Hsn2.out, icells_append, List.length_append]
                exact hown4
              · exact ((hb.alloc hs _).alloc (by simp; omega) _).grown hg4 (by simp; omega) (fun k hk => (hown.lt k hk).1)
            case measure => simp [intOf]; omega
          · by_cases h2 : y = a
            · have Hsn2 : Hid (friendsI (l.take k ++ [(x, y)]) a = friendsI (l.take k) a ++ [x]) := by
                have := Hsn.out
                rwa [if_neg h1, if_pos h2] at this
              subst h2
              go_wp2_with (at_builtin; refine wpList_append_own _ rfl _ _ 40 rfl w.heap.size 3 i0 _ 1 8 Try.underlying40 hi hz0 hz1 hz2 rfl (by decide) _ _ _ rfl ((hown.alloc _).alloc _) ⟨wr.heap.size + 1, 0, none⟩ 1 1 [.int .i64 x] rfl rfl (one_cell (by simp)) (one_one rfl) (by unfold maxLen; omega) (by omega) (by simp; omega) ?_; intro v1 w4 hown4 hg4 _; obtain ⟨A1, d1', rfl, _⟩ := own_shape hown4)
              go_roundw
              case rel =>
                refine ⟨k + 1, by omega, by go_num, ?_, ?_⟩
                · rw [List.take_add_one, Hx.out, Option.toList_some, Hsn2.out, icells_append, List.length_append]
                  exact hown4
                · exact ((hb.alloc hs _).alloc (by simp; omega) _).grown hg4 (by simp; omega) (fun k hk => (hown.lt k hk).1)
              case measure => simp [intOf]; omega
            · have Hsn2 : Hid (friendsI (l.take k ++ [(x, y)]) a = friendsI (l.take k) a) := by
                have := Hsn.out
                rwa [if_neg h1, if_neg h2, List.append_nil] at this
              go_wp2
              go_roundw
              case rel =>
                refine ⟨k + 1, by omega, by go_num, ?_, ?_⟩
                · rw [List.take_add_one, Hx.out, Option.toList_some, Hsn2.out]
                  exact hown.alloc _
                · exact hb.alloc hs _
              case measure => simp [intOf]; omega
        · have hkl : k = l.length := by omega
          subst hkl
          have hge : ¬ ((l.length : Int) < l.length) := by omega
          rw [List.take_length] at hown
          obtain ⟨A', c', rfl, _⟩ := own_shape hown
          have Hown := Lib.hid hown
          clear hown
          go_wp2
          go_ret2
          exact ⟨A', c', rfl, Hown.out, hb⟩
end Go.Proofs.Ytgkfnckgpbjbdaa
