/-
  Texts put together for the claims of 'PartsOfParty' (pack 2): Numbers, People, First, Parts, Pairs, Tab, Clone, Put, PutP, CoupP.
-/
import Derived.Test.YtmiecebdkadhbaaPartsOfPartyP1
import Derived.Deep.OwnRows
import Derived.Lib.SliceRun
import Derived.Deep.LoopGhost
import Derived.Deep.Slices
import Derived.WideShapes
import Derived.Laws.AppendOwnNone
import Derived.Lib.SlicesCompact
/-
  HOW MANY FRIENDS EACH PERSON HAS: the model's count and the program's, by their contracts.
-/
namespace Go.Proofs.Ytmiecebdkadhbaa
open Go.RowKit

def bump (acc : List Int) (a : Int) : List Int := acc.set a.toNat (acc.getD a.toNat 0 + 1)
def numsOf (n : Nat) (l : PL) : List Int := l.foldl (fun acc q => bump (bump acc q.1) q.2) (List.replicate n 0)
theorem bump_length (acc : List Int) (a : Int) : (bump acc a).length = acc.length := by simp [bump]
theorem bump_at {acc : List Int} {a : Nat} {u : Int} (h : acc[a]? = some u) : bump acc (a : Int) = acc.set a (u + 1) := by simp [bump, List.getD, h]
theorem numsOf_snoc (n : Nat) (l : PL) (q : Int × Int) : numsOf n (l ++ [q]) = bump (bump (numsOf n l) q.1) q.2 := by simp [numsOf, List.foldl_append]
theorem numsOf_length (n : Nat) (l : PL) : (numsOf n l).length = n := by
  unfold numsOf
  suffices h : ∀ (l : PL) (acc : List Int), acc.length = n → (l.foldl (fun acc q => bump (bump acc q.1) q.2) acc).length = n from h l _ (by simp)
  intro l
  induction l with
  | nil => intro acc h; exact h
  | cons q l ih => intro acc h; exact ih _ (by rw [bump_length, bump_length, h])
def Small (acc : List Int) (m : Nat) : Prop := ∀ (i : Nat) (x : Int), acc[i]? = some x → 0 ≤ x ∧ x ≤ m
theorem small_zero (n m : Nat) : Small (List.replicate n 0) m := by
  intro i x h
  rw [List.getElem?_replicate] at h
  split at h
  · simp at h; omega
  · cases h
theorem small_set {acc : List Int} {m a : Nat} {u : Int} (h : Small acc m) (ha : acc[a]? = some u) : Small (acc.set a (u + 1)) (m + 1) := by
  intro i x hx
  have hu := h a u ha
  rw [List.getElem?_set] at hx
  split at hx
  · split at hx
    · simp at hx; omega
    · cases hx
  · have := h i x hx; omega
def resNumbersOfFriends (p : Int) (l : PL) : List Int × Bool := if isP p l then (numsOf p.toNat l, true) else ([], false)
theorem resNumbersOfFriends_len (p : Int) (l : PL) : (resNumbersOfFriends p l).1.length ≤ 1048576 := by
  unfold resNumbersOfFriends
  split
  · rename_i h
    have := isP_range h
    rw [numsOf_length]
    omega
  · simp

/-- what one pair does to the row of numbers (the walk writes a store into an old block ahead of a new block) -/
theorem numbers_round {w : World} {B e g n cap a b : Nat} {acc : List Int} {u v : Int} (hown : w.ownsRow B e 1 (.slice (some ⟨g, 0, none⟩) n cap) n (icells acc)) (hu : acc[a]? = some u) (hv : acc[b]? = some v) (hab : a ≠ b) (o : Obj) :
    (w.alloc o).cell? ⟨g, a, none⟩ = some (.int .i64 u) ∧ (w.alloc o).frozen? ⟨g, a, none⟩ = false ∧
      ((w.setCell ⟨g, a, none⟩ (.int .i64 (u + 1))).alloc o).cell? ⟨g, b, none⟩ = some (.int .i64 v) ∧ ((w.setCell ⟨g, a, none⟩ (.int .i64 (u + 1))).alloc o).frozen? ⟨g, b, none⟩ = false ∧
      (((w.setCell ⟨g, a, none⟩ (.int .i64 (u + 1))).setCell ⟨g, b, none⟩ (.int .i64 (v + 1))).alloc o).ownsRow B e 1 (.slice (some ⟨g, 0, none⟩) n cap) n (icells (bump (bump acc a) b)) := by
  have h1 := hown.alloc o
  have h2 := own_setInt hown a (u + 1)
  have h2' := h2.alloc o
  have hv2 : (acc.set a (u + 1))[b]? = some v := by rw [List.getElem?_set_ne hab]; exact hv
  have h3 := own_setInt h2 b (v + 1)
  refine ⟨own_intAt h1 hu, h1.frozenAt _, own_intAt h2' hv2, h2'.frozenAt _, ?_⟩
  rw [bump_at hu, bump_at hv2]
  exact h3.alloc o

set_option maxHeartbeats 1000000 in
set_option maxRecDepth 100000 in
theorem paNumbers_any (p : Int) (l : PL) (A : Option Addr) (c : Nat) (w : World) (hp : isP p l = true) (hA : CRead w w.heap.size A (pcells l)) :
    Calls Try.prog 77 #[.agg #[.int .i64 p, .slice A l.length c]] w fun e w' => ∃ g, e = .returned (.slice (some ⟨g, 0, none⟩) p.toNat p.toNat) ∧ w'.ownsRow w.heap.size 3 1 (.slice (some ⟨g, 0, none⟩) p.toNat p.toNat) p.toNat (icells (numsOf p.toNat l)) ∧ Below w.heap.size w w' := by
  obtain ⟨i0, hi, hz0, hz1, hz2⟩ := info_parts Try.infoInt
  obtain ⟨n, rfl⟩ : ∃ n : Nat, p = n := ⟨p.toNat, by have := isP_range hp; omega⟩
  have hn := isP_range hp
  have hlen : l.length ≤ 66 := by have h1 := isP_length hp; have h2 := people_sq hn.1 hn.2; omega
  simp only [Int.toNat_natCast]
  have Hp := Lib.hid hp
  clear hp
  go_enter Try.func77, Try.ntmps77
  go_wp2_with (at_make; refine wpList_make_full _ rfl _ _ 25 rfl w.heap.size 3 i0 _ 1 Try.underlying25 hi hz0 hz1 _ _ _ _ n rfl rfl (by omega) (by omega) (by rw [hz2]; omega) (by unfold maxLen; omega) (by go_size) ?_; intro w1 hown1 hgr1; have hb1 : Below (w.heap.size + 1) (w.alloc (Obj.cells #[.int .i64 (n : Int), .slice A l.length c] 31)) w1 := below_of_gb hgr1 (by go_size); have q0 : w1.cell? ⟨w.heap.size, 0, none⟩ = some (.int .i64 n) := carry hb1 (by simp) (by omega); have q1 : w1.cell? ⟨w.heap.size, 1, none⟩ = some (.slice A l.length c) := carry hb1 (by simp) (by omega))
  rw [show Value.cells (.int .i64 0) = #[.int .i64 0] from rfl, made_ints] at hown1
  have hl1 := own_lt hown1
  have hs1 := hb1.size
  simp only [World.size_alloc] at hown1 hl1 hs1
  go_loopw [12] (fun i wr => ∃ k : Nat, k ≤ l.length ∧ i = .int .i64 k ∧ wr.ownsRow w.heap.size 3 1 (.slice (some ⟨w.heap.size + 1, 0, none⟩) n n) n (icells (numsOf n (l.take k))) ∧ Small (numsOf n (l.take k)) (2 * k) ∧ Below (w.heap.size + 1) (w.alloc (Obj.cells #[.int .i64 (n : Int), .slice A l.length c] 31)) wr) (fun i _ => l.length - (intOf i).toNat)
  case atStart => exact ⟨0, Nat.zero_le _, rfl, by simpa [numsOf] using hown1, by simpa [numsOf] using small_zero n _, hb1⟩
  case round =>
    obtain ⟨k, hk, rfl, hown, hsmall, hb⟩ := hrel
    have hs := hb.size
    simp only [World.size_alloc] at hs
    have hbw : Below w.heap.size w wr := Below.trans (b := _) (by go_grown) (hb.mono (by omega))
    have hlt0 := own_lt hown
    by_cases hlt : k < l.length
    · obtain ⟨⟨x, y⟩, hx⟩ := getSome l k hlt
      obtain ⟨h0, h1, h2⟩ := goodAt_pair (isP_good Hp.out hlt) hx
      obtain ⟨a, rfl⟩ : ∃ a : Nat, x = a := ⟨x.toNat, by omega⟩
      obtain ⟨b, rfl⟩ : ∃ b : Nat, y = b := ⟨y.toNat, by omega⟩
      obtain ⟨bb, off, rfl, hbb, c0, c1⟩ := (hA.below hbw (Nat.le_refl _)).pair hx
      obtain ⟨u, hu⟩ := getSome (numsOf n (l.take k)) a (by rw [numsOf_length]; omega)
      obtain ⟨v, hv⟩ := getSome (numsOf n (l.take k)) b (by rw [numsOf_length]; omega)
      have hu0 := hsmall _ _ hu
      have hv0 := hsmall _ _ hv
      obtain ⟨d0, d1, d2, d3, d4⟩ := numbers_round hown hu hv (by omega) (Obj.cells #[.int .i64 (a : Int), .int .i64 (b : Int)] 95)
      have hki : (k : Int) < (l.length : Int) := by omega
      have hsm : Small (bump (bump (numsOf n (l.take k)) a) b) (2 * (k + 1)) := by
        rw [bump_at hu, bump_at (by rw [List.getElem?_set_ne (by omega)]; exact hv)]
        exact small_set (small_set hsmall hu) (by rw [List.getElem?_set_ne (by omega)]; exact hv)
      have Hx := Lib.hid hx
      have Hsm := Lib.hid hsm
      have Hd4 := Lib.hid d4
      have ha : (a : Int) < n := by omega
      have hb' : (b : Int) < n := h2
      clear hx hu hv hsm d4 hsmall
      go_wp2
      go_roundw
      case rel =>
        refine ⟨k + 1, by omega, by go_num, ?_, ?_, ?_⟩
        · rw [List.take_add_one, Hx.out, Option.toList_some, numsOf_snoc]
          exact Hd4.out
        · rw [List.take_add_one, Hx.out, Option.toList_some, numsOf_snoc]
          exact Hsm.out
        · exact ((hb.setCell (p := ⟨w.heap.size + 1, a, none⟩) (by simp) _).setCell (p := ⟨w.heap.size + 1, b, none⟩) (by simp) _).alloc (by simp; omega) _
      case measure => simp [intOf]; omega
    · have hkl : k = l.length := by omega
      subst hkl
      have hge : ¬ ((l.length : Int) < l.length) := by omega
      clear hsmall
      go_wp2
      go_ret
      refine ⟨_, rfl, ?_, hbw⟩
      rwa [List.take_length] at hown

set_option maxHeartbeats 1000000 in
set_option maxRecDepth 100000 in
theorem implNumbersOfFriends_any (p : Int) (l : PL) (A : Option Addr) (c : Nat) (w : World) (hl : l.length ≤ 1048576) (hA : CRead w w.heap.size A (pcells l)) :
    Calls Try.prog 78 #[.agg #[.int .i64 p, .slice A l.length c]] w (GotIntsOk w (resNumbersOfFriends p l).1 (resNumbersOfFriends p l).2) := by
  cases hp : isP p l with
  | false =>
    have e : resNumbersOfFriends p l = ([], false) := by simp [resNumbersOfFriends, hp]
    rw [e]
    have Hp := Lib.hid hp
    clear hp e
    go_enter Try.func78, Try.ntmps78
    go_wp2_with (go_at_call 59; refine (isParty_any _ _ _ _ _ hl ((hA.below (B' := w.heap.size) (by go_grown) (Nat.le_refl _)).more (by go_size))).mono ?_; rw [Hp.out]; rintro e w2 ⟨rfl, hb2⟩; simp only [World.size_alloc] at hb2)
    go_ret2
    exact ⟨none, 0, rfl, World.ownsRow_nil _ _ _ _, Below.trans (b := _) (by go_grown) (hb2.mono (by omega))⟩
  | true =>
    have e : resNumbersOfFriends p l = (numsOf p.toNat l, true) := by simp [resNumbersOfFriends, hp]
    rw [e]
    clear e
    obtain ⟨i0, hi, hz0, hz1, hz2⟩ := info_parts Try.infoInt
    obtain ⟨n, rfl⟩ : ∃ n : Nat, p = n := ⟨p.toNat, by have := isP_range hp; omega⟩
    have hn := isP_range hp
    have hlen : l.length ≤ 66 := by have h1 := isP_length hp; have h2 := people_sq hn.1 hn.2; omega
    simp only [Int.toNat_natCast]
    have Hp := Lib.hid hp
    clear hp
    go_enter Try.func78, Try.ntmps78
    go_wp2_with fail
    refine (isParty_any _ _ _ _ _ hl ((hA.below (B' := w.heap.size) (by go_grown) (Nat.le_refl _)).more (by go_size))).mono ?_
    rw [Hp.out]
    rintro e w2 ⟨rfl, hb2⟩
    simp only [World.size_alloc] at hb2
    have a0 : w2.cell? ⟨w.heap.size, 0, none⟩ = some (.int .i64 n) := carry hb2 (by simp) (by omega)
    have a1 : w2.cell? ⟨w.heap.size, 1, none⟩ = some (.slice A l.length c) := carry hb2 (by simp) (by omega)
    have s2 := hb2.size
    simp only [World.size_alloc] at s2
    go_wp2_with (at_make; refine wpList_make_full _ rfl _ _ 25 rfl w.heap.size 3 i0 _ 1 Try.underlying25 hi hz0 hz1 _ _ _ _ n rfl rfl (by omega) (by omega) (by rw [hz2]; omega) (by unfold maxLen; omega) (by omega) ?_; intro w1 hown1 hgr1; have hb1 : Below w2.heap.size w2 w1 := below_of_gb hgr1 (Nat.le_refl _); have q0 : w1.cell? ⟨w.heap.size, 0, none⟩ = some (.int .i64 n) := carry hb1 a0 (by omega); have q1 : w1.cell? ⟨w.heap.size, 1, none⟩ = some (.slice A l.length c) := carry hb1 a1 (by omega))
    rw [show Value.cells (.int .i64 0) = #[.int .i64 0] from rfl, made_ints] at hown1
    have hl1 := own_lt hown1
    have hb1' : Below (w.heap.size + 1) (w.alloc (Obj.cells #[.int .i64 (n : Int), .slice A l.length c] 31)) w1 := hb2.trans (hb1.mono s2)
    clear hb1 hgr1 a0 a1 q0 q1
    go_loopw [16] (fun i wr => ∃ k : Nat, k ≤ l.length ∧ i = .int .i64 k ∧ wr.ownsRow w.heap.size 3 1 (.slice (some ⟨w2.heap.size, 0, none⟩) n n) n (icells (numsOf n (l.take k))) ∧ Small (numsOf n (l.take k)) (2 * k) ∧ Below (w.heap.size + 1) (w.alloc (Obj.cells #[.int .i64 (n : Int), .slice A l.length c] 31)) wr) (fun i _ => l.length - (intOf i).toNat)
    case atStart => exact ⟨0, Nat.zero_le _, rfl, by simpa [numsOf] using hown1, by simpa [numsOf] using small_zero n _, hb1'⟩
    case round =>
      clear hown1 hb1' hl1 hb2
      obtain ⟨k, hk, rfl, hown, hsmall, hb⟩ := hrel
      have hs := hb.size
      simp only [World.size_alloc] at hs
      have hbw : Below w.heap.size w wr := Below.trans (b := _) (by go_grown) (hb.mono (by omega))
      have hlt0 := own_lt hown
      by_cases hlt : k < l.length
      · obtain ⟨⟨x, y⟩, hx⟩ := getSome l k hlt
        obtain ⟨h0, h1, h2⟩ := goodAt_pair (isP_good Hp.out hlt) hx
        obtain ⟨a, rfl⟩ : ∃ a : Nat, x = a := ⟨x.toNat, by omega⟩
        obtain ⟨b, rfl⟩ : ∃ b : Nat, y = b := ⟨y.toNat, by omega⟩
        obtain ⟨bb, off, rfl, hbb, c0, c1⟩ := (hA.below hbw (Nat.le_refl _)).pair hx
        obtain ⟨u, hu⟩ := getSome (numsOf n (l.take k)) a (by rw [numsOf_length]; omega)
        obtain ⟨v, hv⟩ := getSome (numsOf n (l.take k)) b (by rw [numsOf_length]; omega)
        have hu0 := hsmall _ _ hu
        have hv0 := hsmall _ _ hv
        obtain ⟨d0, d1, d2, d3, d4⟩ := numbers_round hown hu hv (by omega) (Obj.cells #[.int .i64 (a : Int), .int .i64 (b : Int)] 95)
        have hki : (k : Int) < (l.length : Int) := by omega
        have hsm : Small (bump (bump (numsOf n (l.take k)) a) b) (2 * (k + 1)) := by
          rw [bump_at hu, bump_at (by rw [List.getElem?_set_ne (by omega)]; exact hv)]
          exact small_set (small_set hsmall hu) (by rw [List.getElem?_set_ne (by omega)]; exact hv)
        have Hx := Lib.hid hx
        have Hsm := Lib.hid hsm
        have Hd4 := Lib.hid d4
        have ha : (a : Int) < n := by omega
        have hb' : (b : Int) < n := h2
        clear hx hu hv hsm d4 hsmall
        go_wp2
        go_roundw
        case rel =>
          refine ⟨k + 1, by omega, by go_num, ?_, ?_, ?_⟩
          · rw [List.take_add_one, Hx.out, Option.toList_some, numsOf_snoc]
            exact Hd4.out
          · rw [List.take_add_one, Hx.out, Option.toList_some, numsOf_snoc]
            exact Hsm.out
          · exact ((hb.setCell (p := ⟨w2.heap.size, a, none⟩) (by simp; omega) _).setCell (p := ⟨w2.heap.size, b, none⟩) (by simp; omega) _).alloc (by simp; omega) _
        case measure => simp [intOf]; omega
      · have hkl : k = l.length := by omega
        subst hkl
        have hge : ¬ ((l.length : Int) < l.length) := by omega
        clear hsmall
        go_wp2
        go_ret2
        refine ⟨some ⟨w2.heap.size, 0, none⟩, n, by rw [numsOf_length]; rfl, ?_, hbw⟩
        rw [List.take_length] at hown
        rwa [numsOf_length]
end Go.Proofs.Ytmiecebdkadhbaa
/-
  THE PARTS OF A PARTY: 'impl.allPeople' and 'impl.firstOnes', by their contracts.
-/
namespace Go.Proofs.Ytmiecebdkadhbaa
open Go.RowKit

/-- 0, 1, .. below k, and 0 from there on -/
def pplTo (n k : Nat) : List Int := (List.range n).map fun j => if j < k then (j : Int) else 0
def people (n : Nat) : List Int := pplTo n n
theorem pplTo_length (n k : Nat) : (pplTo n k).length = n := by simp [pplTo]
theorem pplTo_at {n k j : Nat} (h : j < n) : (pplTo n k)[j]? = some (if j < k then (j : Int) else 0) := by simp [pplTo, h]
theorem pplTo_zero (n : Nat) : pplTo n 0 = List.replicate n 0 := by
  apply List.ext_getElem (by simp [pplTo])
  intro j h1 h2
  simp [pplTo]
theorem pplTo_set (n k : Nat) : (pplTo n k).set k (k : Int) = pplTo n (k + 1) := by
  apply List.ext_getElem (by simp [pplTo])
  intro j h1 h2
  rw [List.getElem_set]
  by_cases h : k = j
  · subst h; simp [pplTo]
  · rw [if_neg h]
    simp only [pplTo, List.getElem_map, List.getElem_range]
    by_cases h3 : j < k
    · rw [if_pos h3, if_pos (by omega)]
    · rw [if_neg h3, if_neg (by omega)]
theorem people_at {n j : Nat} (h : j < n) : (people n)[j]? = some (j : Int) := by unfold people; rw [pplTo_at h, if_pos h]
theorem people_length (n : Nat) : (people n).length = n := pplTo_length n n

set_option maxHeartbeats 1000000 in
set_option maxRecDepth 100000 in
theorem allPeople_any (n : Nat) (v : Value) (w : World) (hn : n ≤ 12) :
    Calls Try.prog 120 #[.agg #[.int .i64 n, v]] w fun e w' => ∃ g, e = .returned (.slice (some ⟨g, 0, none⟩) n n) ∧ w'.ownsRow w.heap.size 3 1 (.slice (some ⟨g, 0, none⟩) n n) n (icells (people n)) ∧ Below w.heap.size w w' := by
  obtain ⟨i0, hi, hz0, hz1, hz2⟩ := info_parts Try.infoInt
  go_enter Try.func120, Try.ntmps120
  go_wp2_with (at_make; refine wpList_make_full _ rfl _ _ 25 rfl w.heap.size 3 i0 _ 1 Try.underlying25 hi hz0 hz1 _ _ _ _ n rfl rfl (by omega) (by omega) (by rw [hz2]; omega) (by unfold maxLen; omega) (by go_size) ?_; intro w1 hown1 hgr1; have hb1 : Below (w.heap.size + 1) (w.alloc (Obj.cells #[.int .i64 (n : Int), v] 31)) w1 := below_of_gb hgr1 (by go_size))
  rw [show Value.cells (.int .i64 0) = #[.int .i64 0] from rfl, made_ints] at hown1
  have hl1 := own_lt hown1
  have hs1 := hb1.size
  simp only [World.size_alloc] at hown1 hl1 hs1
  go_loopw [10] (fun i wr => ∃ k : Nat, k ≤ n ∧ i = .int .i64 k ∧ wr.ownsRow w.heap.size 3 1 (.slice (some ⟨w.heap.size + 1, 0, none⟩) n n) n (icells (pplTo n k)) ∧ Below (w.heap.size + 1) (w.alloc (Obj.cells #[.int .i64 (n : Int), v] 31)) wr) (fun i _ => n - (intOf i).toNat)
  case atStart => exact ⟨0, Nat.zero_le _, rfl, by rw [pplTo_zero]; exact hown1, hb1⟩
  case round =>
    obtain ⟨k, hk, rfl, hown, hb⟩ := hrel
    have hs := hb.size
    simp only [World.size_alloc] at hs
    have hbw : Below w.heap.size w wr := Below.trans (b := _) (by go_grown) (hb.mono (by omega))
    by_cases hlt : k < n
    · have d0 := own_intAt hown (pplTo_at hlt)
      have d1 := hown.frozenAt k
      have d2 := own_setInt hown k (k : Int)
      rw [pplTo_set] at d2
      have Hd2 := Lib.hid d2
      have hki : (k : Int) < (n : Int) := by omega
      clear hown d2
      go_wp2
      go_roundw
      case rel => exact ⟨k + 1, by omega, by go_num, Hd2.out, hb.setCell (p := ⟨w.heap.size + 1, k, none⟩) (by simp) _⟩
      case measure => simp [intOf]; omega
    · have hkl : k = n := by omega
      have hge : ¬ ((k : Int) < (n : Int)) := by omega
      have Hkl := Lib.hid hkl
      have Hown := Lib.hid hown
      clear hkl hown
      go_wp2
      go_ret
      refine ⟨_, rfl, ?_, hbw⟩
      have h := Hown.out
      rw [Hkl.out] at h
      exact h
/-- the first k of a list, hi turned into lo -/
def relTo (acc : List Int) (hi lo : Int) (k : Nat) : List Int := acc.mapIdx fun j f => if j < k ∧ f = hi then lo else f
theorem relTo_length (acc : List Int) (hi lo : Int) (k : Nat) : (relTo acc hi lo k).length = acc.length := by simp [relTo]
theorem relTo_zero (acc : List Int) (hi lo : Int) : relTo acc hi lo 0 = acc := by
  apply List.ext_getElem (by simp [relTo])
  intro j h1 h2
  simp [relTo]
theorem relTo_at {acc : List Int} {k : Nat} {f : Int} (hi lo : Int) (h : acc[k]? = some f) : (relTo acc hi lo k)[k]? = some f := by
  unfold relTo
  rw [List.getElem?_mapIdx, h]
  simp
theorem relTo_hit {acc : List Int} {k : Nat} {hi lo : Int} (h : acc[k]? = some hi) : (relTo acc hi lo k).set k lo = relTo acc hi lo (k + 1) := by
  have hk := (List.getElem?_eq_some_iff.1 h)
  apply List.ext_getElem (by simp [relTo])
  intro j h1 h2
  rw [List.getElem_set]
  simp only [relTo, List.getElem_mapIdx]
  by_cases e : k = j
  · subst e
    rw [if_pos rfl, if_pos ⟨by omega, hk.2⟩]
  · rw [if_neg e]
    by_cases h3 : j < k
    · simp only [h3, true_and, show j < k + 1 by omega]
    · rw [if_neg (by omega), if_neg (by omega)]
theorem relTo_miss {acc : List Int} {k : Nat} {f hi lo : Int} (h : acc[k]? = some f) (hne : f ≠ hi) : relTo acc hi lo k = relTo acc hi lo (k + 1) := by
  have hk := (List.getElem?_eq_some_iff.1 h)
  apply List.ext_getElem (by simp [relTo])
  intro j h1 h2
  simp only [relTo, List.getElem_mapIdx]
  by_cases e : k = j
  · subst e
    rw [if_neg (by omega), if_neg (fun x => hne (hk.2 ▸ x.2))]
  · by_cases h3 : j < k
    · simp only [h3, true_and, show j < k + 1 by omega]
    · rw [if_neg (by omega), if_neg (by omega)]
/-- a pair makes one part of two: the greater first one becomes the less -/
def joinI (acc : List Int) (q : Int × Int) : List Int := relTo acc (max (acc.getD q.1.toNat 0) (acc.getD q.2.toNat 0)) (min (acc.getD q.1.toNat 0) (acc.getD q.2.toNat 0)) acc.length
def firstI (n : Nat) (l : PL) : List Int := l.foldl joinI (people n)
theorem firstI_snoc (n : Nat) (l : PL) (q : Int × Int) : firstI n (l ++ [q]) = joinI (firstI n l) q := by simp [firstI, List.foldl_append]
theorem firstI_length (n : Nat) (l : PL) : (firstI n l).length = n := by
  unfold firstI
  suffices h : ∀ (l : PL) (acc : List Int), acc.length = n → (l.foldl joinI acc).length = n from h l _ (people_length n)
  intro l
  induction l with
  | nil => intro acc h; exact h
  | cons q l ih => intro acc h; exact ih _ (by rw [joinI, relTo_length, h])
theorem joinI_at {acc : List Int} {n a b : Nat} {x y : Int} (hn : acc.length = n) (hx : acc[a]? = some x) (hy : acc[b]? = some y) : joinI acc (a, b) = relTo acc (max x y) (min x y) n := by
  simp [joinI, List.getD_eq_getElem?_getD, hx, hy, hn]

set_option maxHeartbeats 4000000 in
set_option maxRecDepth 100000 in
theorem firstOnes_any (p : Int) (l : PL) (A : Option Addr) (c : Nat) (w : World) (hp : isP p l = true) (hA : CRead w w.heap.size A (pcells l)) :
    Calls Try.prog 92 #[.agg #[.int .i64 p, .slice A l.length c]] w fun e w' => ∃ g, e = .returned (.slice (some ⟨g, 0, none⟩) p.toNat p.toNat) ∧ w'.ownsRow w.heap.size 3 1 (.slice (some ⟨g, 0, none⟩) p.toNat p.toNat) p.toNat (icells (firstI p.toNat l)) ∧ Below w.heap.size w w' := by
  obtain ⟨n, rfl⟩ : ∃ n : Nat, p = n := ⟨p.toNat, by have := isP_range hp; omega⟩
  have hn := isP_range hp
  have hlen : l.length ≤ 66 := by have h1 := isP_length hp; have h2 := people_sq hn.1 hn.2; omega
  simp only [Int.toNat_natCast]
  have Hp := Lib.hid hp
  clear hp
  generalize hW : w.alloc (Obj.cells #[.int .i64 (n : Int), .slice A l.length c] 31) = W
  have a0 : W.cell? ⟨w.heap.size, 0, none⟩ = some (.int .i64 n) := by rw [← hW]; simp
  have a1 : W.cell? ⟨w.heap.size, 1, none⟩ = some (.slice A l.length c) := by rw [← hW]; simp
  have kW : Below w.heap.size w W := by rw [← hW]; go_grown
  have sW1 : w.heap.size < W.heap.size := by rw [← hW]; simp
  have HW := Lib.hid hW
  clear hW
  go_enter Try.func92, Try.ntmps92
  go_wp2_with fail
  rw [HW.out]
  refine (allPeople_any n (.slice A l.length c) _ (by omega)).mono ?_
  rintro e w1 ⟨g, rfl, own1, hb1⟩
  have a2 := carry hb1 a0 sW1
  have a3 := carry hb1 a1 sW1
  have hgl := (own_lt own1)
  go_wp2_with fail
  have hgW := hgl.1
  clear hgl a2 a3
  go_loopw [15] (fun i wr => ∃ k : Nat, k ≤ l.length ∧ i = .int .i64 k ∧ wr.ownsRow W.heap.size 3 1 (.slice (some ⟨g, 0, none⟩) n n) n (icells (firstI n (l.take k))) ∧ Below W.heap.size W wr) (fun i _ => l.length - (intOf i).toNat)
  case atStart => exact ⟨0, Nat.zero_le _, rfl, own1, hb1⟩
  case round =>
    clear own1 hb1
    obtain ⟨wo, rfl⟩ : ∃ wo, wo = wr := ⟨wr, rfl⟩
    obtain ⟨k, hk, rfl, hown, hb⟩ := hrel
    have kX : Below w.heap.size w wo := kW.trans (hb.mono kW.size)
    have hgo := (own_lt hown).2
    by_cases hlt : k < l.length
    · obtain ⟨⟨x, y⟩, hx⟩ := getSome l k hlt
      obtain ⟨h0, h1, h2⟩ := goodAt_pair (isP_good Hp.out hlt) hx
      obtain ⟨a, rfl⟩ : ∃ a : Nat, x = a := ⟨x.toNat, by omega⟩
      obtain ⟨b, rfl⟩ : ∃ b : Nat, y = b := ⟨y.toNat, by omega⟩
      obtain ⟨bb, off, rfl, hbb, c0, c1⟩ := (hA.below kX (Nat.le_refl _)).pair hx
      have hfl := firstI_length n (l.take k)
      obtain ⟨u, hu⟩ := getSome (firstI n (l.take k)) a (by omega)
      obtain ⟨v, hv⟩ := getSome (firstI n (l.take k)) b (by omega)
      have hsn := joinI_at hfl hu hv
      have Hsn := Lib.hid (show firstI n (l.take (k + 1)) = relTo (firstI n (l.take k)) (max u v) (min u v) n by rw [List.take_add_one, hx, Option.toList_some, firstI_snoc, hsn])
      have hki : (k : Int) < (l.length : Int) := by omega
      have ha : (a : Int) < n := by omega
      have hb' : (b : Int) < n := h2
      clear hsn hx
      go_wp2_with fail
      generalize hX : wo.alloc (Obj.cells #[.int .i64 (a : Int), .int .i64 (b : Int)] 95) = X
      have kWX : Below wo.heap.size wo X := by rw [← hX]; go_grown
      have m0 : X.cell? ⟨wo.heap.size, 0, none⟩ = some (.int .i64 a) := by rw [← hX]; simp
      have m1 : X.cell? ⟨wo.heap.size, 1, none⟩ = some (.int .i64 b) := by rw [← hX]; simp
      have ownX := own_below hown kWX (Nat.le_refl _)
      have d0 := own_intAt ownX hu
      have d1 := own_intAt ownX hv
      have hbX := hb.trans (kWX.mono hb.size)
      clear hX c0 c1 hown hu hv
      generalize firstI n (l.take k) = acc at *
      obtain ⟨hi, hhi⟩ : ∃ hi, max u v = hi := ⟨_, rfl⟩
      obtain ⟨lo, hlo⟩ : ∃ lo, min u v = lo := ⟨_, rfl⟩
      rw [hhi, hlo] at Hsn
      go_quiet (fail)
      first | rw [show (if v < u then v else u) = lo by rw [← hlo]; split <;> omega] | skip
      go_wp2_with fail
      go_quiet (fail)
      first | rw [show (if u < v then v else u) = hi by rw [← hhi]; split <;> omega] | skip
      clear hlo hhi
      go_wp2_with fail
      clear m0 m1 d0 d1
      have own0 := ownX
      rw [← relTo_zero acc hi lo] at own0
      clear ownX
      go_loopw [43] (fun i wr => ∃ j : Nat, j ≤ n ∧ i = .int .i64 j ∧ wr.ownsRow W.heap.size 3 1 (.slice (some ⟨g, 0, none⟩) n n) n (icells (relTo acc hi lo j)) ∧ Below W.heap.size W wr) (fun i _ => n - (intOf i).toNat)
      case atStart => exact ⟨0, Nat.zero_le _, rfl, own0, ⟨hbX.os, hbX.tape, hbX.output, hbX.size, hbX.block⟩⟩
      case round =>
        clear own0 hbX
        obtain ⟨j, hj, rfl, hown, hb2⟩ := hrel
        by_cases hlt2 : j < n
        · obtain ⟨f, hf⟩ := getSome acc j (by omega)
          have d0 := own_intAt hown (relTo_at hi lo hf)
          have d1 := hown.frozenAt j
          have hji : (j : Int) < (n : Int) := by omega
          by_cases hfh : f = hi
          · subst hfh
            have d2 := own_setInt hown j lo
            rw [relTo_hit hf] at d2
            have Hd2 := Lib.hid d2
            clear d2 hown hf
            go_wp2
            go_roundw
            case rel => exact ⟨j + 1, by omega, by go_num, Hd2.out, hb2.setCell (p := ⟨g, j, none⟩) hgW _⟩
            case measure => simp [intOf]; omega
          · have hne : (f == hi) = false := by simp [hfh]
            rw [relTo_miss hf hfh] at hown
            have Hd2 := Lib.hid hown
            clear hown hf
            go_wp2
            go_roundw
            case rel => exact ⟨j + 1, by omega, by go_num, Hd2.out, hb2⟩
            case measure => simp [intOf]; omega
        · have hjn : j = n := by omega
          have hge : ¬ ((j : Int) < (n : Int)) := by omega
          rw [hjn, ← Hsn.out] at hown
          have Hd2 := Lib.hid hown
          clear hown hjn
          go_wp2
          go_roundw
          case rel => exact ⟨k + 1, by omega, by go_num, Hd2.out, hb2⟩
          case measure => simp [intOf]; omega
    · have hkl : k = l.length := by omega
      subst hkl
      have hge : ¬ ((l.length : Int) < l.length) := by omega
      rw [List.take_length] at hown
      go_wp2
      go_ret
      exact ⟨g, rfl, own_lower hown kW.size, kX⟩
end Go.Proofs.Ytmiecebdkadhbaa
/-
  THE PARTS OF A PARTY, pure: the label that 'firstOnes' gives to each person tells its part.
-/
namespace Go.Proofs.Ytmiecebdkadhbaa
open Go.RowKit

theorem snocRec {α : Type} {P : List α → Prop} (nil : P []) (append_singleton : ∀ l r, P l → P (l ++ [r])) (l : List α) : P l := by
  have h : ∀ m : List α, P m.reverse := by
    intro m
    induction m with
    | nil => exact nil
    | cons a m ih => rw [List.reverse_cons]; exact append_singleton _ _ ih
  have := h l.reverse
  rwa [List.reverse_reverse] at this
/-- the label of a person -/
def lab (n : Nat) (l : PL) (c : Nat) : Int := (firstI n l).getD c 0
theorem lab_nil {n c : Nat} (hc : c < n) : lab n [] c = c := by
  unfold lab
  rw [List.getD_eq_getElem?_getD, show firstI n [] = people n from rfl, people_at hc]
  rfl
theorem lab_snoc {n c : Nat} (l : PL) (q : Int × Int) (hc : c < n) :
    lab n (l ++ [q]) c = if lab n l c = max (lab n l q.1.toNat) (lab n l q.2.toNat) then min (lab n l q.1.toNat) (lab n l q.2.toNat) else lab n l c := by
  have hl : c < (firstI n l).length := by rw [firstI_length]; exact hc
  unfold lab
  rw [firstI_snoc, joinI]
  generalize max ((firstI n l).getD q.1.toNat 0) ((firstI n l).getD q.2.toNat 0) = hi
  generalize min ((firstI n l).getD q.1.toNat 0) ((firstI n l).getD q.2.toNat 0) = lo
  simp only [List.getD_eq_getElem?_getD, relTo, List.getElem?_mapIdx, List.getElem?_eq_getElem hl, Option.map_some, Option.getD_some, hl, true_and]
/-- a pair's two people have one label -/
theorem lab_pair {n : Nat} {l : PL} (h : ∀ q ∈ l, q.1.toNat < n ∧ q.2.toNat < n) : ∀ q ∈ l, lab n l q.1.toNat = lab n l q.2.toNat := by
  induction l using snocRec with
  | nil => intro q hq; cases hq
  | append_singleton l r ih =>
    intro q hq
    have hqn := h q hq
    rw [lab_snoc l r hqn.1, lab_snoc l r hqn.2]
    rcases List.mem_append.1 hq with hm | hm
    · rw [ih (fun s hs => h s (by simp [hs])) q hm]
    · have e : q = r := by simpa using hm
      subst e
      generalize lab n l q.1.toNat = x
      generalize lab n l q.2.toNat = y
      by_cases hxy : x ≤ y
      · by_cases h2 : x = y
        · rw [h2]
        · rw [if_neg (by omega), if_pos (by omega)]; omega
      · rw [if_pos (by omega), if_neg (by omega)]; omega
/-- the label of a person is one of its part, not later than it, and its own label -/
theorem lab_own {n : Nat} {l : PL} (h : ∀ q ∈ l, q.1.toNat < n ∧ q.2.toNat < n) : ∀ c, c < n → 0 ≤ lab n l c ∧ lab n l c ≤ c ∧ lab n l (lab n l c).toNat = lab n l c := by
  induction l using snocRec with
  | nil =>
    intro c hc
    rw [lab_nil hc]
    simp only [Int.toNat_natCast]
    exact ⟨by omega, by omega, lab_nil hc⟩
  | append_singleton l r ih =>
    have ih := ih (fun s hs => h s (by simp [hs]))
    have hr := h r (by simp)
    intro c hc
    have i1 := ih c hc
    have i2 := ih _ hr.1
    have i3 := ih _ hr.2
    rw [lab_snoc l r hc]
    have hm : ∀ m : Int, 0 ≤ m → m < n → lab n l m.toNat = m → lab n (l ++ [r]) m.toNat = if m = max (lab n l r.1.toNat) (lab n l r.2.toNat) then min (lab n l r.1.toNat) (lab n l r.2.toNat) else m := fun m h0 h1 he => by
      rw [lab_snoc l r (by omega), he]
    generalize lab n l c = f at *
    generalize lab n l r.1.toNat = x at *
    generalize lab n l r.2.toNat = y at *
    by_cases hf : f = max x y
    · rw [if_pos hf]
      have hlo : lab n l (min x y).toNat = min x y := by
        rcases Int.le_total x y with e | e
        · rw [Int.min_eq_left e]; exact i2.2.2
        · rw [Int.min_eq_right e]; exact i3.2.2
      refine ⟨by omega, by omega, ?_⟩
      rw [hm _ (by omega) (by omega) hlo]
      split <;> rfl
    · rw [if_neg hf]
      refine ⟨i1.1, i1.2.1, ?_⟩
      rw [hm _ i1.1 (by omega) i1.2.2, if_neg hf]
/-- a set that no pair leaves holds with a person all of its label -/
theorem lab_closed {n : Nat} {l : PL} {S : Nat → Prop} (h : ∀ q ∈ l, q.1.toNat < n ∧ q.2.toNat < n) (hS : ∀ q ∈ l, S q.1.toNat ↔ S q.2.toNat) : ∀ a c, a < n → c < n → lab n l a = lab n l c → (S a ↔ S c) := by
  induction l using snocRec with
  | nil =>
    intro a c ha hc e
    rw [lab_nil ha, lab_nil hc] at e
    rw [show a = c by omega]
  | append_singleton l r ih =>
    have ih := ih (fun s hs => h s (by simp [hs])) (fun s hs => hS s (by simp [hs]))
    have hr := h r (by simp)
    have hs := hS r (by simp)
    intro a c ha hc e
    rw [lab_snoc l r ha, lab_snoc l r hc] at e
    have k1 := ih a _ ha hr.1
    have k2 := ih a _ ha hr.2
    have k3 := ih c _ hc hr.1
    have k4 := ih c _ hc hr.2
    have k5 := ih a c ha hc
    generalize lab n l a = f at *
    generalize lab n l c = g at *
    generalize lab n l r.1.toNat = x at *
    generalize lab n l r.2.toNat = y at *
    by_cases hfg : f = g
    · exact k5 hfg
    · by_cases h1 : f = max x y
      · have h2 : g = min x y := by
          rw [if_pos h1] at e
          split at e <;> omega
        rcases Int.le_total x y with e2 | e2
        · rw [k2 (by omega), k3 (by omega), hs]
        · rw [k1 (by omega), k4 (by omega), hs]
      · rw [if_neg h1] at e
        have h2 : g = max x y := by
          split at e
          · assumption
          · exact absurd e hfg
        have h3 : f = min x y := by rw [if_pos h2] at e; exact e
        rcases Int.le_total x y with e2 | e2
        · rw [k1 (by omega), k4 (by omega), hs]
        · rw [k2 (by omega), k3 (by omega), hs]
end Go.Proofs.Ytmiecebdkadhbaa
/-
  THE PARTS OF A PARTY, pure: the first ones and the rows of their parts, person by person.
-/
namespace Go.Proofs.Ytmiecebdkadhbaa
open Go.RowKit

/-- the people below a that are the first ones of their parts -/
def reps (f : Nat → Int) (a : Nat) : List Nat := (List.range a).filter fun r => f r == r
/-- the people below a whose first one is r -/
def rowOf (f : Nat → Int) (a r : Nat) : List Int := ((List.range a).filter fun (c : Nat) => f c == (r : Int)).map fun (c : Nat) => (c : Int)
/-- the parts, each in order, in the order of their first ones -/
def partsI (f : Nat → Int) (n : Nat) : List (List Int) := (reps f n).map (rowOf f n)
def resPartsOfParty (p : Int) (l : PL) : List (List Int) × Bool := if isP p l then (partsI (lab p.toNat l) p.toNat, true) else ([], false)
theorem reps_zero (f : Nat → Int) : reps f 0 = [] := rfl
theorem reps_new {f : Nat → Int} {a : Nat} (h : f a = a) : reps f (a + 1) = reps f a ++ [a] := by
  simp [reps, List.range_succ, List.filter_append, h]
theorem reps_old {f : Nat → Int} {a : Nat} (h : f a ≠ a) : reps f (a + 1) = reps f a := by
  simp [reps, List.range_succ, List.filter_append, h]
theorem rowOf_zero (f : Nat → Int) (r : Nat) : rowOf f 0 r = [] := rfl
theorem rowOf_hit {f : Nat → Int} {a r : Nat} (h : f a = r) : rowOf f (a + 1) r = rowOf f a r ++ [(a : Int)] := by
  simp [rowOf, List.range_succ, List.filter_append, h]
theorem rowOf_miss {f : Nat → Int} {a r : Nat} (h : f a ≠ r) : rowOf f (a + 1) r = rowOf f a r := by
  simp [rowOf, List.range_succ, List.filter_append, h]
theorem rowOf_none {f : Nat → Int} {a r : Nat} (h : ∀ c, c < a → f c ≠ r) : rowOf f a r = [] := by
  unfold rowOf
  rw [List.filter_eq_nil_iff.2 fun c hc => by
    have := h c (List.mem_range.1 hc)
    simpa using this]
  rfl
theorem mem_reps {f : Nat → Int} {a r : Nat} : r ∈ reps f a ↔ r < a ∧ f r = r := by simp [reps]
theorem reps_length_le (f : Nat → Int) (a : Nat) : (reps f a).length ≤ a := by
  have h := List.length_filter_le (fun r => f r == (r : Int)) (List.range a)
  rw [List.length_range] at h
  exact h
theorem rowOf_length_le (f : Nat → Int) (a r : Nat) : (rowOf f a r).length ≤ a := by
  have h := List.length_filter_le (fun c => f c == (r : Int)) (List.range a)
  rw [List.length_range] at h
  rw [rowOf, List.length_map]
  exact h
theorem reps_lt (f : Nat → Int) (a : Nat) : (reps f a).Pairwise (· < ·) := List.Pairwise.filter _ List.pairwise_lt_range
theorem partsI_length (f : Nat → Int) (n : Nat) : (partsI f n).length = (reps f n).length := by simp [partsI]
/-- at a new first one: the rows so far, and a row of it alone -/
theorem parts_new {f : Nat → Int} {a j r : Nat} (h : f a = a) (hj : (reps f a)[j]? = some r) : rowOf f (a + 1) r = rowOf f a r := by
  have hm := mem_reps.1 (List.mem_of_getElem? hj)
  exact rowOf_miss fun e => by rw [h] at e; omega
theorem parts_own {f : Nat → Int} {a : Nat} (h : f a = a) (hle : ∀ c, c < a → f c ≤ c) : rowOf f (a + 1) a = [(a : Int)] := by
  rw [rowOf_hit h, rowOf_none fun c hc e => by have := hle c hc; omega]
  rfl
/-- at another person: the row of its first one grows, the others stand -/
theorem parts_old {f : Nat → Int} {a j k r s : Nat} (hj : (reps f a)[j]? = some r) (hf : f a = r) (hk : (reps f a)[k]? = some s) (hkj : k ≠ j) : rowOf f (a + 1) s = rowOf f a s := by
  refine rowOf_miss fun e => hkj ?_
  have hrs : r = s := by rw [hf] at e; omega
  subst hrs
  have h1 := (List.getElem?_eq_some_iff.1 hj)
  have h2 := (List.getElem?_eq_some_iff.1 hk)
  have h3 := List.pairwise_iff_getElem.1 (reps_lt f a)
  rcases Nat.lt_trichotomy k j with e1 | e1 | e1
  · have h4 := h3 k j h2.1 h1.1 e1
    rw [h2.2, h1.2] at h4
    omega
  · exact e1
  · have h4 := h3 j k h1.1 h2.1 e1
    rw [h2.2, h1.2] at h4
    omega
end Go.Proofs.Ytmiecebdkadhbaa
/-
  ALL PAIRS IN THEIR ORDER; a party's pairs are those of all that it has, in that order. Nothing here speaks of the program.
-/
namespace Go.Proofs.Ytmiecebdkadhbaa

def plt (a b : Int × Int) : Prop := a.1 < b.1 ∨ a.1 = b.1 ∧ a.2 < b.2
theorem plt_trans {a b c : Int × Int} (h : plt a b) (k : plt b c) : plt a c := by unfold plt at *; omega
theorem plt_irrefl (a : Int × Int) : ¬ plt a a := by unfold plt; omega
theorem plt_asymm {a b : Int × Int} (h : plt a b) : ¬ plt b a := by unfold plt at *; omega

theorem sorted_ext : ∀ {l m : PL}, l.Pairwise plt → m.Pairwise plt → (∀ q, q ∈ l ↔ q ∈ m) → l = m
  | [], [], _, _, _ => rfl
  | [], b :: m, _, _, h => by have := (h b).2 (List.mem_cons_self ..); cases this
  | a :: l, [], _, _, h => by have := (h a).1 (List.mem_cons_self ..); cases this
  | a :: l, b :: m, hl, hm, h => by
    rw [List.pairwise_cons] at hl hm
    have hab : a = b := by
      rcases List.mem_cons.1 ((h a).1 (List.mem_cons_self ..)) with e | e
      · exact e
      · rcases List.mem_cons.1 ((h b).2 (List.mem_cons_self ..)) with e' | e'
        · exact e'.symm
        · exact absurd (hm.1 a e) (plt_asymm (hl.1 b e'))
    subst hab
    rw [sorted_ext hl.2 hm.2 fun q => ?_]
    constructor
    · intro hq
      rcases List.mem_cons.1 ((h q).1 (List.mem_cons_of_mem _ hq)) with e | e
      · subst e; exact absurd (hl.1 q hq) (plt_irrefl q)
      · exact e
    · intro hq
      rcases List.mem_cons.1 ((h q).2 (List.mem_cons_of_mem _ hq)) with e | e
      · subst e; exact absurd (hm.1 q hq) (plt_irrefl q)
      · exact e

/-- what a party is, said of its list -/
def IsList (p : Int) (l : PL) : Prop := 0 ≤ p ∧ p ≤ 12 ∧ (∀ q ∈ l, 0 ≤ q.1 ∧ q.1 < q.2 ∧ q.2 < p) ∧ l.Pairwise plt
theorem isP_list {p : Int} {l : PL} (h : isP p l = true) : IsList p l := by
  have hr := isP_range h
  refine ⟨hr.1, hr.2, ?_, ?_⟩
  · intro q hq
    obtain ⟨i, hi, rfl⟩ := List.getElem_of_mem hq
    exact goodAt_pair (isP_good h hi) (List.getElem?_eq_getElem hi)
  · rw [List.pairwise_iff_getElem]
    have step : ∀ (d i : Nat) (hi : i < l.length) (hj : i + d + 1 < l.length), plt l[i] l[i + d + 1] := by
      intro d
      induction d with
      | zero => intro i hi hj; exact goodAt_less (isP_good h hj) (List.getElem?_eq_getElem (by omega)) (List.getElem?_eq_getElem hj)
      | succ d ih =>
        intro i hi hj
        exact plt_trans (ih i hi (by omega)) (goodAt_less (p := p) (l := l) (i := i + d + 1) (isP_good h (by omega)) (List.getElem?_eq_getElem (by omega)) (List.getElem?_eq_getElem (by omega)))
    intro i j hi hj hij
    have e : j = i + (j - i - 1) + 1 := by omega
    have := step (j - i - 1) i hi (by omega)
    simpa only [← e] using this
theorem isP_of_list {p : Int} {l : PL} (h : IsList p l) : isP p l = true := by
  obtain ⟨h0, h1, hm, hs⟩ := h
  refine isP_of p l h0 h1 fun i hi => ?_
  have hx : l[i]? = some (l[i].1, l[i].2) := List.getElem?_eq_getElem hi
  have hg := hm l[i] (List.getElem_mem hi)
  rcases i with _ | i
  · exact goodAt_first hx hg
  · have hx' : l[i]? = some (l[i].1, l[i].2) := List.getElem?_eq_getElem (by omega)
    exact goodAt_next hx' hx hg ((List.pairwise_iff_getElem.1 hs) i (i + 1) (by omega) hi (by omega))

def rowP (a n : Nat) : PL := (List.range' (a + 1) (n - (a + 1))).map fun b : Nat => ((a : Int), (b : Int))
def allP (n : Nat) : PL := (List.range n).flatMap fun a => rowP a n
theorem mem_rowP {a n : Nat} {q : Int × Int} : q ∈ rowP a n ↔ q.1 = a ∧ q.1 < q.2 ∧ q.2 < n := by
  obtain ⟨x, y⟩ := q
  simp only [rowP, List.mem_map, List.mem_range'_1, Prod.mk.injEq]
  constructor
  · rintro ⟨b, hb, rfl, rfl⟩; omega
  · rintro ⟨rfl, h1, h2⟩; exact ⟨y.toNat, by omega, rfl, by omega⟩
theorem mem_allP {n : Nat} {q : Int × Int} : q ∈ allP n ↔ 0 ≤ q.1 ∧ q.1 < q.2 ∧ q.2 < n := by
  simp only [allP, List.mem_flatMap, List.mem_range, mem_rowP]
  constructor
  · rintro ⟨a, ha, h1, h2, h3⟩; omega
  · rintro ⟨h0, h1, h2⟩; exact ⟨q.1.toNat, by omega, by omega, h1, h2⟩
theorem sorted_rowP (a n : Nat) : (rowP a n).Pairwise plt := by
  unfold rowP
  rw [List.pairwise_map]
  exact List.Pairwise.imp (fun {b c} h => Or.inr ⟨rfl, by omega⟩) List.pairwise_lt_range'
theorem sorted_allP (n : Nat) : (allP n).Pairwise plt := by
  unfold allP
  rw [List.pairwise_flatMap]
  refine ⟨fun a _ => sorted_rowP a n, ?_⟩
  refine List.Pairwise.imp (fun {a b} h x hx y hy => ?_) (List.pairwise_lt_range (n := n))
  have h1 := mem_rowP.1 hx
  have h2 := mem_rowP.1 hy
  exact .inl (by omega)
theorem filter_list {n : Nat} (hn : n ≤ 12) (f : Int × Int → Bool) : IsList n ((allP n).filter f) := by
  refine ⟨by omega, by omega, fun q hq => ?_, (sorted_allP n).filter _⟩
  exact mem_allP.1 (List.mem_filter.1 hq).1
theorem filter_isP {n : Nat} (hn : n ≤ 12) (f : Int × Int → Bool) : isP n ((allP n).filter f) = true := isP_of_list (filter_list hn f)
/-- A party's pairs are those of all that it has. -/
theorem isP_filter {n : Nat} {l : PL} (h : isP n l = true) : (allP n).filter (fun q => l.contains q) = l := by
  obtain ⟨_, _, hm, hs⟩ := isP_list h
  refine sorted_ext ((sorted_allP n).filter _) hs fun q => ?_
  rw [List.mem_filter, List.contains_iff_mem]
  exact ⟨fun hq => hq.2, fun hq => ⟨mem_allP.2 (hm q hq), hq⟩⟩
theorem allP_length_le {n : Nat} (hn : n ≤ 12) : (allP n).length ≤ 66 := by
  have h := isP_length (filter_isP hn fun _ => true)
  have h2 := people_sq (p := (n : Int)) (by omega) (by omega)
  rw [List.filter_eq_self.2 (by simp)] at h
  omega
theorem filter_length_le {n : Nat} (hn : n ≤ 12) (f : Int × Int → Bool) : ((allP n).filter f).length ≤ 66 := Nat.le_trans (List.length_filter_le _ _) (allP_length_le hn)
/-- The pairs before the pair (a, b) in the order. -/
def upTo (n a b : Nat) : PL := ((List.range a).flatMap fun a => rowP a n) ++ (List.range' (a + 1) (b - (a + 1))).map fun b : Nat => ((a : Int), (b : Int))
theorem upTo_start (n : Nat) : upTo n 0 1 = [] := rfl
theorem upTo_next {n a b : Nat} (h : a < b) : upTo n a (b + 1) = upTo n a b ++ [((a : Int), (b : Int))] := by
  unfold upTo
  rw [List.append_assoc, show b + 1 - (a + 1) = (b - (a + 1)) + 1 from by omega, List.range'_concat]
  simp
  omega
theorem upTo_row (n a : Nat) : upTo n a n = upTo n (a + 1) (a + 1 + 1) := by
  unfold upTo
  rw [List.range_succ, List.flatMap_append]
  simp [rowP]
theorem upTo_begin (n a : Nat) : upTo n a (a + 1) = (List.range a).flatMap fun a => rowP a n := by simp [upTo]
theorem upTo_all (n : Nat) : upTo n n (n + 1) = allP n := by rw [upTo_begin]; rfl
end Go.Proofs.Ytmiecebdkadhbaa
/-
  TABLES OF WHO IS WHOSE FRIEND, in memory of the call's own: one row of rows.
-/
namespace Go.Proofs.Ytmiecebdkadhbaa
open Go.RowKit

def upd (t : Nat → Nat → Bool) (a b : Nat) (x : Bool) : Nat → Nat → Bool := fun i j => if i = a ∧ j = b then x else t i j
def adj (l : PL) (i j : Nat) : Bool := l.contains ((i : Int), (j : Int)) || l.contains ((j : Int), (i : Int))
theorem adj_nil : adj [] = fun _ _ => false := rfl
theorem adj_snoc (l : PL) (a b : Nat) : adj (l ++ [((a : Int), (b : Int))]) = upd (upd (adj l) a b true) b a true := by
  funext i j
  simp only [adj, upd, List.contains_append, List.contains_cons, List.contains_nil, Bool.or_false]
  have e1 : (((i : Int), (j : Int)) == ((a : Int), (b : Int))) = decide (i = a ∧ j = b) := by rw [Bool.eq_iff_iff]; simp; omega
  have e2 : (((j : Int), (i : Int)) == ((a : Int), (b : Int))) = decide (i = b ∧ j = a) := by rw [Bool.eq_iff_iff]; simp; omega
  rw [e1, e2]
  by_cases h1 : i = b ∧ j = a
  · simp [h1]
  · by_cases h2 : i = a ∧ j = b
    · simp [h2]
    · simp [h1, h2]
theorem adj_pair {n : Nat} {l : PL} (h : isP n l = true) {i j : Nat} (hij : i < j) : adj l i j = l.contains ((i : Int), (j : Int)) := by
  unfold adj
  have : l.contains ((j : Int), (i : Int)) = false := by
    rw [Bool.eq_false_iff]
    intro hc
    rw [List.contains_iff_mem] at hc
    have := (isP_list h).2.2.1 _ hc
    simp at this
    omega
  rw [this, Bool.or_false]
theorem adj_comm (l : PL) (i j : Nat) : adj l i j = adj l j i := by unfold adj; rw [Bool.or_comm]

/-- k rows of n bools each, row i in block G i, under the slice v. -/
structure TabG (w : World) (B : Nat) (v : Value) (k n : Nat) (G : Nat → Nat) (t : Nat → Nat → Bool) : Prop where
  own : w.ownsRow B 70 1 v k ((List.range k).map fun i => Value.slice (some ⟨G i, 0, none⟩) n n)
  row : ∀ i, i < k → B ≤ G i ∧ w.rowIs (G i) 4 n (fun j => .bool (t i j))
  inj : ∀ i j, i < k → j < k → G i = G j → i = j
section
variable {w w' : World} {B k n : Nat} {v : Value} {G : Nat → Nat} {t t' : Nat → Nat → Bool}
theorem TabG.congr (h : TabG w B v k n G t) (e : ∀ i j, i < k → j < n → t i j = t' i j) : TabG w B v k n G t' :=
  ⟨h.own, fun i hi => ⟨(h.row i hi).1, (h.row i hi).2.congr fun j hj => by rw [e i j hi hj]⟩, h.inj⟩
theorem TabG.of_blocks (h : TabG w B v k n G t) (hg : w.grownBy w' none) : TabG w' B v k n G t :=
  ⟨h.own.kept hg (by cases v.ownBlock <;> simp), fun i hi => ⟨(h.row i hi).1, (h.row i hi).2.of_block (hg.block _ (h.row i hi).2.lt (by simp))⟩, h.inj⟩
theorem TabG.alloc (h : TabG w B v k n G t) (o : Obj) : TabG (w.alloc o) B v k n G t := h.of_blocks (World.grownBy_alloc w o none)
theorem TabG.below (h : TabG w B v k n G t) {B' : Nat} (hb : Below B' w w') (hB : w.heap.size ≤ B') : TabG w' B v k n G t := h.of_blocks (below_grownBy hb hB none)
theorem TabG.lower (h : TabG w B v k n G t) {B' : Nat} (hB : B' ≤ B) : TabG w B' v k n G t := ⟨own_lower h.own hB, fun i hi => ⟨Nat.le_trans hB (h.row i hi).1, (h.row i hi).2⟩, h.inj⟩
theorem TabG.cell (h : TabG w B v k n G t) {i j : Nat} (hi : i < k) (hj : j < n) : w.cell? ⟨G i, j, none⟩ = some (.bool (t i j)) := (h.row i hi).2.cell hj
theorem TabG.frozen (h : TabG w B v k n G t) {i : Nat} (hi : i < k) (j : Nat) : w.frozen? ⟨G i, j, none⟩ = false := (h.row i hi).2.frozen j
theorem TabG.blk (h : TabG w B v k n G t) {i : Nat} (hi : i < k) : B ≤ G i ∧ G i < w.heap.size := ⟨(h.row i hi).1, (h.row i hi).2.lt⟩
theorem TabG.outer {g c : Nat} (h : TabG w B (.slice (some ⟨g, 0, none⟩) k c) k n G t) {i : Nat} (hi : i < k) : w.cell? ⟨g, i, none⟩ = some (.slice (some ⟨G i, 0, none⟩) n n) := by
  rw [h.own.cellAt i (by omega)]
  simp [hi]
theorem row_ne_own {e b t : Nat} {size m : Nat} {xs : List Value} {f : Nat → Value} (h : w.ownsRow B e size v m xs) (hr : w.rowIs b t n f) (hne : e ≠ t) : v.ownBlock ≠ some b := by
  rcases h.2 with ⟨rfl, _⟩ | ⟨g, cap, cur, rfl, _, hh, _⟩
  · simp [Value.ownBlock]
  · intro e
    have hgb : g = b := by simpa [Value.ownBlock] using e
    subst hgb
    obtain ⟨c, hc, _⟩ := hr
    rw [hh] at hc
    injection hc with hc
    injection hc with _ ht
    exact hne ht
/-- a store into the table -/
theorem TabG.set (h : TabG w B v k n G t) {a b : Nat} (ha : a < k) (x : Bool) : TabG (w.setCell ⟨G a, b, none⟩ (.bool x)) B v k n G (upd t a b x) := by
  have hne := row_ne_own h.own (h.row a ha).2 (by decide)
  have hg : w.grownBy (w.setCell ⟨G a, b, none⟩ (.bool x)) (some (G a)) := ⟨rfl, rfl, rfl, by simp, fun i _ hi => Below.heap_setCell w _ _ i (fun e => hi (by rw [e]))⟩
  refine ⟨h.own.kept hg (.inr hne), fun i hi => ⟨(h.row i hi).1, ?_⟩, h.inj⟩
  by_cases e : i = a
  · subst e
    exact ((h.row i hi).2.set b (.bool x)).congr fun j _ => by
      unfold upd
      by_cases hj : j = b <;> simp [hj]
  · have hG : G i ≠ G a := fun hh => e (h.inj i a hi ha hh)
    exact ((h.row i hi).2.setOther (a := ⟨G a, b, none⟩) hG _).congr fun j _ => by unfold upd; simp [e]
/-- one row more -/
theorem TabG.push {W : World} {v' : Value} (h : TabG W B v k n G (fun _ _ => false)) (hB : B ≤ W.heap.size) {o : Obj} (hg : ((W.alloc (.cells (madeCells #[.bool false] n) 4)).alloc o).grownBy w' v.ownBlock)
    (hown : w'.ownsRow B 70 1 v' (k + 1) (((List.range k).map fun i => Value.slice (some ⟨G i, 0, none⟩) n n) ++ [.slice (some ⟨W.heap.size, 0, none⟩) n n])) :
    TabG w' B v' (k + 1) n (fun i => if i < k then G i else W.heap.size) (fun _ _ => false) := by
  have h2 := (h.alloc (.cells (madeCells #[.bool false] n) 4)).alloc o
  have hnew : ((W.alloc (.cells (madeCells #[.bool false] n) 4)).alloc o).rowIs W.heap.size 4 n (fun _ => .bool false) := (World.rowIs_made W (.bool false) n 4).alloc o
  have hne : ∀ b f, ((W.alloc (.cells (madeCells #[.bool false] n) 4)).alloc o).rowIs b 4 n f → w'.rowIs b 4 n f := fun b f hr =>
    hr.of_block (hg.block b hr.lt (fun e => row_ne_own h2.own hr (by decide) e.symm))
  refine ⟨?_, fun i hi => ?_, fun i j hi hj e => ?_⟩
  · have : (List.range (k + 1)).map (fun i => Value.slice (some ⟨if i < k then G i else W.heap.size, 0, none⟩) n n) = ((List.range k).map fun i => Value.slice (some ⟨G i, 0, none⟩) n n) ++ [.slice (some ⟨W.heap.size, 0, none⟩) n n] := by
      rw [List.range_succ, List.map_append]
      congr 1
      · exact List.map_congr_left fun i hi => by simp [List.mem_range.1 hi]
      · simp
    rw [this]
    exact hown
  · by_cases hik : i < k
    · simp only [hik, if_true]
      exact ⟨(h.row i hik).1, hne _ _ (h2.row i hik).2⟩
    · simp only [hik, if_false]
      exact ⟨hB, hne _ _ hnew⟩
  · by_cases hik : i < k <;> by_cases hjk : j < k <;> simp only [hik, hjk, if_true, if_false] at e
    · exact h.inj i j hik hjk e
    · have := (h.row i hik).2.lt; omega
    · have := (h.row j hjk).2.lt; omega
    · omega
theorem TabG.nil (w : World) (B n : Nat) (G : Nat → Nat) (t : Nat → Nat → Bool) : TabG w B (.slice none 0 0) 0 n G t := ⟨World.ownsRow_nil _ _ _ _, fun i hi => by omega, fun i j hi => by omega⟩
end
theorem own_cap {w : World} {base : Nat} {e : TypeId} {size n c : Nat} {A : Option Addr} {xs : List Value} (h : w.ownsRow base e size (.slice A n c) n xs) : n ≤ c := by
  rcases h.2 with ⟨h1, h2⟩ | ⟨g, cap, cur, hv, _, _, hm, _, _⟩
  · omega
  · simp only [Value.slice.injEq] at hv
    omega
theorem own_shape {w : World} {B : Nat} {e : TypeId} {size m : Nat} {v : Value} {xs : List Value} (h : w.ownsRow B e size v m xs) : ∃ A c, v = .slice A m c ∧ m ≤ c + 0 ∧ c ≤ maxLen := by
  rcases h.2 with ⟨rfl, rfl⟩ | ⟨g, cap, cur, rfl, _, _, hm, hc, _⟩
  · exact ⟨none, 0, rfl, Nat.le_refl _, by simp [maxLen]⟩
  · exact ⟨_, cap, rfl, hm, hc⟩
/-- the one cell of a slice that was built for an append -/
theorem one_cell {w : World} {g : Nat} {v : Value} (h : w.cell? ⟨g, 0, none⟩ = some v) : ∀ j u, [v][j]? = some u → w.cell? ((⟨g, 0, none⟩ : Addr).add j) = some u := by
  intro j u hu
  match j, hu with
  | 0, hu => simp at hu; subst hu; simpa [Addr.add] using h
theorem one_one {v : Value} (h : v.oneCell' = true) : ∀ u ∈ [v], u.oneCell' = true := by
  intro u hu
  simp at hu
  subst hu
  exact h
/-- A call came back with a table. -/
def GotTab (w : World) (n : Nat) (t : Nat → Nat → Bool) (e : Ending) (w' : World) : Prop :=
  ∃ A c G, e = .returned (.slice A n c) ∧ TabG w' w.heap.size (.slice A n c) n n G t ∧ Below w.heap.size w w'
end Go.Proofs.Ytmiecebdkadhbaa
/-
  slices.Clone of pairs and of numbers, by its contracts, at every address.
-/
namespace Go.Proofs.Ytmiecebdkadhbaa
open Go.RowKit

theorem read_add_P {w : World} {B : Nat} {a : Addr} {l : PL} (h : CRead w B (some a) (pcells l)) : ∀ j u, (pcells l)[j]? = some u → w.cell? (a.add j) = some u := by
  intro j u hj
  obtain ⟨b, off, e, _, hc⟩ := h j u hj
  simp only [Option.some.injEq] at e
  subst e
  rw [Go.WideShapes.add_plain]
  exact hc
set_option maxHeartbeats 1000000 in
set_option maxRecDepth 100000 in
theorem cloneP_any (l : PL) (A : Option Addr) (c : Nat) (w : World) (hl : l.length ≤ 1048576) (hA : CRead w w.heap.size A (pcells l)) :
    Calls Try.prog 111 #[.slice A l.length c] w fun e w' => ∃ A' c', e = .returned (.slice A' l.length c') ∧ w'.ownsRow w.heap.size 95 2 (.slice A' l.length c') l.length (pcells l) ∧ Below w.heap.size w w' := by
  obtain ⟨i0, hi, hz0, hz1, hz2⟩ := info_parts Try.infoPair
  have q22 : ∀ (w : World) (a : Option Addr) (n c n' c' : Nat), (binOp .eql 29 (.slice a n c) (.slice none n' c')).run Try.prog w = .ok (.bool a.isNone) w := fun w a n c n' c' => Lib.run_eql_slice_nil w _ _ a n c n' c' Try.underlying29
  have u22 : ∀ w, Sem.run Try.prog (underlying 29) w = .ok (TypeDesc.slice 95) w := run_underlying Try.underlying29
  cases A with
  | none =>
    have hq : l = [] := by
      cases l with
      | nil => rfl
      | cons x l =>
        obtain ⟨b, off, e, _⟩ := hA 0 _ (by simp [pcells]; rfl)
        cases e
    subst hq
    go_enter Try.func111, Try.ntmps111
    go_wp2
    go_ret
    exact ⟨none, 0, rfl, World.ownsRow_nil _ _ _ _, Below.refl _ _⟩
  | some a =>
    have hc := read_add_P hA
    have H : Aside (∀ j u, (pcells l)[j]? = some u → w.cell? (a.add j) = some u) := hc
    clear hc hA
    go_enter Try.func111, Try.ntmps111
    go_wp2_with (at_builtin; refine wpList_append_own _ rfl _ _ 29 rfl w.heap.size 95 i0 (.agg #[.int .i64 0, .int .i64 0]) 2 16 Try.underlying29 hi hz0 hz1 hz2 rfl (by decide) _ _ _ rfl (World.ownsRow_made w #[] 0 (Nat.le_refl _) (Nat.zero_le _) rfl) a l.length c (pcells l) rfl ?qc1 ?qc2 ?qc3 ?qc4 ?qc5 ?qc6 ?_)
    case qc1 => exact pcells_length l
    case qc2 =>
      intro j u hj
      exact Lib.cell?_alloc_some _ (H.out j u hj)
    case qc3 => exact pcells_one l
    case qc4 => unfold maxLen; omega
    case qc5 => omega
    case qc6 => simp
    intro v' w1 hown hgrow _

    obtain ⟨A1, c1, rfl, _⟩ := own_shape hown
    go_wp2
    go_ret
    exact ⟨A1, c1, rfl, hown, ((Below.refl _ w).alloc (Nat.le_refl _) _).grown hgrow (by simp) (by intro k hk; simp [Value.ownBlock] at hk; omega)⟩

theorem read_add_I {w : World} {B : Nat} {a : Addr} {l : List Int} (h : CRead w B (some a) (icells l)) : ∀ j u, (icells l)[j]? = some u → w.cell? (a.add j) = some u := by
  intro j u hj
  obtain ⟨b, off, e, _, hc⟩ := h j u hj
  simp only [Option.some.injEq] at e
  subst e
  rw [Go.WideShapes.add_plain]
  exact hc
end Go.Proofs.Ytmiecebdkadhbaa
/-
  'spec.l1Put': a number put into a rising list that lacks it, by its contract.
-/
namespace Go.Proofs.Ytmiecebdkadhbaa
open Go.RowKit

def putAt (l : List Int) (x : Int) : Nat := (l.takeWhile fun y => decide (y < x)).length
def putI (l : List Int) (x : Int) : List Int := l.take (putAt l x) ++ [x] ++ l.drop (putAt l x)
theorem putAt_le (l : List Int) (x : Int) : putAt l x ≤ l.length := by
  unfold putAt
  induction l with
  | nil => simp
  | cons y l ih =>
    rw [List.takeWhile_cons]
    split
    · simp only [List.length_cons]; omega
    · simp
theorem putAt_lt {l : List Int} {x y : Int} {k : Nat} (h : k < putAt l x) (hy : l[k]? = some y) : y < x := by
  unfold putAt at h
  induction l generalizing k with
  | nil => simp at h
  | cons z l ih =>
    rw [List.takeWhile_cons] at h
    split at h
    · rename_i hz
      cases k with
      | zero =>
        have e : z = y := by simpa using hy
        rw [← e]; exact of_decide_eq_true hz
      | succ k => exact ih (by simpa using h) (by simpa using hy)
    · simp at h
theorem putAt_stop {l : List Int} {x y : Int} (hy : l[putAt l x]? = some y) : ¬ y < x := by
  unfold putAt at hy
  induction l with
  | nil => simp at hy
  | cons z l ih =>
    rw [List.takeWhile_cons] at hy
    split at hy
    · exact ih (by simpa using hy)
    · rename_i hz
      have e : z = y := by simpa using hy
      rw [← e]
      intro h
      exact hz (decide_eq_true h)
theorem icells_take (l : List Int) (k : Nat) : icells (l.take k) = (icells l).take k := by simp [icells]
theorem icells_drop (l : List Int) (k : Nat) : icells (l.drop k) = (icells l).drop k := by simp [icells]

set_option maxHeartbeats 2000000 in
set_option maxRecDepth 100000 in
theorem l1Put_any (l : List Int) (x : Int) (g c : Nat) (w : World) (hl : l.length ≤ 12) (hd : l.length ≤ c) (hx : x ∉ l) (hA : CRead w w.heap.size (some ⟨g, 0, none⟩) (icells l)) (hgw : g < w.heap.size) :
    Calls Try.prog 118 #[.slice (some ⟨g, 0, none⟩) l.length c, .int .i64 x] w fun e w' => ∃ A' c', e = .returned (.slice A' (l.length + 1) c') ∧ w'.ownsRow w.heap.size 3 1 (.slice A' (l.length + 1) c') (l.length + 1) (icells (putI l x)) ∧ Below w.heap.size w w' := by
  obtain ⟨i0, hi, hz0, hz1, hz2⟩ := info_parts Try.infoInt
  have hpl := putAt_le l x
  have H : Aside (∀ j u, (icells l)[j]? = some u → w.cell? ((⟨g, 0, none⟩ : Addr).add j) = some u) := read_add_I hA
  have hat : ∀ k y, l[k]? = some y → w.cell? ⟨g, k, none⟩ = some (.int .i64 y) := fun k y h => by
    have := H.out k _ (icells_at h)
    rw [Addr.add_lit, Nat.zero_add] at this
    exact this
  have Hat := Lib.hid hat
  clear hA hat
  go_enter Try.func118, Try.ntmps118
  go_wp2_with fail
  go_loopw [5] (fun i wr => ∃ k : Nat, k ≤ putAt l x ∧ i = .int .i64 k ∧ w = wr) (fun i _ => putAt l x - (intOf i).toNat)
  case atStart => exact ⟨0, Nat.zero_le _, rfl, rfl⟩
  case round =>
    obtain ⟨k, hk, rfl, rfl⟩ := hrel
    by_cases hlt : k < putAt l x
    · obtain ⟨y, hy⟩ := getSome l k (by omega)
      have hyx := putAt_lt hlt hy
      have d0 := Hat.out k y hy
      have hki : (k : Int) < (l.length : Int) := by omega
      have Hy := Lib.hid hy
      clear hy
      go_wp2
      go_roundw
      case rel => exact ⟨k + 1, by omega, by go_num, trivial⟩
      case measure => simp [intOf]; omega
    · have hkl : k = putAt l x := by omega
      have HT := Lib.hid (show ∀ j u, (icells (l.take k))[j]? = some u → w.cell? ((⟨g, 0, none⟩ : Addr).add j) = some u from fun j u hj => H.out j u (by
        rw [icells_take, List.getElem?_take] at hj
        split at hj
        · exact hj
        · cases hj))
      have HD := Lib.hid (show ∀ j u, (icells (l.drop k))[j]? = some u → w.cell? ((⟨g, k, none⟩ : Addr).add j) = some u from fun j u hj => by
        rw [icells_drop, List.getElem?_drop] at hj
        have := H.out _ u hj
        rw [Addr.add_lit] at this ⊢
        rwa [Nat.zero_add] at this)
      by_cases hln : k < l.length
      · obtain ⟨y, hy⟩ := getSome l k hln
        have hyx := putAt_stop (hkl ▸ hy)
        have d0 := Hat.out k y hy
        have hki : (k : Int) < (l.length : Int) := by omega
        have hne : (y == x) = false := by
          rw [beq_eq_false_iff_ne]
          rintro rfl
          exact hx (List.mem_of_getElem? hy)
        have Hkl := Lib.hid hkl
        clear hy hkl
        have hkc : ¬ (c - k = 0) := by omega
        have hn : k + 1 + (l.length - k) = l.length + 1 := by omega
        go_wp2_with (at_builtin; first | (refine wpList_append_own _ rfl _ _ 25 rfl w.heap.size 3 i0 _ 1 8 Try.underlying25 hi hz0 hz1 hz2 rfl (by decide) (.slice A2 (k + 1) c2) (k + 1) _ rfl own2 ⟨g, k, none⟩ (l.length - k) (c - k) (icells (l.drop k)) rfl (by rw [icells_length, List.length_drop]; omega) (fun j u hj => by have h5 := HD.out j u hj; rw [Addr.add_lit] at h5 ⊢; exact carry k2 h5 hgw) (icells_one _) (by unfold maxLen; omega) (by omega) k2.size ?_; intro v3 w3 own3 gr3 _; have k3 : Below w.heap.size w w3 := k2.grown gr3 k2.size (fun m hm => (own2.lt m hm).1); obtain ⟨A3, c3, rfl, _⟩ := own_shape own3) | (refine wpList_append_own _ rfl _ _ 25 rfl w.heap.size 3 i0 _ 1 8 Try.underlying25 hi hz0 hz1 hz2 rfl (by decide) (.slice A1 k c1) k _ rfl (own1.alloc _) ⟨w1.heap.size, 0, none⟩ 1 1 [.int .i64 x] rfl rfl (one_cell (by simp)) (one_one rfl) (by unfold maxLen; omega) (by omega) (by have := k1.size; simp; omega) ?_; intro v2 w2 own2 gr2 _; have k2 : Below w.heap.size w w2 := (k1.alloc k1.size _).grown gr2 (by have := k1.size; simp; omega) (fun m hm => (own1.lt m hm).1); obtain ⟨A2, c2, rfl, _⟩ := own_shape own2) | (refine wpList_append_own _ rfl _ _ 25 rfl w.heap.size 3 i0 _ 1 8 Try.underlying25 hi hz0 hz1 hz2 rfl (by decide) (.slice (some ⟨w.heap.size, 0, none⟩) 0 0) 0 [] rfl (World.ownsRow_made w #[] 0 (Nat.le_refl _) (Nat.zero_le _) rfl) ⟨g, 0, none⟩ k c (icells (l.take k)) rfl (by rw [icells_length, List.length_take]; omega) (fun j u hj => Lib.cell?_alloc_some _ (HT.out j u hj)) (icells_one _) (by unfold maxLen; omega) (by omega) (by simp) ?_; intro v1 w1 own1 gr1 _; have k1 : Below w.heap.size w w1 := ((Below.refl _ w).alloc (Nat.le_refl _) _).grown gr1 (by simp) (by intro m hm; simp [Value.ownBlock] at hm; omega); simp only [Nat.zero_add, List.nil_append] at own1; obtain ⟨A1, c1, rfl, _⟩ := own_shape own1))
        go_ret
        refine ⟨A3, c3, rfl, ?_, k3⟩
        rw [hn] at own3
        rw [putI, ← Hkl.out, icells_append, icells_append]
        exact own3
      · have hki : ¬ ((k : Int) < (l.length : Int)) := by omega
        have Hkl := Lib.hid hkl
        have Hdn := Lib.hid (show icells (l.drop k) = [] by rw [List.drop_of_length_le (by omega)]; rfl)
        have hn : k + 1 + (l.length - k) = l.length + 1 := by omega
        clear hkl
        by_cases hkc : c - k = 0
        · go_wp2_with (at_builtin; first | (refine wpList_append_own _ rfl _ _ 25 rfl w.heap.size 3 i0 _ 1 8 Try.underlying25 hi hz0 hz1 hz2 rfl (by decide) (.slice A2 (k + 1) c2) (k + 1) _ rfl own2 ⟨g, 0, none⟩ (l.length - k) 0 (icells (l.drop k)) rfl (by rw [icells_length, List.length_drop]; omega) (fun j u hj => by rw [Hdn.out] at hj; cases hj) (icells_one _) (by unfold maxLen; omega) (by omega) k2.size ?_; intro v3 w3 own3 gr3 _; have k3 : Below w.heap.size w w3 := k2.grown gr3 k2.size (fun m hm => (own2.lt m hm).1); obtain ⟨A3, c3, rfl, _⟩ := own_shape own3) | (refine wpList_append_own _ rfl _ _ 25 rfl w.heap.size 3 i0 _ 1 8 Try.underlying25 hi hz0 hz1 hz2 rfl (by decide) (.slice A1 k c1) k _ rfl (own1.alloc _) ⟨w1.heap.size, 0, none⟩ 1 1 [.int .i64 x] rfl rfl (one_cell (by simp)) (one_one rfl) (by unfold maxLen; omega) (by omega) (by have := k1.size; simp; omega) ?_; intro v2 w2 own2 gr2 _; have k2 : Below w.heap.size w w2 := (k1.alloc k1.size _).grown gr2 (by have := k1.size; simp; omega) (fun m hm => (own1.lt m hm).1); obtain ⟨A2, c2, rfl, _⟩ := own_shape own2) | (refine wpList_append_own _ rfl _ _ 25 rfl w.heap.size 3 i0 _ 1 8 Try.underlying25 hi hz0 hz1 hz2 rfl (by decide) (.slice (some ⟨w.heap.size, 0, none⟩) 0 0) 0 [] rfl (World.ownsRow_made w #[] 0 (Nat.le_refl _) (Nat.zero_le _) rfl) ⟨g, 0, none⟩ k c (icells (l.take k)) rfl (by rw [icells_length, List.length_take]; omega) (fun j u hj => Lib.cell?_alloc_some _ (HT.out j u hj)) (icells_one _) (by unfold maxLen; omega) (by omega) (by simp) ?_; intro v1 w1 own1 gr1 _; have k1 : Below w.heap.size w w1 := ((Below.refl _ w).alloc (Nat.le_refl _) _).grown gr1 (by simp) (by intro m hm; simp [Value.ownBlock] at hm; omega); simp only [Nat.zero_add, List.nil_append] at own1; obtain ⟨A1, c1, rfl, _⟩ := own_shape own1))
          go_ret
          refine ⟨A3, c3, rfl, ?_, k3⟩
          rw [hn] at own3
          rw [putI, ← Hkl.out, icells_append, icells_append]
          exact own3
        · go_wp2_with (at_builtin; first | (refine wpList_append_own _ rfl _ _ 25 rfl w.heap.size 3 i0 _ 1 8 Try.underlying25 hi hz0 hz1 hz2 rfl (by decide) (.slice A2 (k + 1) c2) (k + 1) _ rfl own2 ⟨g, k, none⟩ (l.length - k) (c - k) (icells (l.drop k)) rfl (by rw [icells_length, List.length_drop]; omega) (fun j u hj => by have h5 := HD.out j u hj; rw [Addr.add_lit] at h5 ⊢; exact carry k2 h5 hgw) (icells_one _) (by unfold maxLen; omega) (by omega) k2.size ?_; intro v3 w3 own3 gr3 _; have k3 : Below w.heap.size w w3 := k2.grown gr3 k2.size (fun m hm => (own2.lt m hm).1); obtain ⟨A3, c3, rfl, _⟩ := own_shape own3) | (refine wpList_append_own _ rfl _ _ 25 rfl w.heap.size 3 i0 _ 1 8 Try.underlying25 hi hz0 hz1 hz2 rfl (by decide) (.slice A1 k c1) k _ rfl (own1.alloc _) ⟨w1.heap.size, 0, none⟩ 1 1 [.int .i64 x] rfl rfl (one_cell (by simp)) (one_one rfl) (by unfold maxLen; omega) (by omega) (by have := k1.size; simp; omega) ?_; intro v2 w2 own2 gr2 _; have k2 : Below w.heap.size w w2 := (k1.alloc k1.size _).grown gr2 (by have := k1.size; simp; omega) (fun m hm => (own1.lt m hm).1); obtain ⟨A2, c2, rfl, _⟩ := own_shape own2) | (refine wpList_append_own _ rfl _ _ 25 rfl w.heap.size 3 i0 _ 1 8 Try.underlying25 hi hz0 hz1 hz2 rfl (by decide) (.slice (some ⟨w.heap.size, 0, none⟩) 0 0) 0 [] rfl (World.ownsRow_made w #[] 0 (Nat.le_refl _) (Nat.zero_le _) rfl) ⟨g, 0, none⟩ k c (icells (l.take k)) rfl (by rw [icells_length, List.length_take]; omega) (fun j u hj => Lib.cell?_alloc_some _ (HT.out j u hj)) (icells_one _) (by unfold maxLen; omega) (by omega) (by simp) ?_; intro v1 w1 own1 gr1 _; have k1 : Below w.heap.size w w1 := ((Below.refl _ w).alloc (Nat.le_refl _) _).grown gr1 (by simp) (by intro m hm; simp [Value.ownBlock] at hm; omega); simp only [Nat.zero_add, List.nil_append] at own1; obtain ⟨A1, c1, rfl, _⟩ := own_shape own1))
          go_ret
          refine ⟨A3, c3, rfl, ?_, k3⟩
          rw [hn] at own3
          rw [putI, ← Hkl.out, icells_append, icells_append]
          exact own3

set_option maxHeartbeats 2000000 in
set_option maxRecDepth 100000 in
theorem l1Put_nil (x : Int) (w : World) :
    Calls Try.prog 118 #[.slice none 0 0, .int .i64 x] w fun e w' => ∃ A' c', e = .returned (.slice A' 1 c') ∧ w'.ownsRow w.heap.size 3 1 (.slice A' 1 c') 1 (icells [x]) ∧ Below w.heap.size w w' := by
  obtain ⟨i0, hi, hz0, hz1, hz2⟩ := info_parts Try.infoInt
  go_enter Try.func118, Try.ntmps118
  go_wp2_with fail
  go_loopw [5] (fun i wr => i = .int .i64 0 ∧ w = wr) (fun _ _ => 0)
  case atStart => exact ⟨rfl, rfl⟩
  case round =>
    obtain ⟨rfl, rfl⟩ := hrel
    go_wp2_with (at_builtin; first | (refine wpList_append_own_none rfl _ _ 25 rfl w.heap.size 3 i0 1 Try.underlying25 hi (.slice A2 1 c2) 1 _ rfl own2 rfl ?_) | (refine wpList_append_own_none rfl _ _ 25 rfl w.heap.size 3 i0 1 Try.underlying25 hi (.slice (some ⟨w.heap.size, 0, none⟩) 0 0) 0 [] rfl (World.ownsRow_made w #[] 0 (Nat.le_refl _) (Nat.zero_le _) rfl) rfl ?_) | (refine wpList_append_own _ rfl _ _ 25 rfl w.heap.size 3 i0 _ 1 8 Try.underlying25 hi hz0 hz1 hz2 rfl (by decide) (.slice (some ⟨w.heap.size, 0, none⟩) 0 0) 0 [] rfl ((World.ownsRow_made w #[] 0 (Nat.le_refl _) (Nat.zero_le _) rfl).alloc _) ⟨w.heap.size + 1, 0, none⟩ 1 1 [.int .i64 x] rfl rfl (one_cell (by simp)) (one_one rfl) (by unfold maxLen; omega) (by omega) (by simp; omega) ?_; intro v2 w2 own2 gr2 _; have k2 : Below w.heap.size w w2 := (((Below.refl _ w).alloc (Nat.le_refl _) _).alloc (by simp) _).grown gr2 (by simp; omega) (by intro m hm; simp [Value.ownBlock] at hm; omega); simp only [Nat.zero_add, List.nil_append] at own2; obtain ⟨A2, c2, rfl, _⟩ := own_shape own2))
    go_ret
    exact ⟨A2, c2, rfl, own2, k2⟩
end Go.Proofs.Ytmiecebdkadhbaa
/-
  A NUMBER PUT INTO A RISING LIST: its members, its length, that it rises. Nothing here speaks of the program.
-/
namespace Go.Proofs.Ytmiecebdkadhbaa
open Go.RowKit

theorem putI_mem {l : List Int} {x y : Int} : y ∈ putI l x ↔ y = x ∨ y ∈ l := by
  unfold putI
  have h : y ∈ l ↔ y ∈ l.take (putAt l x) ∨ y ∈ l.drop (putAt l x) := by rw [← List.mem_append, List.take_append_drop]
  simp only [List.mem_append, List.mem_singleton, h]
  constructor
  · rintro ((h | h) | h)
    · exact .inr (.inl h)
    · exact .inl h
    · exact .inr (.inr h)
  · rintro (h | h | h)
    · exact .inl (.inr h)
    · exact .inl (.inl h)
    · exact .inr h
theorem putI_length (l : List Int) (x : Int) : (putI l x).length = l.length + 1 := by
  have := putAt_le l x
  unfold putI
  simp only [List.length_append, List.length_take, List.length_drop, List.length_singleton]
  omega
theorem putI_up {l : List Int} {x : Int} (hl : l.Pairwise (· < ·)) (hx : x ∉ l) : (putI l x).Pairwise (· < ·) := by
  unfold putI
  have h1 : ∀ y ∈ l.take (putAt l x), y < x := by
    intro y hy
    obtain ⟨k, hk, e⟩ := List.getElem_of_mem hy
    rw [List.length_take] at hk
    rw [List.getElem_take] at e
    exact putAt_lt (l := l) (x := x) (k := k) (by omega) (by rw [List.getElem?_eq_getElem (by omega), e])
  have h2 : ∀ y ∈ l.drop (putAt l x), x < y := by
    intro y hy
    obtain ⟨k, hk, e⟩ := List.getElem_of_mem hy
    rw [List.length_drop] at hk
    rw [List.getElem_drop] at e
    have hlt : putAt l x < l.length := by omega
    have h0 := putAt_stop (l := l) (x := x) (y := l[putAt l x]) (List.getElem?_eq_getElem hlt)
    have hne : l[putAt l x] ≠ x := fun h => hx (h ▸ List.getElem_mem hlt)
    have hle : l[putAt l x] ≤ y := by
      rw [← e]
      by_cases hk0 : k = 0
      · subst hk0; simp
      · have := List.pairwise_iff_getElem.1 hl (putAt l x) (putAt l x + k) hlt (by omega) (by omega)
        omega
    omega
  refine List.pairwise_append.2 ⟨List.pairwise_append.2 ⟨hl.sublist (List.take_sublist _ _), by simp, fun y hy z hz => ?_⟩, hl.sublist (List.drop_sublist _ _), fun y hy z hz => ?_⟩
  · simp only [List.mem_singleton] at hz; subst hz; exact h1 y hy
  · rcases List.mem_append.1 hy with hy | hy
    · have := h1 y hy; have := h2 z hz; omega
    · simp only [List.mem_singleton] at hy; subst hy; exact h2 z hz
end Go.Proofs.Ytmiecebdkadhbaa
/-
  PARTIES OF COUPLES, as plain lists: numbers told, sorted, different. Nothing here speaks of the program.
-/
namespace Go.Proofs.Ytmiecebdkadhbaa
open Go.RowKit Go.Lib

def sortUp (q : List Int) : List Int := q.mergeSort fun x y => decide (x ≤ y)
theorem sortUp_perm (q : List Int) : (sortUp q).Perm q := List.mergeSort_perm q _
theorem sortUp_length (q : List Int) : (sortUp q).length = q.length := (sortUp_perm q).length_eq
theorem sortUp_sorted (q : List Int) : (sortUp q).Pairwise (· ≤ ·) := by
  have h := List.pairwise_mergeSort (le := fun x y : Int => decide (x ≤ y)) (fun a b c h1 h2 => by simp at *; omega) (fun a b => by simp; omega) q
  exact h.imp fun {a b} h => of_decide_eq_true h
theorem sortUp_up {q : List Int} (h : q.Nodup) : (sortUp q).Pairwise (· < ·) := by
  have h1 := sortUp_sorted q
  have h2 : (sortUp q).Nodup := (sortUp_perm q).nodup_iff.2 h
  exact (h1.and h2).imp fun {a b} h => by omega
theorem up_eq {a b : List Int} (ha : a.Pairwise (· < ·)) (hb : b.Pairwise (· < ·)) (h : ∀ x, x ∈ a ↔ x ∈ b) : a = b := by
  induction a generalizing b with
  | nil =>
    cases b with
    | nil => rfl
    | cons y b => exact absurd ((h y).2 List.mem_cons_self) (by simp)
  | cons x a ih =>
    cases b with
    | nil => exact absurd ((h x).1 List.mem_cons_self) (by simp)
    | cons y b =>
      have ha' := List.pairwise_cons.1 ha
      have hb' := List.pairwise_cons.1 hb
      have e : x = y := by
        rcases List.mem_cons.1 ((h x).1 List.mem_cons_self) with h1 | h1
        · exact h1
        · rcases List.mem_cons.1 ((h y).2 List.mem_cons_self) with h2 | h2
          · exact h2.symm
          · have := ha'.1 y h2; have := hb'.1 x h1; omega
      subst e
      congr 1
      refine ih ha'.2 hb'.2 fun z => ?_
      constructor
      · intro hz
        have hne := ha'.1 z hz
        rcases List.mem_cons.1 ((h z).1 (List.mem_cons_of_mem _ hz)) with h1 | h1
        · omega
        · exact h1
      · intro hz
        have hne := hb'.1 z hz
        rcases List.mem_cons.1 ((h z).2 (List.mem_cons_of_mem _ hz)) with h1 | h1
        · omega
        · exact h1
/-- one number more put among those sorted -/
theorem put_sortUp {q : List Int} {x : Int} (h : (q ++ [x]).Nodup) : putI (sortUp q) x = sortUp (q ++ [x]) := by
  have hq : q.Nodup := h.sublist (List.sublist_append_left _ _)
  have hx : x ∉ q := fun hm => by
    have := (List.nodup_append.1 h).2.2
    exact absurd rfl (this x hm x (by simp))
  refine up_eq (putI_up (sortUp_up hq) fun hm => hx ((sortUp_perm q).mem_iff.1 hm)) (sortUp_up h) fun y => ?_
  rw [putI_mem, (sortUp_perm q).mem_iff, (sortUp_perm (q ++ [x])).mem_iff, List.mem_append, List.mem_singleton]
  exact Or.comm
/-! ## Compact -/
theorem compactUpTo_le (d : Array Int) (m : Nat) : (compactUpTo d m).length ≤ m := by
  unfold compactUpTo
  rw [List.length_map]
  exact Nat.le_trans (List.length_filter_le _ _) (by simp)
theorem compactUpTo_lt (d : Array Int) {j : Nat} : ∀ {m : Nat}, j < m → keeps d j = false → (compactUpTo d m).length < m := by
  intro m
  induction m with
  | zero => intro h; omega
  | succ m ih =>
    intro hj hk
    rw [compactUpTo_succ, List.length_append]
    by_cases e : j = m
    · subst e
      have := compactUpTo_le d j
      rw [hk]
      simp
      omega
    · have := ih (by omega) hk
      split
      · simp only [List.length_singleton]; omega
      · simp only [List.length_nil]; omega
theorem bang_at {zs : List Int} {j : Nat} (hj : j < zs.length) : zs.toArray[j]! = zs[j] := by
  simp [hj]
theorem compact_len {zs : List Int} (hs : zs.Pairwise (· ≤ ·)) : decide ((compact zs).length = zs.length) = decide zs.Nodup := by
  by_cases h : ∀ j, j < zs.length → keeps zs.toArray j = true
  · have e : compact zs = zs := compact_all zs h
    have hn : zs.Nodup := by
      unfold List.Nodup
      rw [List.pairwise_iff_getElem]
      intro i j hi hj hij
      have hk := h j hj
      unfold keeps at hk
      have hk2 := of_decide_eq_true hk
      rw [bang_at hj, bang_at (show j - 1 < zs.length by omega)] at hk2
      have h1 : zs[i] ≤ zs[j - 1] := by
        by_cases e2 : i = j - 1
        · subst e2; exact Int.le_refl _
        · exact List.pairwise_iff_getElem.1 hs i (j - 1) hi (by omega) (by omega)
      have h2 := List.pairwise_iff_getElem.1 hs (j - 1) j (by omega) hj (by omega)
      rcases hk2 with h3 | h3
      · omega
      · omega
    rw [e, decide_eq_true rfl, decide_eq_true hn]
  · have h' : ∃ j, j < zs.length ∧ keeps zs.toArray j = false := by
      refine Classical.byContradiction fun hc => h fun j hj => ?_
      cases hk : keeps zs.toArray j with
      | true => rfl
      | false => exact absurd ⟨j, hj, hk⟩ hc
    obtain ⟨j, hj, hk⟩ := h'
    have h1 : (compact zs).length < zs.length := compactUpTo_lt _ hj hk
    have hn : ¬ zs.Nodup := by
      intro hn
      unfold keeps at hk
      have hk2 := of_decide_eq_false hk
      rw [bang_at hj, bang_at (show j - 1 < zs.length by omega)] at hk2
      have h3 : j ≠ 0 := fun e => hk2 (.inl e)
      have h4 : zs[j] = zs[j - 1] := Classical.byContradiction fun e => hk2 (.inr e)
      have := List.pairwise_iff_getElem.1 hn (j - 1) j (by omega) hj (by omega)
      exact this h4.symm
    rw [decide_eq_false (by omega), decide_eq_false hn]
/-! ## What is answered -/
def goodC (p : Int) (l : PL) : Bool := isP p l && decide (2 ≤ p) && decide (p % 2 = 0)
def apartC (l : PL) : Bool := l.all fun q => decide (q.1 / 2 ≠ q.2 / 2)
def toldC (p : Int) (l : PL) : List Int := (numsOf p.toNat l).drop 1
def areC (p : Int) (l : PL) : Bool := apartC l && decide (toldC p l).Nodup
def resAreCouples (p : Int) (l : PL) : Bool × Bool := if goodC p l then (areC p l, true) else (false, false)
def resToldNumbers (p : Int) (l : PL) : List Int × Bool := if goodC p l && areC p l then (sortUp (toldC p l), true) else ([], false)
def resSpouseNumber (p : Int) (l : PL) : Int × Bool := if goodC p l && areC p l then ((numsOf p.toNat l).getD 1 0, true) else (0, false)
theorem toldC_length {p : Int} (l : PL) (h : 2 ≤ p) : ((toldC p l).length : Int) = p - 1 := by
  unfold toldC
  rw [List.length_drop, numsOf_length]
  omega
theorem goodC_parts {p : Int} {l : PL} (h : goodC p l = true) : isP p l = true ∧ 2 ≤ p ∧ p % 2 = 0 := by
  simp only [goodC, Bool.and_eq_true, decide_eq_true_eq] at h
  exact ⟨h.1.1, h.1.2, h.2⟩
theorem resToldNumbers_len (p : Int) (l : PL) : (resToldNumbers p l).1.length ≤ 1048576 := by
  unfold resToldNumbers
  split
  · rename_i h
    rw [Bool.and_eq_true] at h
    obtain ⟨h1, h2, _⟩ := goodC_parts h.1
    have := isP_range h1
    have := toldC_length l h2
    show (sortUp _).length ≤ _
    rw [sortUp_length]
    omega
  · simp
/-- the first of the numbers told that stands before it, too -/
theorem nodup_no {q : List Int} {i : Nat} {x : Int} (hx : q[i]? = some x) (h : x ∈ q.take i) : ¬ q.Nodup := by
  intro hn
  obtain ⟨j, hj, e⟩ := List.getElem_of_mem h
  rw [List.length_take] at hj
  rw [List.getElem_take] at e
  obtain ⟨hi, e2⟩ := List.getElem?_eq_some_iff.1 hx
  exact List.pairwise_iff_getElem.1 hn j i (by omega) hi (by omega) (e.trans e2.symm)
theorem nodup_of {q : List Int} (h : ∀ i x, q[i]? = some x → x ∉ q.take i) : q.Nodup := by
  unfold List.Nodup
  rw [List.pairwise_iff_getElem]
  intro i j hi hj hij e
  refine h j q[j] (List.getElem?_eq_getElem hj) ?_
  rw [← e]
  exact List.mem_take_iff_getElem.2 ⟨i, by omega, rfl⟩
end Go.Proofs.Ytmiecebdkadhbaa
