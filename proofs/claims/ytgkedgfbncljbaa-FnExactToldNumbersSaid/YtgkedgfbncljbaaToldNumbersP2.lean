/-
  Texts put together for the claim of 'ToldNumbers' (pack 2): Numbers, Pairs, Tab, Clone, Put, PutP, CoupP, Shelf, CoupT, PairsR, AnyC, Has.
-/
import Derived.Test.YtgkedgfbncljbaaToldNumbersP1
import Derived.Deep.OwnRows
import Derived.Lib.SliceRun
import Derived.Deep.LoopGhost
import Derived.Deep.Slices
import Derived.WideShapes
import Derived.Laws.AppendOwnNone
import Derived.Lib.SlicesCompact
import Derived.Shelf.Small.Bits
import Derived.Shelf.Spec.SlicesGrow
import Derived.Ground.Names8Prog
import Derived.Shelf.SortG.Plain
import Derived.Shelf.SlicesG.CompactI
import Derived.Shelf.SlicesG.SearchI
import Derived.Shelf.SlicesG.Turned
import Derived.Shelf.SlGeneric
import Derived.Ground.SlgnProg
import Derived.Ground.NamesProg
import Derived.Test.YtgkedgfbncljbaaProg
import Derived.Lib.OwnBridge
import Derived.Sort.Grow
/-
  HOW MANY FRIENDS EACH PERSON HAS: the model's count and the program's, by their contracts.
-/
namespace Go.Proofs.Ytgkedgfbncljbaa
open Go.RowKit

def bump (acc : List Int) (a : Int) : List Int := acc.set a.toNat (acc.getD a.toNat 0 + 1)
def numsOf (n : Nat) (l : PL) : List Int := l.foldl (fun acc q => bump (bump acc q.1) q.2) (List.replicate n 0)
theorem bump_length (acc : List Int) (a : Int) : (bump acc a).length = acc.length := by simp [bump]
theorem bump_at {acc : List Int} {a : Nat} {u : Int} (h : acc[a]? = some u) : bump acc (a : Int) = acc.set a (u + 1) := by simp [bump, List.getD, h]
theorem numsOf_snoc (n : Nat) (l : PL) (q : Int × Int) : numsOf n (l ++ [q]) = bump (bump (numsOf n l) q.1) q.2 := by simp [numsOf, List.foldl_append]
theorem numsOf_length (n : Nat) (l : PL) : (numsOf n l).length = n := by
  unfold numsOf
  suffices h : ∀ (l : PL) (acc : List Int), acc.length = n → (l.foldl (fun acc q => bump (bump acc q.1) q.2) acc).length = n from h l _ (by simp)
  intro l
  induction l with
  | nil => intro acc h; exact h
  | cons q l ih => intro acc h; exact ih _ (by rw [bump_length, bump_length, h])
def Small (acc : List Int) (m : Nat) : Prop := ∀ (i : Nat) (x : Int), acc[i]? = some x → 0 ≤ x ∧ x ≤ m
theorem small_zero (n m : Nat) : Small (List.replicate n 0) m := by
  intro i x h
  rw [List.getElem?_replicate] at h
  split at h
  · simp at h; omega
  · cases h
theorem small_set {acc : List Int} {m a : Nat} {u : Int} (h : Small acc m) (ha : acc[a]? = some u) : Small (acc.set a (u + 1)) (m + 1) := by
  intro i x hx
  have hu := h a u ha
  rw [List.getElem?_set] at hx
  split at hx
  · split at hx
    · simp at hx; omega
    · cases hx
  · have := h i x hx; omega
def resNumbersOfFriends (p : Int) (l : PL) : List Int × Bool := if isP p l then (numsOf p.toNat l, true) else ([], false)
theorem resNumbersOfFriends_len (p : Int) (l : PL) : (resNumbersOfFriends p l).1.length ≤ 1048576 := by
  unfold resNumbersOfFriends
  split
  · rename_i h
    have := isP_range h
    rw [numsOf_length]
    omega
  · simp

/-- what one pair does to the row of numbers (the walk writes a store into an old block ahead of a new block) -/
theorem numbers_round {w : World} {B e g n cap a b : Nat} {acc : List Int} {u v : Int} (hown : w.ownsRow B e 1 (.slice (some ⟨g, 0, none⟩) n cap) n (icells acc)) (hu : acc[a]? = some u) (hv : acc[b]? = some v) (hab : a ≠ b) (o : Obj) :
    (w.alloc o).cell? ⟨g, a, none⟩ = some (.int .i64 u) ∧ (w.alloc o).frozen? ⟨g, a, none⟩ = false ∧
      ((w.setCell ⟨g, a, none⟩ (.int .i64 (u + 1))).alloc o).cell? ⟨g, b, none⟩ = some (.int .i64 v) ∧ ((w.setCell ⟨g, a, none⟩ (.int .i64 (u + 1))).alloc o).frozen? ⟨g, b, none⟩ = false ∧
      (((w.setCell ⟨g, a, none⟩ (.int .i64 (u + 1))).setCell ⟨g, b, none⟩ (.int .i64 (v + 1))).alloc o).ownsRow B e 1 (.slice (some ⟨g, 0, none⟩) n cap) n (icells (bump (bump acc a) b)) := by
  have h1 := hown.alloc o
  have h2 := own_setInt hown a (u + 1)
  have h2' := h2.alloc o
  have hv2 : (acc.set a (u + 1))[b]? = some v := by rw [List.getElem?_set_ne hab]; exact hv
  have h3 := own_setInt h2 b (v + 1)
  refine ⟨own_intAt h1 hu, h1.frozenAt _, own_intAt h2' hv2, h2'.frozenAt _, ?_⟩
  rw [bump_at hu, bump_at hv2]
  exact h3.alloc o

set_option maxHeartbeats 1000000 in
set_option maxRecDepth 100000 in
theorem paNumbers_any (p : Int) (l : PL) (A : Option Addr) (c : Nat) (w : World) (hp : isP p l = true) (hA : CRead w w.heap.size A (pcells l)) :
    Calls Try.prog 79 #[.agg #[.int .i64 p, .slice A l.length c]] w fun e w' => ∃ g, e = .returned (.slice (some ⟨g, 0, none⟩) p.toNat p.toNat) ∧ w'.ownsRow w.heap.size 3 1 (.slice (some ⟨g, 0, none⟩) p.toNat p.toNat) p.toNat (icells (numsOf p.toNat l)) ∧ Below w.heap.size w w' := by
  obtain ⟨i0, hi, hz0, hz1, hz2⟩ := info_parts Try.infoInt
  obtain ⟨n, rfl⟩ : ∃ n : Nat, p = n := ⟨p.toNat, by have := isP_range hp; omega⟩
  have hn := isP_range hp
  have hlen : l.length ≤ 66 := by have h1 := isP_length hp; have h2 := people_sq hn.1 hn.2; omega
  simp only [Int.toNat_natCast]
  have Hp := Lib.hid hp
  clear hp
  go_enter Try.func79, Try.ntmps79
  go_wp2_with (at_make; refine wpList_make_full _ rfl _ _ 38 rfl w.heap.size 3 i0 _ 1 Try.underlying38 hi hz0 hz1 _ _ _ _ n rfl rfl (by omega) (by omega) (by rw [hz2]; omega) (by unfold maxLen; omega) (by go_size) ?_; intro w1 hown1 hgr1; have hb1 : Below (w.heap.size + 1) (w.alloc (Obj.cells #[.int .i64 (n : Int), .slice A l.length c] 24)) w1 := below_of_gb hgr1 (by go_size); have q0 : w1.cell? ⟨w.heap.size, 0, none⟩ = some (.int .i64 n) := carry hb1 (by simp) (by omega); have q1 : w1.cell? ⟨w.heap.size, 1, none⟩ = some (.slice A l.length c) := carry hb1 (by simp) (by omega))
  rw [show Value.cells (.int .i64 0) = #[.int .i64 0] from rfl, made_ints] at hown1
  have hl1 := own_lt hown1
  have hs1 := hb1.size
  simp only [World.size_alloc] at hown1 hl1 hs1
  go_loopw [12] (fun i wr => ∃ k : Nat, k ≤ l.length ∧ i = .int .i64 k ∧ wr.ownsRow w.heap.size 3 1 (.slice (some ⟨w.heap.size + 1, 0, none⟩) n n) n (icells (numsOf n (l.take k))) ∧ Small (numsOf n (l.take k)) (2 * k) ∧ Below (w.heap.size + 1) (w.alloc (Obj.cells #[.int .i64 (n : Int), .slice A l.length c] 24)) wr) (fun i _ => l.length - (intOf i).toNat)
  case atStart => exact ⟨0, Nat.zero_le _, rfl, by simpa [numsOf] using hown1, by simpa [numsOf] using small_zero n _, hb1⟩
  case round =>
    obtain ⟨k, hk, rfl, hown, hsmall, hb⟩ := hrel
    have hs := hb.size
    simp only [World.size_alloc] at hs
    have hbw : Below w.heap.size w wr := Below.trans (b := _) (by go_grown) (hb.mono (by omega))
    have hlt0 := own_lt hown
    by_cases hlt : k < l.length
    · obtain ⟨⟨x, y⟩, hx⟩ := getSome l k hlt
      obtain ⟨h0, h1, h2⟩ := goodAt_pair (isP_good Hp.out hlt) hx
      obtain ⟨a, rfl⟩ : ∃ a : Nat, x = a := ⟨x.toNat, by omega⟩
      obtain ⟨b, rfl⟩ : ∃ b : Nat, y = b := ⟨y.toNat, by omega⟩
      obtain ⟨bb, off, rfl, hbb, c0, c1⟩ := (hA.below hbw (Nat.le_refl _)).pair hx
      obtain ⟨u, hu⟩ := getSome (numsOf n (l.take k)) a (by rw [numsOf_length]; omega)
      obtain ⟨v, hv⟩ := getSome (numsOf n (l.take k)) b (by rw [numsOf_length]; omega)
      have hu0 := hsmall _ _ hu
      have hv0 := hsmall _ _ hv
      obtain ⟨d0, d1, d2, d3, d4⟩ := numbers_round hown hu hv (by omega) (Obj.cells #[.int .i64 (a : Int), .int .i64 (b : Int)] 71)
      have hki : (k : Int) < (l.length : Int) := by omega
      have hsm : Small (bump (bump (numsOf n (l.take k)) a) b) (2 * (k + 1)) := by
        rw [bump_at hu, bump_at (by rw [List.getElem?_set_ne (by omega)]; exact hv)]
        exact small_set (small_set hsmall hu) (by rw [List.getElem?_set_ne (by omega)]; exact hv)
      have Hx := Lib.hid hx
      have Hsm := Lib.hid hsm
      have Hd4 := Lib.hid d4
      have ha : (a : Int) < n := by omega
      have hb' : (b : Int) < n := h2
      clear hx hu hv hsm d4 hsmall
      go_wp2
      go_roundw
      case rel =>
        refine ⟨k + 1, by omega, by go_num, ?_, ?_, ?_⟩
        · rw [List.take_add_one, Hx.out, Option.toList_some, numsOf_snoc]
          exact Hd4.out
        · rw [List.take_add_one, Hx.out, Option.toList_some, numsOf_snoc]
          exact Hsm.out
        · exact ((hb.setCell (p := ⟨w.heap.size + 1, a, none⟩) (by simp) _).setCell (p := ⟨w.heap.size + 1, b, none⟩) (by simp) _).alloc (by simp; omega) _
      case measure => simp [intOf]; omega
    · have hkl : k = l.length := by omega
      subst hkl
      have hge : ¬ ((l.length : Int) < l.length) := by omega
      clear hsmall
      go_wp2
      go_ret
      refine ⟨_, rfl, ?_, hbw⟩
      rwa [List.take_length] at hown

set_option maxHeartbeats 1000000 in
set_option maxRecDepth 100000 in
theorem implNumbersOfFriends_any (p : Int) (l : PL) (A : Option Addr) (c : Nat) (w : World) (hl : l.length ≤ 1048576) (hA : CRead w w.heap.size A (pcells l)) :
    Calls Try.prog 81 #[.agg #[.int .i64 p, .slice A l.length c]] w (GotIntsOk w (resNumbersOfFriends p l).1 (resNumbersOfFriends p l).2) := by
  cases hp : isP p l with
  | false =>
    have e : resNumbersOfFriends p l = ([], false) := by simp [resNumbersOfFriends, hp]
    rw [e]
    have Hp := Lib.hid hp
    clear hp e
    go_enter Try.func81, Try.ntmps81
    go_wp2_with (go_at_call 74; refine (isParty_any _ _ _ _ _ hl ((hA.below (B' := w.heap.size) (by go_grown) (Nat.le_refl _)).more (by go_size))).mono ?_; rw [Hp.out]; rintro e w2 ⟨rfl, hb2⟩; simp only [World.size_alloc] at hb2)
    go_ret2
    exact ⟨none, 0, rfl, World.ownsRow_nil _ _ _ _, Below.trans (b := _) (by go_grown) (hb2.mono (by omega))⟩
  | true =>
    have e : resNumbersOfFriends p l = (numsOf p.toNat l, true) := by simp [resNumbersOfFriends, hp]
    rw [e]
    clear e
    obtain ⟨i0, hi, hz0, hz1, hz2⟩ := info_parts Try.infoInt
    obtain ⟨n, rfl⟩ : ∃ n : Nat, p = n := ⟨p.toNat, by have := isP_range hp; omega⟩
    have hn := isP_range hp
    have hlen : l.length ≤ 66 := by have h1 := isP_length hp; have h2 := people_sq hn.1 hn.2; omega
    simp only [Int.toNat_natCast]
    have Hp := Lib.hid hp
    clear hp
    go_enter Try.func81, Try.ntmps81
    go_wp2_with fail
    refine (isParty_any _ _ _ _ _ hl ((hA.below (B' := w.heap.size) (by go_grown) (Nat.le_refl _)).more (by go_size))).mono ?_
    rw [Hp.out]
    rintro e w2 ⟨rfl, hb2⟩
    simp only [World.size_alloc] at hb2
    have a0 : w2.cell? ⟨w.heap.size, 0, none⟩ = some (.int .i64 n) := carry hb2 (by simp) (by omega)
    have a1 : w2.cell? ⟨w.heap.size, 1, none⟩ = some (.slice A l.length c) := carry hb2 (by simp) (by omega)
    have s2 := hb2.size
    simp only [World.size_alloc] at s2
    go_wp2_with (at_make; refine wpList_make_full _ rfl _ _ 38 rfl w.heap.size 3 i0 _ 1 Try.underlying38 hi hz0 hz1 _ _ _ _ n rfl rfl (by omega) (by omega) (by rw [hz2]; omega) (by unfold maxLen; omega) (by omega) ?_; intro w1 hown1 hgr1; have hb1 : Below w2.heap.size w2 w1 := below_of_gb hgr1 (Nat.le_refl _); have q0 : w1.cell? ⟨w.heap.size, 0, none⟩ = some (.int .i64 n) := carry hb1 a0 (by omega); have q1 : w1.cell? ⟨w.heap.size, 1, none⟩ = some (.slice A l.length c) := carry hb1 a1 (by omega))
    rw [show Value.cells (.int .i64 0) = #[.int .i64 0] from rfl, made_ints] at hown1
    have hl1 := own_lt hown1
    have hb1' : Below (w.heap.size + 1) (w.alloc (Obj.cells #[.int .i64 (n : Int), .slice A l.length c] 24)) w1 := hb2.trans (hb1.mono s2)
    clear hb1 hgr1 a0 a1 q0 q1
    go_loopw [16] (fun i wr => ∃ k : Nat, k ≤ l.length ∧ i = .int .i64 k ∧ wr.ownsRow w.heap.size 3 1 (.slice (some ⟨w2.heap.size, 0, none⟩) n n) n (icells (numsOf n (l.take k))) ∧ Small (numsOf n (l.take k)) (2 * k) ∧ Below (w.heap.size + 1) (w.alloc (Obj.cells #[.int .i64 (n : Int), .slice A l.length c] 24)) wr) (fun i _ => l.length - (intOf i).toNat)
    case atStart => exact ⟨0, Nat.zero_le _, rfl, by simpa [numsOf] using hown1, by simpa [numsOf] using small_zero n _, hb1'⟩
    case round =>
      clear hown1 hb1' hl1 hb2
      obtain ⟨k, hk, rfl, hown, hsmall, hb⟩ := hrel
      have hs := hb.size
      simp only [World.size_alloc] at hs
      have hbw : Below w.heap.size w wr := Below.trans (b := _) (by go_grown) (hb.mono (by omega))
      have hlt0 := own_lt hown
      by_cases hlt : k < l.length
      · obtain ⟨⟨x, y⟩, hx⟩ := getSome l k hlt
        obtain ⟨h0, h1, h2⟩ := goodAt_pair (isP_good Hp.out hlt) hx
        obtain ⟨a, rfl⟩ : ∃ a : Nat, x = a := ⟨x.toNat, by omega⟩
        obtain ⟨b, rfl⟩ : ∃ b : Nat, y = b := ⟨y.toNat, by omega⟩
        obtain ⟨bb, off, rfl, hbb, c0, c1⟩ := (hA.below hbw (Nat.le_refl _)).pair hx
        obtain ⟨u, hu⟩ := getSome (numsOf n (l.take k)) a (by rw [numsOf_length]; omega)
        obtain ⟨v, hv⟩ := getSome (numsOf n (l.take k)) b (by rw [numsOf_length]; omega)
        have hu0 := hsmall _ _ hu
        have hv0 := hsmall _ _ hv
        obtain ⟨d0, d1, d2, d3, d4⟩ := numbers_round hown hu hv (by omega) (Obj.cells #[.int .i64 (a : Int), .int .i64 (b : Int)] 71)
        have hki : (k : Int) < (l.length : Int) := by omega
        have hsm : Small (bump (bump (numsOf n (l.take k)) a) b) (2 * (k + 1)) := by
          rw [bump_at hu, bump_at (by rw [List.getElem?_set_ne (by omega)]; exact hv)]
          exact small_set (small_set hsmall hu) (by rw [List.getElem?_set_ne (by omega)]; exact hv)
        have Hx := Lib.hid hx
        have Hsm := Lib.hid hsm
        have Hd4 := Lib.hid d4
        have ha : (a : Int) < n := by omega
        have hb' : (b : Int) < n := h2
        clear hx hu hv hsm d4 hsmall
        go_wp2
        go_roundw
        case rel =>
          refine ⟨k + 1, by omega, by go_num, ?_, ?_, ?_⟩
          · rw [List.take_add_one, Hx.out, Option.toList_some, numsOf_snoc]
            exact Hd4.out
          · rw [List.take_add_one, Hx.out, Option.toList_some, numsOf_snoc]
            exact Hsm.out
          · exact ((hb.setCell (p := ⟨w2.heap.size, a, none⟩) (by simp; omega) _).setCell (p := ⟨w2.heap.size, b, none⟩) (by simp; omega) _).alloc (by simp; omega) _
        case measure => simp [intOf]; omega
      · have hkl : k = l.length := by omega
        subst hkl
        have hge : ¬ ((l.length : Int) < l.length) := by omega
        clear hsmall
        go_wp2
        go_ret2
        refine ⟨some ⟨w2.heap.size, 0, none⟩, n, by rw [numsOf_length]; rfl, ?_, hbw⟩
        rw [List.take_length] at hown
        rwa [numsOf_length]
end Go.Proofs.Ytgkedgfbncljbaa
/-
  ALL PAIRS IN THEIR ORDER; a party's pairs are those of all that it has, in that order. Nothing here speaks of the program.
-/
namespace Go.Proofs.Ytgkedgfbncljbaa

def plt (a b : Int × Int) : Prop := a.1 < b.1 ∨ a.1 = b.1 ∧ a.2 < b.2
theorem plt_trans {a b c : Int × Int} (h : plt a b) (k : plt b c) : plt a c := by unfold plt at *; omega
theorem plt_irrefl (a : Int × Int) : ¬ plt a a := by unfold plt; omega
theorem plt_asymm {a b : Int × Int} (h : plt a b) : ¬ plt b a := by unfold plt at *; omega

theorem sorted_ext : ∀ {l m : PL}, l.Pairwise plt → m.Pairwise plt → (∀ q, q ∈ l ↔ q ∈ m) → l = m
  | [], [], _, _, _ => rfl
  | [], b :: m, _, _, h => by have := (h b).2 (List.mem_cons_self ..); cases this
  | a :: l, [], _, _, h => by have := (h a).1 (List.mem_cons_self ..); cases this
  | a :: l, b :: m, hl, hm, h => by
    rw [List.pairwise_cons] at hl hm
    have hab : a = b := by
      rcases List.mem_cons.1 ((h a).1 (List.mem_cons_self ..)) with e | e
      · exact e
      · rcases List.mem_cons.1 ((h b).2 (List.mem_cons_self ..)) with e' | e'
        · exact e'.symm
        · exact absurd (hm.1 a e) (plt_asymm (hl.1 b e'))
    subst hab
    rw [sorted_ext hl.2 hm.2 fun q => ?_]
    constructor
    · intro hq
      rcases List.mem_cons.1 ((h q).1 (List.mem_cons_of_mem _ hq)) with e | e
      · subst e; exact absurd (hl.1 q hq) (plt_irrefl q)
      · exact e
    · intro hq
      rcases List.mem_cons.1 ((h q).2 (List.mem_cons_of_mem _ hq)) with e | e
      · subst e; exact absurd (hm.1 q hq) (plt_irrefl q)
      · exact e

/-- what a party is, said of its list -/
def IsList (p : Int) (l : PL) : Prop := 0 ≤ p ∧ p ≤ 12 ∧ (∀ q ∈ l, 0 ≤ q.1 ∧ q.1 < q.2 ∧ q.2 < p) ∧ l.Pairwise plt
theorem isP_list {p : Int} {l : PL} (h : isP p l = true) : IsList p l := by
  have hr := isP_range h
  refine ⟨hr.1, hr.2, ?_, ?_⟩
  · intro q hq
    obtain ⟨i, hi, rfl⟩ := List.getElem_of_mem hq
    exact goodAt_pair (isP_good h hi) (List.getElem?_eq_getElem hi)
  · rw [List.pairwise_iff_getElem]
    have step : ∀ (d i : Nat) (hi : i < l.length) (hj : i + d + 1 < l.length), plt l[i] l[i + d + 1] := by
      intro d
      induction d with
      | zero => intro i hi hj; exact goodAt_less (isP_good h hj) (List.getElem?_eq_getElem (by omega)) (List.getElem?_eq_getElem hj)
      | succ d ih =>
        intro i hi hj
        exact plt_trans (ih i hi (by omega)) (goodAt_less (p := p) (l := l) (i := i + d + 1) (isP_good h (by omega)) (List.getElem?_eq_getElem (by omega)) (List.getElem?_eq_getElem (by omega)))
    intro i j hi hj hij
    have e : j = i + (j - i - 1) + 1 := by omega
    have := step (j - i - 1) i hi (by omega)
    simpa only [← e] using this
theorem isP_of_list {p : Int} {l : PL} (h : IsList p l) : isP p l = true := by
  obtain ⟨h0, h1, hm, hs⟩ := h
  refine isP_of p l h0 h1 fun i hi => ?_
  have hx : l[i]? = some (l[i].1, l[i].2) := List.getElem?_eq_getElem hi
  have hg := hm l[i] (List.getElem_mem hi)
  rcases i with _ | i
  · exact goodAt_first hx hg
  · have hx' : l[i]? = some (l[i].1, l[i].2) := List.getElem?_eq_getElem (by omega)
    exact goodAt_next hx' hx hg ((List.pairwise_iff_getElem.1 hs) i (i + 1) (by omega) hi (by omega))

def rowP (a n : Nat) : PL := (List.range' (a + 1) (n - (a + 1))).map fun b : Nat => ((a : Int), (b : Int))
def allP (n : Nat) : PL := (List.range n).flatMap fun a => rowP a n
theorem mem_rowP {a n : Nat} {q : Int × Int} : q ∈ rowP a n ↔ q.1 = a ∧ q.1 < q.2 ∧ q.2 < n := by
  obtain ⟨x, y⟩ := q
  simp only [rowP, List.mem_map, List.mem_range'_1, Prod.mk.injEq]
  constructor
  · rintro ⟨b, hb, rfl, rfl⟩; omega
  · rintro ⟨rfl, h1, h2⟩; exact ⟨y.toNat, by omega, rfl, by omega⟩
theorem mem_allP {n : Nat} {q : Int × Int} : q ∈ allP n ↔ 0 ≤ q.1 ∧ q.1 < q.2 ∧ q.2 < n := by
  simp only [allP, List.mem_flatMap, List.mem_range, mem_rowP]
  constructor
  · rintro ⟨a, ha, h1, h2, h3⟩; omega
  · rintro ⟨h0, h1, h2⟩; exact ⟨q.1.toNat, by omega, by omega, h1, h2⟩
theorem sorted_rowP (a n : Nat) : (rowP a n).Pairwise plt := by
  unfold rowP
  rw [List.pairwise_map]
  exact List.Pairwise.imp (fun {b c} h => Or.inr ⟨rfl, by omega⟩) List.pairwise_lt_range'
theorem sorted_allP (n : Nat) : (allP n).Pairwise plt := by
  unfold allP
  rw [List.pairwise_flatMap]
  refine ⟨fun a _ => sorted_rowP a n, ?_⟩
  refine List.Pairwise.imp (fun {a b} h x hx y hy => ?_) (List.pairwise_lt_range (n := n))
  have h1 := mem_rowP.1 hx
  have h2 := mem_rowP.1 hy
  exact .inl (by omega)
theorem filter_list {n : Nat} (hn : n ≤ 12) (f : Int × Int → Bool) : IsList n ((allP n).filter f) := by
  refine ⟨by omega, by omega, fun q hq => ?_, (sorted_allP n).filter _⟩
  exact mem_allP.1 (List.mem_filter.1 hq).1
theorem filter_isP {n : Nat} (hn : n ≤ 12) (f : Int × Int → Bool) : isP n ((allP n).filter f) = true := isP_of_list (filter_list hn f)
/-- A party's pairs are those of all that it has. -/
theorem isP_filter {n : Nat} {l : PL} (h : isP n l = true) : (allP n).filter (fun q => l.contains q) = l := by
  obtain ⟨_, _, hm, hs⟩ := isP_list h
  refine sorted_ext ((sorted_allP n).filter _) hs fun q => ?_
  rw [List.mem_filter, List.contains_iff_mem]
  exact ⟨fun hq => hq.2, fun hq => ⟨mem_allP.2 (hm q hq), hq⟩⟩
theorem allP_length_le {n : Nat} (hn : n ≤ 12) : (allP n).length ≤ 66 := by
  have h := isP_length (filter_isP hn fun _ => true)
  have h2 := people_sq (p := (n : Int)) (by omega) (by omega)
  rw [List.filter_eq_self.2 (by simp)] at h
  omega
theorem filter_length_le {n : Nat} (hn : n ≤ 12) (f : Int × Int → Bool) : ((allP n).filter f).length ≤ 66 := Nat.le_trans (List.length_filter_le _ _) (allP_length_le hn)
/-- The pairs before the pair (a, b) in the order. -/
def upTo (n a b : Nat) : PL := ((List.range a).flatMap fun a => rowP a n) ++ (List.range' (a + 1) (b - (a + 1))).map fun b : Nat => ((a : Int), (b : Int))
theorem upTo_start (n : Nat) : upTo n 0 1 = [] := rfl
theorem upTo_next {n a b : Nat} (h : a < b) : upTo n a (b + 1) = upTo n a b ++ [((a : Int), (b : Int))] := by
  unfold upTo
  rw [List.append_assoc, show b + 1 - (a + 1) = (b - (a + 1)) + 1 from by omega, List.range'_concat]
  simp
  omega
theorem upTo_row (n a : Nat) : upTo n a n = upTo n (a + 1) (a + 1 + 1) := by
  unfold upTo
  rw [List.range_succ, List.flatMap_append]
  simp [rowP]
theorem upTo_begin (n a : Nat) : upTo n a (a + 1) = (List.range a).flatMap fun a => rowP a n := by simp [upTo]
theorem upTo_all (n : Nat) : upTo n n (n + 1) = allP n := by rw [upTo_begin]; rfl
end Go.Proofs.Ytgkedgfbncljbaa
/-
  TABLES OF WHO IS WHOSE FRIEND, in memory of the call's own: one row of rows.
-/
namespace Go.Proofs.Ytgkedgfbncljbaa
open Go.RowKit

def upd (t : Nat → Nat → Bool) (a b : Nat) (x : Bool) : Nat → Nat → Bool := fun i j => if i = a ∧ j = b then x else t i j
def adj (l : PL) (i j : Nat) : Bool := l.contains ((i : Int), (j : Int)) || l.contains ((j : Int), (i : Int))
theorem adj_nil : adj [] = fun _ _ => false := rfl
theorem adj_snoc (l : PL) (a b : Nat) : adj (l ++ [((a : Int), (b : Int))]) = upd (upd (adj l) a b true) b a true := by
  funext i j
  simp only [adj, upd, List.contains_append, List.contains_cons, List.contains_nil, Bool.or_false]
  have e1 : (((i : Int), (j : Int)) == ((a : Int), (b : Int))) = decide (i = a ∧ j = b) := by rw [Bool.eq_iff_iff]; simp; omega
  have e2 : (((j : Int), (i : Int)) == ((a : Int), (b : Int))) = decide (i = b ∧ j = a) := by rw [Bool.eq_iff_iff]; simp; omega
  rw [e1, e2]
  by_cases h1 : i = b ∧ j = a
  · simp [h1]
  · by_cases h2 : i = a ∧ j = b
    · simp [h2]
    · simp [h1, h2]
theorem adj_pair {n : Nat} {l : PL} (h : isP n l = true) {i j : Nat} (hij : i < j) : adj l i j = l.contains ((i : Int), (j : Int)) := by
  unfold adj
  have : l.contains ((j : Int), (i : Int)) = false := by
    rw [Bool.eq_false_iff]
    intro hc
    rw [List.contains_iff_mem] at hc
    have := (isP_list h).2.2.1 _ hc
    simp at this
    omega
  rw [this, Bool.or_false]
theorem adj_comm (l : PL) (i j : Nat) : adj l i j = adj l j i := by unfold adj; rw [Bool.or_comm]

/-- k rows of n bools each, row i in block G i, under the slice v. -/
structure TabG (w : World) (B : Nat) (v : Value) (k n : Nat) (G : Nat → Nat) (t : Nat → Nat → Bool) : Prop where
  own : w.ownsRow B 68 1 v k ((List.range k).map fun i => Value.slice (some ⟨G i, 0, none⟩) n n)
  row : ∀ i, i < k → B ≤ G i ∧ w.rowIs (G i) 4 n (fun j => .bool (t i j))
  inj : ∀ i j, i < k → j < k → G i = G j → i = j
section
variable {w w' : World} {B k n : Nat} {v : Value} {G : Nat → Nat} {t t' : Nat → Nat → Bool}
theorem TabG.congr (h : TabG w B v k n G t) (e : ∀ i j, i < k → j < n → t i j = t' i j) : TabG w B v k n G t' :=
  ⟨h.own, fun i hi => ⟨(h.row i hi).1, (h.row i hi).2.congr fun j hj => by rw [e i j hi hj]⟩, h.inj⟩
theorem TabG.of_blocks (h : TabG w B v k n G t) (hg : w.grownBy w' none) : TabG w' B v k n G t :=
  ⟨h.own.kept hg (by cases v.ownBlock <;> simp), fun i hi => ⟨(h.row i hi).1, (h.row i hi).2.of_block (hg.block _ (h.row i hi).2.lt (by simp))⟩, h.inj⟩
theorem TabG.alloc (h : TabG w B v k n G t) (o : Obj) : TabG (w.alloc o) B v k n G t := h.of_blocks (World.grownBy_alloc w o none)
theorem TabG.below (h : TabG w B v k n G t) {B' : Nat} (hb : Below B' w w') (hB : w.heap.size ≤ B') : TabG w' B v k n G t := h.of_blocks (below_grownBy hb hB none)
theorem TabG.lower (h : TabG w B v k n G t) {B' : Nat} (hB : B' ≤ B) : TabG w B' v k n G t := ⟨own_lower h.own hB, fun i hi => ⟨Nat.le_trans hB (h.row i hi).1, (h.row i hi).2⟩, h.inj⟩
theorem TabG.cell (h : TabG w B v k n G t) {i j : Nat} (hi : i < k) (hj : j < n) : w.cell? ⟨G i, j, none⟩ = some (.bool (t i j)) := (h.row i hi).2.cell hj
theorem TabG.frozen (h : TabG w B v k n G t) {i : Nat} (hi : i < k) (j : Nat) : w.frozen? ⟨G i, j, none⟩ = false := (h.row i hi).2.frozen j
theorem TabG.blk (h : TabG w B v k n G t) {i : Nat} (hi : i < k) : B ≤ G i ∧ G i < w.heap.size := ⟨(h.row i hi).1, (h.row i hi).2.lt⟩
theorem TabG.outer {g c : Nat} (h : TabG w B (.slice (some ⟨g, 0, none⟩) k c) k n G t) {i : Nat} (hi : i < k) : w.cell? ⟨g, i, none⟩ = some (.slice (some ⟨G i, 0, none⟩) n n) := by
  rw [h.own.cellAt i (by omega)]
  simp [hi]
theorem row_ne_own {e b t : Nat} {size m : Nat} {xs : List Value} {f : Nat → Value} (h : w.ownsRow B e size v m xs) (hr : w.rowIs b t n f) (hne : e ≠ t) : v.ownBlock ≠ some b := by
  rcases h.2 with ⟨rfl, _⟩ | ⟨g, cap, cur, rfl, _, hh, _⟩
  · simp [Value.ownBlock]
  · intro e
    have hgb : g = b := by simpa [Value.ownBlock] using e
    subst hgb
    obtain ⟨c, hc, _⟩ := hr
    rw [hh] at hc
    injection hc with hc
    injection hc with _ ht
    exact hne ht
/-- a store into the table -/
theorem TabG.set (h : TabG w B v k n G t) {a b : Nat} (ha : a < k) (x : Bool) : TabG (w.setCell ⟨G a, b, none⟩ (.bool x)) B v k n G (upd t a b x) := by
  have hne := row_ne_own h.own (h.row a ha).2 (by decide)
  have hg : w.grownBy (w.setCell ⟨G a, b, none⟩ (.bool x)) (some (G a)) := ⟨rfl, rfl, rfl, by simp, fun i _ hi => Below.heap_setCell w _ _ i (fun e => hi (by rw [e]))⟩
  refine ⟨h.own.kept hg (.inr hne), fun i hi => ⟨(h.row i hi).1, ?_⟩, h.inj⟩
  by_cases e : i = a
  · subst e
    exact ((h.row i hi).2.set b (.bool x)).congr fun j _ => by
      unfold upd
      by_cases hj : j = b <;> simp [hj]
  · have hG : G i ≠ G a := fun hh => e (h.inj i a hi ha hh)
    exact ((h.row i hi).2.setOther (a := ⟨G a, b, none⟩) hG _).congr fun j _ => by unfold upd; simp [e]
/-- one row more -/
theorem TabG.push {W : World} {v' : Value} (h : TabG W B v k n G (fun _ _ => false)) (hB : B ≤ W.heap.size) {o : Obj} (hg : ((W.alloc (.cells (madeCells #[.bool false] n) 4)).alloc o).grownBy w' v.ownBlock)
    (hown : w'.ownsRow B 68 1 v' (k + 1) (((List.range k).map fun i => Value.slice (some ⟨G i, 0, none⟩) n n) ++ [.slice (some ⟨W.heap.size, 0, none⟩) n n])) :
    TabG w' B v' (k + 1) n (fun i => if i < k then G i else W.heap.size) (fun _ _ => false) := by
  have h2 := (h.alloc (.cells (madeCells #[.bool false] n) 4)).alloc o
  have hnew : ((W.alloc (.cells (madeCells #[.bool false] n) 4)).alloc o).rowIs W.heap.size 4 n (fun _ => .bool false) := (World.rowIs_made W (.bool false) n 4).alloc o
  have hne : ∀ b f, ((W.alloc (.cells (madeCells #[.bool false] n) 4)).alloc o).rowIs b 4 n f → w'.rowIs b 4 n f := fun b f hr =>
    hr.of_block (hg.block b hr.lt (fun e => row_ne_own h2.own hr (by decide) e.symm))
  refine ⟨?_, fun i hi => ?_, fun i j hi hj e => ?_⟩
  · have : (List.range (k + 1)).map (fun i => Value.slice (some ⟨if i < k then G i else W.heap.size, 0, none⟩) n n) = ((List.range k).map fun i => Value.slice (some ⟨G i, 0, none⟩) n n) ++ [.slice (some ⟨W.heap.size, 0, none⟩) n n] := by
      rw [List.range_succ, List.map_append]
      congr 1
      · exact List.map_congr_left fun i hi => by simp [List.mem_range.1 hi]
      · simp
    rw [this]
    exact hown
  · by_cases hik : i < k
    · simp only [hik, if_true]
      exact ⟨(h.row i hik).1, hne _ _ (h2.row i hik).2⟩
    · simp only [hik, if_false]
      exact ⟨hB, hne _ _ hnew⟩
  · by_cases hik : i < k <;> by_cases hjk : j < k <;> simp only [hik, hjk, if_true, if_false] at e
    · exact h.inj i j hik hjk e
    · have := (h.row i hik).2.lt; omega
    · have := (h.row j hjk).2.lt; omega
    · omega
theorem TabG.nil (w : World) (B n : Nat) (G : Nat → Nat) (t : Nat → Nat → Bool) : TabG w B (.slice none 0 0) 0 n G t := ⟨World.ownsRow_nil _ _ _ _, fun i hi => by omega, fun i j hi => by omega⟩
end
theorem own_cap {w : World} {base : Nat} {e : TypeId} {size n c : Nat} {A : Option Addr} {xs : List Value} (h : w.ownsRow base e size (.slice A n c) n xs) : n ≤ c := by
  rcases h.2 with ⟨h1, h2⟩ | ⟨g, cap, cur, hv, _, _, hm, _, _⟩
  · omega
  · simp only [Value.slice.injEq] at hv
    omega
theorem own_shape {w : World} {B : Nat} {e : TypeId} {size m : Nat} {v : Value} {xs : List Value} (h : w.ownsRow B e size v m xs) : ∃ A c, v = .slice A m c ∧ m ≤ c + 0 ∧ c ≤ maxLen := by
  rcases h.2 with ⟨rfl, rfl⟩ | ⟨g, cap, cur, rfl, _, _, hm, hc, _⟩
  · exact ⟨none, 0, rfl, Nat.le_refl _, by simp [maxLen]⟩
  · exact ⟨_, cap, rfl, hm, hc⟩
/-- the one cell of a slice that was built for an append -/
theorem one_cell {w : World} {g : Nat} {v : Value} (h : w.cell? ⟨g, 0, none⟩ = some v) : ∀ j u, [v][j]? = some u → w.cell? ((⟨g, 0, none⟩ : Addr).add j) = some u := by
  intro j u hu
  match j, hu with
  | 0, hu => simp at hu; subst hu; simpa [Addr.add] using h
theorem one_one {v : Value} (h : v.oneCell' = true) : ∀ u ∈ [v], u.oneCell' = true := by
  intro u hu
  simp at hu
  subst hu
  exact h
/-- A call came back with a table. -/
def GotTab (w : World) (n : Nat) (t : Nat → Nat → Bool) (e : Ending) (w' : World) : Prop :=
  ∃ A c G, e = .returned (.slice A n c) ∧ TabG w' w.heap.size (.slice A n c) n n G t ∧ Below w.heap.size w w'
end Go.Proofs.Ytgkedgfbncljbaa
/-
  slices.Clone of pairs and of numbers, by its contracts, at every address.
-/
namespace Go.Proofs.Ytgkedgfbncljbaa
open Go.RowKit

theorem read_add_P {w : World} {B : Nat} {a : Addr} {l : PL} (h : CRead w B (some a) (pcells l)) : ∀ j u, (pcells l)[j]? = some u → w.cell? (a.add j) = some u := by
  intro j u hj
  obtain ⟨b, off, e, _, hc⟩ := h j u hj
  simp only [Option.some.injEq] at e
  subst e
  rw [Go.WideShapes.add_plain]
  exact hc
theorem read_add_I {w : World} {B : Nat} {a : Addr} {l : List Int} (h : CRead w B (some a) (icells l)) : ∀ j u, (icells l)[j]? = some u → w.cell? (a.add j) = some u := by
  intro j u hj
  obtain ⟨b, off, e, _, hc⟩ := h j u hj
  simp only [Option.some.injEq] at e
  subst e
  rw [Go.WideShapes.add_plain]
  exact hc
end Go.Proofs.Ytgkedgfbncljbaa
/-
  'spec.l1Put': a number put into a rising list that lacks it, by its contract.
-/
namespace Go.Proofs.Ytgkedgfbncljbaa
open Go.RowKit

def putAt (l : List Int) (x : Int) : Nat := (l.takeWhile fun y => decide (y < x)).length
def putI (l : List Int) (x : Int) : List Int := l.take (putAt l x) ++ [x] ++ l.drop (putAt l x)
theorem putAt_le (l : List Int) (x : Int) : putAt l x ≤ l.length := by
  unfold putAt
  induction l with
  | nil => simp
  | cons y l ih =>
    rw [List.takeWhile_cons]
    split
    · simp only [List.length_cons]; omega
    · simp
theorem putAt_lt {l : List Int} {x y : Int} {k : Nat} (h : k < putAt l x) (hy : l[k]? = some y) : y < x := by
  unfold putAt at h
  induction l generalizing k with
  | nil => simp at h
  | cons z l ih =>
    rw [List.takeWhile_cons] at h
    split at h
    · rename_i hz
      cases k with
      | zero =>
        have e : z = y := by simpa using hy
        rw [← e]; exact of_decide_eq_true hz
      | succ k => exact ih (by simpa using h) (by simpa using hy)
    · simp at h
theorem putAt_stop {l : List Int} {x y : Int} (hy : l[putAt l x]? = some y) : ¬ y < x := by
  unfold putAt at hy
  induction l with
  | nil => simp at hy
  | cons z l ih =>
    rw [List.takeWhile_cons] at hy
    split at hy
    · exact ih (by simpa using hy)
    · rename_i hz
      have e : z = y := by simpa using hy
      rw [← e]
      intro h
      exact hz (decide_eq_true h)
theorem icells_take (l : List Int) (k : Nat) : icells (l.take k) = (icells l).take k := by simp [icells]
theorem icells_drop (l : List Int) (k : Nat) : icells (l.drop k) = (icells l).drop k := by simp [icells]

set_option maxHeartbeats 2000000 in
set_option maxRecDepth 100000 in
theorem l1Put_any (l : List Int) (x : Int) (g c : Nat) (w : World) (hl : l.length ≤ 12) (hd : l.length ≤ c) (hx : x ∉ l) (hA : CRead w w.heap.size (some ⟨g, 0, none⟩) (icells l)) (hgw : g < w.heap.size) :
    Calls Try.prog 80 #[.slice (some ⟨g, 0, none⟩) l.length c, .int .i64 x] w fun e w' => ∃ A' c', e = .returned (.slice A' (l.length + 1) c') ∧ w'.ownsRow w.heap.size 3 1 (.slice A' (l.length + 1) c') (l.length + 1) (icells (putI l x)) ∧ Below w.heap.size w w' := by
  obtain ⟨i0, hi, hz0, hz1, hz2⟩ := info_parts Try.infoInt
  have hpl := putAt_le l x
  have H : Aside (∀ j u, (icells l)[j]? = some u → w.cell? ((⟨g, 0, none⟩ : Addr).add j) = some u) := read_add_I hA
  have hat : ∀ k y, l[k]? = some y → w.cell? ⟨g, k, none⟩ = some (.int .i64 y) := fun k y h => by
    have := H.out k _ (icells_at h)
    rw [Addr.add_lit, Nat.zero_add] at this
    exact this
  have Hat := Lib.hid hat
  clear hA hat
  go_enter Try.func80, Try.ntmps80
  go_wp2_with fail
  go_loopw [5] (fun i wr => ∃ k : Nat, k ≤ putAt l x ∧ i = .int .i64 k ∧ w = wr) (fun i _ => putAt l x - (intOf i).toNat)
  case atStart => exact ⟨0, Nat.zero_le _, rfl, rfl⟩
  case round =>
    obtain ⟨k, hk, rfl, rfl⟩ := hrel
    by_cases hlt : k < putAt l x
    · obtain ⟨y, hy⟩ := getSome l k (by omega)
      have hyx := putAt_lt hlt hy
      have d0 := Hat.out k y hy
      have hki : (k : Int) < (l.length : Int) := by omega
      have Hy := Lib.hid hy
      clear hy
      go_wp2
      go_roundw
      case rel => exact ⟨k + 1, by omega, by go_num, trivial⟩
      case measure => simp [intOf]; omega
    · have hkl : k = putAt l x := by omega
      have HT := Lib.hid (show ∀ j u, (icells (l.take k))[j]? = some u → w.cell? ((⟨g, 0, none⟩ : Addr).add j) = some u from fun j u hj => H.out j u (by
        rw [icells_take, List.getElem?_take] at hj
        split at hj
        · exact hj
        · cases hj))
      have HD := Lib.hid (show ∀ j u, (icells (l.drop k))[j]? = some u → w.cell? ((⟨g, k, none⟩ : Addr).add j) = some u from fun j u hj => by
        rw [icells_drop, List.getElem?_drop] at hj
        have := H.out _ u hj
        rw [Addr.add_lit] at this ⊢
        rwa [Nat.zero_add] at this)
      by_cases hln : k < l.length
      · obtain ⟨y, hy⟩ := getSome l k hln
        have hyx := putAt_stop (hkl ▸ hy)
        have d0 := Hat.out k y hy
        have hki : (k : Int) < (l.length : Int) := by omega
        have hne : (y == x) = false := by
          rw [beq_eq_false_iff_ne]
          rintro rfl
          exact hx (List.mem_of_getElem? hy)
        have Hkl := Lib.hid hkl
        clear hy hkl
        have hkc : ¬ (c - k = 0) := by omega
        have hn : k + 1 + (l.length - k) = l.length + 1 := by omega
        go_wp2_with (at_builtin; first | (refine wpList_append_own _ rfl _ _ 38 rfl w.heap.size 3 i0 _ 1 8 Try.underlying38 hi hz0 hz1 hz2 rfl (by decide) (.slice A2 (k + 1) c2) (k + 1) _ rfl own2 ⟨g, k, none⟩ (l.length - k) (c - k) (icells (l.drop k)) rfl (by rw [icells_length, List.length_drop]; omega) (fun j u hj => by have h5 := HD.out j u hj; rw [Addr.add_lit] at h5 ⊢; exact carry k2 h5 hgw) (icells_one _) (by unfold maxLen; omega) (by omega) k2.size ?_; intro v3 w3 own3 gr3 _; have k3 : Below w.heap.size w w3 := k2.grown gr3 k2.size (fun m hm => (own2.lt m hm).1); obtain ⟨A3, c3, rfl, _⟩ := own_shape own3) | (refine wpList_append_own _ rfl _ _ 38 rfl w.heap.size 3 i0 _ 1 8 Try.underlying38 hi hz0 hz1 hz2 rfl (by decide) (.slice A1 k c1) k _ rfl (own1.alloc _) ⟨w1.heap.size, 0, none⟩ 1 1 [.int .i64 x] rfl rfl (one_cell (by simp)) (one_one rfl) (by unfold maxLen; omega) (by omega) (by have := k1.size; simp; omega) ?_; intro v2 w2 own2 gr2 _; have k2 : Below w.heap.size w w2 := (k1.alloc k1.size _).grown gr2 (by have := k1.size; simp; omega) (fun m hm => (own1.lt m hm).1); obtain ⟨A2, c2, rfl, _⟩ := own_shape own2) | (refine wpList_append_own _ rfl _ _ 38 rfl w.heap.size 3 i0 _ 1 8 Try.underlying38 hi hz0 hz1 hz2 rfl (by decide) (.slice (some ⟨w.heap.size, 0, none⟩) 0 0) 0 [] rfl (World.ownsRow_made w #[] 0 (Nat.le_refl _) (Nat.zero_le _) rfl) ⟨g, 0, none⟩ k c (icells (l.take k)) rfl (by rw [icells_length, List.length_take]; omega) (fun j u hj => Lib.cell?_alloc_some _ (HT.out j u hj)) (icells_one _) (by unfold maxLen; omega) (by omega) (by simp) ?_; intro v1 w1 own1 gr1 _; have k1 : Below w.heap.size w w1 := ((Below.refl _ w).alloc (Nat.le_refl _) _).grown gr1 (by simp) (by intro m hm; simp [Value.ownBlock] at hm; omega); simp only [Nat.zero_add, List.nil_append] at own1; obtain ⟨A1, c1, rfl, _⟩ := own_shape own1))
        go_ret
        refine ⟨A3, c3, rfl, ?_, k3⟩
        rw [hn] at own3
        rw [putI, ← Hkl.out, icells_append, icells_append]
        exact own3
      · have hki : ¬ ((k : Int) < (l.length : Int)) := by omega
        have Hkl := Lib.hid hkl
        have Hdn := Lib.hid (show icells (l.drop k) = [] by rw [List.drop_of_length_le (by omega)]; rfl)
        have hn : k + 1 + (l.length - k) = l.length + 1 := by omega
        clear hkl
        by_cases hkc : c - k = 0
        · go_wp2_with (at_builtin; first | (refine wpList_append_own _ rfl _ _ 38 rfl w.heap.size 3 i0 _ 1 8 Try.underlying38 hi hz0 hz1 hz2 rfl (by decide) (.slice A2 (k + 1) c2) (k + 1) _ rfl own2 ⟨g, 0, none⟩ (l.length - k) 0 (icells (l.drop k)) rfl (by rw [icells_length, List.length_drop]; omega) (fun j u hj => by rw [Hdn.out] at hj; cases hj) (icells_one _) (by unfold maxLen; omega) (by omega) k2.size ?_; intro v3 w3 own3 gr3 _; have k3 : Below w.heap.size w w3 := k2.grown gr3 k2.size (fun m hm => (own2.lt m hm).1); obtain ⟨A3, c3, rfl, _⟩ := own_shape own3) | (refine wpList_append_own _ rfl _ _ 38 rfl w.heap.size 3 i0 _ 1 8 Try.underlying38 hi hz0 hz1 hz2 rfl (by decide) (.slice A1 k c1) k _ rfl (own1.alloc _) ⟨w1.heap.size, 0, none⟩ 1 1 [.int .i64 x] rfl rfl (one_cell (by simp)) (one_one rfl) (by unfold maxLen; omega) (by omega) (by have := k1.size; simp; omega) ?_; intro v2 w2 own2 gr2 _; have k2 : Below w.heap.size w w2 := (k1.alloc k1.size _).grown gr2 (by have := k1.size; simp; omega) (fun m hm => (own1.lt m hm).1); obtain ⟨A2, c2, rfl, _⟩ := own_shape own2) | (refine wpList_append_own _ rfl _ _ 38 rfl w.heap.size 3 i0 _ 1 8 Try.underlying38 hi hz0 hz1 hz2 rfl (by decide) (.slice (some ⟨w.heap.size, 0, none⟩) 0 0) 0 [] rfl (World.ownsRow_made w #[] 0 (Nat.le_refl _) (Nat.zero_le _) rfl) ⟨g, 0, none⟩ k c (icells (l.take k)) rfl (by rw [icells_length, List.length_take]; omega) (fun j u hj => Lib.cell?_alloc_some _ (HT.out j u hj)) (icells_one _) (by unfold maxLen; omega) (by omega) (by simp) ?_; intro v1 w1 own1 gr1 _; have k1 : Below w.heap.size w w1 := ((Below.refl _ w).alloc (Nat.le_refl _) _).grown gr1 (by simp) (by intro m hm; simp [Value.ownBlock] at hm; omega); simp only [Nat.zero_add, List.nil_append] at own1; obtain ⟨A1, c1, rfl, _⟩ := own_shape own1))
          go_ret
          refine ⟨A3, c3, rfl, ?_, k3⟩
          rw [hn] at own3
          rw [putI, ← Hkl.out, icells_append, icells_append]
          exact own3
        · go_wp2_with (at_builtin; first | (refine wpList_append_own _ rfl _ _ 38 rfl w.heap.size 3 i0 _ 1 8 Try.underlying38 hi hz0 hz1 hz2 rfl (by decide) (.slice A2 (k + 1) c2) (k + 1) _ rfl own2 ⟨g, k, none⟩ (l.length - k) (c - k) (icells (l.drop k)) rfl (by rw [icells_length, List.length_drop]; omega) (fun j u hj => by have h5 := HD.out j u hj; rw [Addr.add_lit] at h5 ⊢; exact carry k2 h5 hgw) (icells_one _) (by unfold maxLen; omega) (by omega) k2.size ?_; intro v3 w3 own3 gr3 _; have k3 : Below w.heap.size w w3 := k2.grown gr3 k2.size (fun m hm => (own2.lt m hm).1); obtain ⟨A3, c3, rfl, _⟩ := own_shape own3) | (refine wpList_append_own _ rfl _ _ 38 rfl w.heap.size 3 i0 _ 1 8 Try.underlying38 hi hz0 hz1 hz2 rfl (by decide) (.slice A1 k c1) k _ rfl (own1.alloc _) ⟨w1.heap.size, 0, none⟩ 1 1 [.int .i64 x] rfl rfl (one_cell (by simp)) (one_one rfl) (by unfold maxLen; omega) (by omega) (by have := k1.size; simp; omega) ?_; intro v2 w2 own2 gr2 _; have k2 : Below w.heap.size w w2 := (k1.alloc k1.size _).grown gr2 (by have := k1.size; simp; omega) (fun m hm => (own1.lt m hm).1); obtain ⟨A2, c2, rfl, _⟩ := own_shape own2) | (refine wpList_append_own _ rfl _ _ 38 rfl w.heap.size 3 i0 _ 1 8 Try.underlying38 hi hz0 hz1 hz2 rfl (by decide) (.slice (some ⟨w.heap.size, 0, none⟩) 0 0) 0 [] rfl (World.ownsRow_made w #[] 0 (Nat.le_refl _) (Nat.zero_le _) rfl) ⟨g, 0, none⟩ k c (icells (l.take k)) rfl (by rw [icells_length, List.length_take]; omega) (fun j u hj => Lib.cell?_alloc_some _ (HT.out j u hj)) (icells_one _) (by unfold maxLen; omega) (by omega) (by simp) ?_; intro v1 w1 own1 gr1 _; have k1 : Below w.heap.size w w1 := ((Below.refl _ w).alloc (Nat.le_refl _) _).grown gr1 (by simp) (by intro m hm; simp [Value.ownBlock] at hm; omega); simp only [Nat.zero_add, List.nil_append] at own1; obtain ⟨A1, c1, rfl, _⟩ := own_shape own1))
          go_ret
          refine ⟨A3, c3, rfl, ?_, k3⟩
          rw [hn] at own3
          rw [putI, ← Hkl.out, icells_append, icells_append]
          exact own3

set_option maxHeartbeats 2000000 in
set_option maxRecDepth 100000 in
theorem l1Put_nil (x : Int) (w : World) :
    Calls Try.prog 80 #[.slice none 0 0, .int .i64 x] w fun e w' => ∃ A' c', e = .returned (.slice A' 1 c') ∧ w'.ownsRow w.heap.size 3 1 (.slice A' 1 c') 1 (icells [x]) ∧ Below w.heap.size w w' := by
  obtain ⟨i0, hi, hz0, hz1, hz2⟩ := info_parts Try.infoInt
  go_enter Try.func80, Try.ntmps80
  go_wp2_with fail
  go_loopw [5] (fun i wr => i = .int .i64 0 ∧ w = wr) (fun _ _ => 0)
  case atStart => exact ⟨rfl, rfl⟩
  case round =>
    obtain ⟨rfl, rfl⟩ := hrel
    go_wp2_with (at_builtin; first | (refine wpList_append_own_none rfl _ _ 38 rfl w.heap.size 3 i0 1 Try.underlying38 hi (.slice A2 1 c2) 1 _ rfl own2 rfl ?_) | (refine wpList_append_own_none rfl _ _ 38 rfl w.heap.size 3 i0 1 Try.underlying38 hi (.slice (some ⟨w.heap.size, 0, none⟩) 0 0) 0 [] rfl (World.ownsRow_made w #[] 0 (Nat.le_refl _) (Nat.zero_le _) rfl) rfl ?_) | (refine wpList_append_own _ rfl _ _ 38 rfl w.heap.size 3 i0 _ 1 8 Try.underlying38 hi hz0 hz1 hz2 rfl (by decide) (.slice (some ⟨w.heap.size, 0, none⟩) 0 0) 0 [] rfl ((World.ownsRow_made w #[] 0 (Nat.le_refl _) (Nat.zero_le _) rfl).alloc _) ⟨w.heap.size + 1, 0, none⟩ 1 1 [.int .i64 x] rfl rfl (one_cell (by simp)) (one_one rfl) (by unfold maxLen; omega) (by omega) (by simp; omega) ?_; intro v2 w2 own2 gr2 _; have k2 : Below w.heap.size w w2 := (((Below.refl _ w).alloc (Nat.le_refl _) _).alloc (by simp) _).grown gr2 (by simp; omega) (by intro m hm; simp [Value.ownBlock] at hm; omega); simp only [Nat.zero_add, List.nil_append] at own2; obtain ⟨A2, c2, rfl, _⟩ := own_shape own2))
    go_ret
    exact ⟨A2, c2, rfl, own2, k2⟩
end Go.Proofs.Ytgkedgfbncljbaa
/-
  A NUMBER PUT INTO A RISING LIST: its members, its length, that it rises. Nothing here speaks of the program.
-/
namespace Go.Proofs.Ytgkedgfbncljbaa
open Go.RowKit

theorem putI_mem {l : List Int} {x y : Int} : y ∈ putI l x ↔ y = x ∨ y ∈ l := by
  unfold putI
  have h : y ∈ l ↔ y ∈ l.take (putAt l x) ∨ y ∈ l.drop (putAt l x) := by rw [← List.mem_append, List.take_append_drop]
  simp only [List.mem_append, List.mem_singleton, h]
  constructor
  · rintro ((h | h) | h)
    · exact .inr (.inl h)
    · exact .inl h
    · exact .inr (.inr h)
  · rintro (h | h | h)
    · exact .inl (.inr h)
    · exact .inl (.inl h)
    · exact .inr h
theorem putI_length (l : List Int) (x : Int) : (putI l x).length = l.length + 1 := by
  have := putAt_le l x
  unfold putI
  simp only [List.length_append, List.length_take, List.length_drop, List.length_singleton]
  omega
theorem putI_up {l : List Int} {x : Int} (hl : l.Pairwise (· < ·)) (hx : x ∉ l) : (putI l x).Pairwise (· < ·) := by
  unfold putI
  have h1 : ∀ y ∈ l.take (putAt l x), y < x := by
    intro y hy
    obtain ⟨k, hk, e⟩ := List.getElem_of_mem hy
    rw [List.length_take] at hk
    rw [List.getElem_take] at e
    exact putAt_lt (l := l) (x := x) (k := k) (by omega) (by rw [List.getElem?_eq_getElem (by omega), e])
  have h2 : ∀ y ∈ l.drop (putAt l x), x < y := by
    intro y hy
    obtain ⟨k, hk, e⟩ := List.getElem_of_mem hy
    rw [List.length_drop] at hk
    rw [List.getElem_drop] at e
    have hlt : putAt l x < l.length := by omega
    have h0 := putAt_stop (l := l) (x := x) (y := l[putAt l x]) (List.getElem?_eq_getElem hlt)
    have hne : l[putAt l x] ≠ x := fun h => hx (h ▸ List.getElem_mem hlt)
    have hle : l[putAt l x] ≤ y := by
      rw [← e]
      by_cases hk0 : k = 0
      · subst hk0; simp
      · have := List.pairwise_iff_getElem.1 hl (putAt l x) (putAt l x + k) hlt (by omega) (by omega)
        omega
    omega
  refine List.pairwise_append.2 ⟨List.pairwise_append.2 ⟨hl.sublist (List.take_sublist _ _), by simp, fun y hy z hz => ?_⟩, hl.sublist (List.drop_sublist _ _), fun y hy z hz => ?_⟩
  · simp only [List.mem_singleton] at hz; subst hz; exact h1 y hy
  · rcases List.mem_append.1 hy with hy | hy
    · have := h1 y hy; have := h2 z hz; omega
    · simp only [List.mem_singleton] at hy; subst hy; exact h2 z hz
end Go.Proofs.Ytgkedgfbncljbaa
/-
  PARTIES OF COUPLES, as plain lists: numbers told, sorted, different. Nothing here speaks of the program.
-/
namespace Go.Proofs.Ytgkedgfbncljbaa
open Go.RowKit Go.Lib

def sortUp (q : List Int) : List Int := q.mergeSort fun x y => decide (x ≤ y)
theorem sortUp_perm (q : List Int) : (sortUp q).Perm q := List.mergeSort_perm q _
theorem sortUp_length (q : List Int) : (sortUp q).length = q.length := (sortUp_perm q).length_eq
theorem sortUp_sorted (q : List Int) : (sortUp q).Pairwise (· ≤ ·) := by
  have h := List.pairwise_mergeSort (le := fun x y : Int => decide (x ≤ y)) (fun a b c h1 h2 => by simp at *; omega) (fun a b => by simp; omega) q
  exact h.imp fun {a b} h => of_decide_eq_true h
theorem sortUp_up {q : List Int} (h : q.Nodup) : (sortUp q).Pairwise (· < ·) := by
  have h1 := sortUp_sorted q
  have h2 : (sortUp q).Nodup := (sortUp_perm q).nodup_iff.2 h
  exact (h1.and h2).imp fun {a b} h => by omega
theorem up_eq {a b : List Int} (ha : a.Pairwise (· < ·)) (hb : b.Pairwise (· < ·)) (h : ∀ x, x ∈ a ↔ x ∈ b) : a = b := by
  induction a generalizing b with
  | nil =>
    cases b with
    | nil => rfl
    | cons y b => exact absurd ((h y).2 List.mem_cons_self) (by simp)
  | cons x a ih =>
    cases b with
    | nil => exact absurd ((h x).1 List.mem_cons_self) (by simp)
    | cons y b =>
      have ha' := List.pairwise_cons.1 ha
      have hb' := List.pairwise_cons.1 hb
      have e : x = y := by
        rcases List.mem_cons.1 ((h x).1 List.mem_cons_self) with h1 | h1
        · exact h1
        · rcases List.mem_cons.1 ((h y).2 List.mem_cons_self) with h2 | h2
          · exact h2.symm
          · have := ha'.1 y h2; have := hb'.1 x h1; omega
      subst e
      congr 1
      refine ih ha'.2 hb'.2 fun z => ?_
      constructor
      · intro hz
        have hne := ha'.1 z hz
        rcases List.mem_cons.1 ((h z).1 (List.mem_cons_of_mem _ hz)) with h1 | h1
        · omega
        · exact h1
      · intro hz
        have hne := hb'.1 z hz
        rcases List.mem_cons.1 ((h z).2 (List.mem_cons_of_mem _ hz)) with h1 | h1
        · omega
        · exact h1
/-- one number more put among those sorted -/
theorem put_sortUp {q : List Int} {x : Int} (h : (q ++ [x]).Nodup) : putI (sortUp q) x = sortUp (q ++ [x]) := by
  have hq : q.Nodup := h.sublist (List.sublist_append_left _ _)
  have hx : x ∉ q := fun hm => by
    have := (List.nodup_append.1 h).2.2
    exact absurd rfl (this x hm x (by simp))
  refine up_eq (putI_up (sortUp_up hq) fun hm => hx ((sortUp_perm q).mem_iff.1 hm)) (sortUp_up h) fun y => ?_
  rw [putI_mem, (sortUp_perm q).mem_iff, (sortUp_perm (q ++ [x])).mem_iff, List.mem_append, List.mem_singleton]
  exact Or.comm
/-! ## Compact -/
theorem compactUpTo_le (d : Array Int) (m : Nat) : (compactUpTo d m).length ≤ m := by
  unfold compactUpTo
  rw [List.length_map]
  exact Nat.le_trans (List.length_filter_le _ _) (by simp)
theorem compactUpTo_lt (d : Array Int) {j : Nat} : ∀ {m : Nat}, j < m → keeps d j = false → (compactUpTo d m).length < m := by
  intro m
  induction m with
  | zero => intro h; omega
  | succ m ih =>
    intro hj hk
    rw [compactUpTo_succ, List.length_append]
    by_cases e : j = m
    · subst e
      have := compactUpTo_le d j
      rw [hk]
      simp
      omega
    · have := ih (by omega) hk
      split
      · simp only [List.length_singleton]; omega
      · simp only [List.length_nil]; omega
theorem bang_at {zs : List Int} {j : Nat} (hj : j < zs.length) : zs.toArray[j]! = zs[j] := by
  simp [hj]
theorem compact_len {zs : List Int} (hs : zs.Pairwise (· ≤ ·)) : decide ((compact zs).length = zs.length) = decide zs.Nodup := by
  by_cases h : ∀ j, j < zs.length → keeps zs.toArray j = true
  · have e : compact zs = zs := compact_all zs h
    have hn : zs.Nodup := by
      unfold List.Nodup
      rw [List.pairwise_iff_getElem]
      intro i j hi hj hij
      have hk := h j hj
      unfold keeps at hk
      have hk2 := of_decide_eq_true hk
      rw [bang_at hj, bang_at (show j - 1 < zs.length by omega)] at hk2
      have h1 : zs[i] ≤ zs[j - 1] := by
        by_cases e2 : i = j - 1
        · subst e2; exact Int.le_refl _
        · exact List.pairwise_iff_getElem.1 hs i (j - 1) hi (by omega) (by omega)
      have h2 := List.pairwise_iff_getElem.1 hs (j - 1) j (by omega) hj (by omega)
      rcases hk2 with h3 | h3
      · omega
      · omega
    rw [e, decide_eq_true rfl, decide_eq_true hn]
  · have h' : ∃ j, j < zs.length ∧ keeps zs.toArray j = false := by
      refine Classical.byContradiction fun hc => h fun j hj => ?_
      cases hk : keeps zs.toArray j with
      | true => rfl
      | false => exact absurd ⟨j, hj, hk⟩ hc
    obtain ⟨j, hj, hk⟩ := h'
    have h1 : (compact zs).length < zs.length := compactUpTo_lt _ hj hk
    have hn : ¬ zs.Nodup := by
      intro hn
      unfold keeps at hk
      have hk2 := of_decide_eq_false hk
      rw [bang_at hj, bang_at (show j - 1 < zs.length by omega)] at hk2
      have h3 : j ≠ 0 := fun e => hk2 (.inl e)
      have h4 : zs[j] = zs[j - 1] := Classical.byContradiction fun e => hk2 (.inr e)
      have := List.pairwise_iff_getElem.1 hn (j - 1) j (by omega) hj (by omega)
      exact this h4.symm
    rw [decide_eq_false (by omega), decide_eq_false hn]
/-! ## What is answered -/
def goodC (p : Int) (l : PL) : Bool := isP p l && decide (2 ≤ p) && decide (p % 2 = 0)
def apartC (l : PL) : Bool := l.all fun q => decide (q.1 / 2 ≠ q.2 / 2)
def toldC (p : Int) (l : PL) : List Int := (numsOf p.toNat l).drop 1
def areC (p : Int) (l : PL) : Bool := apartC l && decide (toldC p l).Nodup
def resAreCouples (p : Int) (l : PL) : Bool × Bool := if goodC p l then (areC p l, true) else (false, false)
def resToldNumbers (p : Int) (l : PL) : List Int × Bool := if goodC p l && areC p l then (sortUp (toldC p l), true) else ([], false)
def resSpouseNumber (p : Int) (l : PL) : Int × Bool := if goodC p l && areC p l then ((numsOf p.toNat l).getD 1 0, true) else (0, false)
theorem toldC_length {p : Int} (l : PL) (h : 2 ≤ p) : ((toldC p l).length : Int) = p - 1 := by
  unfold toldC
  rw [List.length_drop, numsOf_length]
  omega
theorem goodC_parts {p : Int} {l : PL} (h : goodC p l = true) : isP p l = true ∧ 2 ≤ p ∧ p % 2 = 0 := by
  simp only [goodC, Bool.and_eq_true, decide_eq_true_eq] at h
  exact ⟨h.1.1, h.1.2, h.2⟩
theorem resToldNumbers_len (p : Int) (l : PL) : (resToldNumbers p l).1.length ≤ 1048576 := by
  unfold resToldNumbers
  split
  · rename_i h
    rw [Bool.and_eq_true] at h
    obtain ⟨h1, h2, _⟩ := goodC_parts h.1
    have := isP_range h1
    have := toldC_length l h2
    show (sortUp _).length ≤ _
    rw [sortUp_length]
    omega
  · simp
/-- the first of the numbers told that stands before it, too -/
theorem nodup_no {q : List Int} {i : Nat} {x : Int} (hx : q[i]? = some x) (h : x ∈ q.take i) : ¬ q.Nodup := by
  intro hn
  obtain ⟨j, hj, e⟩ := List.getElem_of_mem h
  rw [List.length_take] at hj
  rw [List.getElem_take] at e
  obtain ⟨hi, e2⟩ := List.getElem?_eq_some_iff.1 hx
  exact List.pairwise_iff_getElem.1 hn j i (by omega) hi (by omega) (e.trans e2.symm)
theorem nodup_of {q : List Int} (h : ∀ i x, q[i]? = some x → x ∉ q.take i) : q.Nodup := by
  unfold List.Nodup
  rw [List.pairwise_iff_getElem]
  intro i j hi hj hij e
  refine h j q[j] (List.getElem?_eq_getElem hj) ?_
  rw [← e]
  exact List.mem_take_iff_getElem.2 ⟨i, by omega, rfl⟩
end Go.Proofs.Ytgkedgfbncljbaa
/-
  DERIVED: THE SHELF's CONTRACTS AT THIS DUMP, IN PLAIN WORDS (tools/lay-plain.mjs out of 'YtgkedgfbncljbaaShelfHome.lean', which tools/lay-shelf.mjs wrote): THE SAME DECLARATIONS UNDER THE SAME NAMES: 'import', 'namespace', 'open', 'def', 'theorem' AND NOTHING ELSE: no command of the shelf's: FOR A HAND-IN. Each laying: the table of numbers ('.._ren') and one theorem, a field a fact of the dump's own or the kernel's comparison; each contract: ONE APPLICATION.
-/
namespace Go.Proofs
open Go.Shelf
def Try.bitsLen_ren : Go.Shelf.Ren := ⟨fun | 125 => 99 | 128 => 115 | 129 => 116 | n => n, fun | 46 => 105 | 3 => 3 | 51 => 122 | 53 => 124 | 4 => 4 | 5 => 5 | 9 => 9 | n => n, fun | n => n⟩
theorem Try.bitsLen : Go.Proofs.Lays.n125 Try.prog Try.bitsLen_ren := {
  mixed := by kernel_rfl
  f125 := Try.func99.trans (congrArg some (by kernel_rfl))
  f128 := Try.func115.trans (congrArg some (by kernel_rfl))
  f129 := Try.func116.trans (congrArg some (by kernel_rfl))
  t3 := Try.underlying3
  a3 := Try.isAgg3
  z3 := Try.sizeOf3
  v3 := Try.zeroValue3
  t4 := Try.underlying4
  a4 := Try.isAgg4
  z4 := Try.sizeOf4
  v4 := Try.zeroValue4
  t5 := Try.underlying5
  a5 := Try.isAgg5
  z5 := Try.sizeOf5
  v5 := Try.zeroValue5
  t9 := Try.underlying9
  a9 := Try.isAgg9
  z9 := Try.sizeOf9
  v9 := Try.zeroValue9
  t46 := Try.underlying105
  a46 := Try.isAgg105
  z46 := Try.sizeOf105
  v46 := Try.zeroValue105
  t51 := Try.underlying122
  a51 := Try.isAgg122
  z51 := Try.sizeOf122
  v51 := Try.zeroValue122
  t53 := Try.underlying124
  a53 := Try.isAgg124
  z53 := Try.sizeOf124
  v53 := Try.zeroValue124 }
def Try.sortUpI_ren : Go.Shelf.Ren := ⟨fun | 53 => 103 | 64 => 99 | 63 => 121 | 78 => 115 | 79 => 116 | 70 => 127 | 71 => 128 | 72 => 129 | 73 => 130 | 74 => 131 | 75 => 132 | 59 => 133 | 76 => 134 | 77 => 135 | 88 => 137 | 89 => 138 | 90 => 139 | 91 => 140 | 92 => 141 | 68 => 126 | 96 => 142 | n => n, fun | 22 => 38 | 23 => 3 | 3 => 3 | 51 => 105 | 0 => 0 | 67 => 122 | 69 => 124 | 4 => 4 | 61 => 137 | 60 => 136 | 44 => 43 | 5 => 5 | 9 => 9 | 75 => 142 | 79 => 146 | 83 => 148 | 84 => 149 | n => n, fun | n => n⟩
theorem Try.sortUpI : Go.Proofs.SlLaysN.n53 Try.prog Try.sortUpI_ren := {
  mixed := by kernel_rfl
  f53 := ⟨Try.f103.name, by decide, Try.func103.trans (congrArg some (by kernel_rfl))⟩
  f59 := ⟨Try.f133.name, by decide, Try.func133.trans (congrArg some (by kernel_rfl))⟩
  f63 := ⟨Try.f121.name, by decide, Try.func121.trans (congrArg some (by kernel_rfl))⟩
  f64 := Try.func99.trans (congrArg some (by kernel_rfl))
  f68 := ⟨Try.f126.name, by decide, Try.func126.trans (congrArg some (by kernel_rfl))⟩
  f70 := ⟨Try.f127.name, by decide, Try.func127.trans (congrArg some (by kernel_rfl))⟩
  f71 := ⟨Try.f128.name, by decide, Try.func128.trans (congrArg some (by kernel_rfl))⟩
  f72 := ⟨Try.f129.name, by decide, Try.func129.trans (congrArg some (by kernel_rfl))⟩
  f73 := ⟨Try.f130.name, by decide, Try.func130.trans (congrArg some (by kernel_rfl))⟩
  f74 := ⟨Try.f131.name, by decide, Try.func131.trans (congrArg some (by kernel_rfl))⟩
  f75 := ⟨Try.f132.name, by decide, Try.func132.trans (congrArg some (by kernel_rfl))⟩
  f76 := ⟨Try.f134.name, by decide, Try.func134.trans (congrArg some (by kernel_rfl))⟩
  f77 := ⟨Try.f135.name, by decide, Try.func135.trans (congrArg some (by kernel_rfl))⟩
  f78 := Try.func115.trans (congrArg some (by kernel_rfl))
  f79 := Try.func116.trans (congrArg some (by kernel_rfl))
  f88 := ⟨Try.f137.name, by decide, Try.func137.trans (congrArg some (by kernel_rfl))⟩
  f89 := Try.func138.trans (congrArg some (by kernel_rfl))
  f90 := Try.func139.trans (congrArg some (by kernel_rfl))
  f91 := ⟨Try.f140.name, by decide, Try.func140.trans (congrArg some (by kernel_rfl))⟩
  f92 := ⟨Try.f141.name, by decide, Try.func141.trans (congrArg some (by kernel_rfl))⟩
  f96 := ⟨Try.f142.name, by decide, Try.func142.trans (congrArg some (by kernel_rfl))⟩
  t0 := Try.underlying0
  a0 := Try.isAgg0
  z0 := Try.sizeOf0
  v0 := Try.zeroValue0
  t3 := Try.underlying3
  a3 := Try.isAgg3
  z3 := Try.sizeOf3
  v3 := Try.zeroValue3
  t4 := Try.underlying4
  a4 := Try.isAgg4
  z4 := Try.sizeOf4
  v4 := Try.zeroValue4
  t5 := Try.underlying5
  a5 := Try.isAgg5
  z5 := Try.sizeOf5
  v5 := Try.zeroValue5
  t9 := Try.underlying9
  a9 := Try.isAgg9
  z9 := Try.sizeOf9
  v9 := Try.zeroValue9
  t22 := Try.underlying38
  a22 := Try.isAgg38
  z22 := Try.sizeOf38
  v22 := Try.zeroValue38
  t23 := Try.underlying3
  a23 := Try.isAgg3
  z23 := Try.sizeOf3
  v23 := Try.zeroValue3
  t44 := Try.underlying43
  a44 := Try.isAgg43
  z44 := Try.sizeOf43
  v44 := Try.zeroValue43
  t51 := Try.underlying105
  a51 := Try.isAgg105
  z51 := Try.sizeOf105
  v51 := Try.zeroValue105
  t60 := Try.underlying136
  a60 := Try.isAgg136
  z60 := Try.sizeOf136
  v60 := Try.zeroValue136
  t61 := Try.underlying137
  a61 := Try.isAgg137
  z61 := Try.sizeOf137
  v61 := Try.zeroValue137
  t67 := Try.underlying122
  a67 := Try.isAgg122
  z67 := Try.sizeOf122
  v67 := Try.zeroValue122
  t69 := Try.underlying124
  a69 := Try.isAgg124
  z69 := Try.sizeOf124
  v69 := Try.zeroValue124
  t75 := Try.underlying142
  a75 := Try.isAgg142
  z75 := Try.sizeOf142
  v75 := Try.zeroValue142
  t79 := Try.underlying146
  a79 := Try.isAgg146
  z79 := Try.sizeOf146
  v79 := Try.zeroValue146
  t83 := Try.underlying148
  a83 := Try.isAgg148
  z83 := Try.sizeOf148
  v83 := Try.zeroValue148
  t84 := Try.underlying149
  a84 := Try.isAgg149
  z84 := Try.sizeOf149
  v84 := Try.zeroValue149 }
def Try.compactI_ren : Go.Shelf.Ren := ⟨fun | 43 => 77 | n => n, fun | 22 => 38 | 23 => 3 | 3 => 3 | 4 => 4 | 0 => 0 | n => n, fun | n => n⟩
theorem Try.compactI : Go.Proofs.SlLaysN.n43 Try.prog Try.compactI_ren := {
  mixed := by kernel_rfl
  f43 := ⟨Try.f77.name, by decide, Try.func77.trans (congrArg some (by kernel_rfl))⟩
  t0 := Try.underlying0
  a0 := Try.isAgg0
  z0 := Try.sizeOf0
  v0 := Try.zeroValue0
  t3 := Try.underlying3
  a3 := Try.isAgg3
  z3 := Try.sizeOf3
  v3 := Try.zeroValue3
  t4 := Try.underlying4
  a4 := Try.isAgg4
  z4 := Try.sizeOf4
  v4 := Try.zeroValue4
  t22 := Try.underlying38
  a22 := Try.isAgg38
  z22 := Try.sizeOf38
  v22 := Try.zeroValue38
  t23 := Try.underlying3
  a23 := Try.isAgg3
  z23 := Try.sizeOf3
  v23 := Try.zeroValue3
  i23 := by kernel_rfl }
def Try.indexI_ren : Go.Shelf.Ren := ⟨fun | 29 => 105 | n => n, fun | 22 => 38 | 23 => 3 | 3 => 3 | 0 => 0 | 4 => 4 | n => n, fun | n => n⟩
theorem Try.indexI : Go.Proofs.SlLaysN.n29 Try.prog Try.indexI_ren := {
  mixed := by kernel_rfl
  f29 := ⟨Try.f105.name, by decide, Try.func105.trans (congrArg some (by kernel_rfl))⟩
  t0 := Try.underlying0
  a0 := Try.isAgg0
  z0 := Try.sizeOf0
  v0 := Try.zeroValue0
  t3 := Try.underlying3
  a3 := Try.isAgg3
  z3 := Try.sizeOf3
  v3 := Try.zeroValue3
  t4 := Try.underlying4
  a4 := Try.isAgg4
  z4 := Try.sizeOf4
  v4 := Try.zeroValue4
  t22 := Try.underlying38
  a22 := Try.isAgg38
  z22 := Try.sizeOf38
  v22 := Try.zeroValue38
  t23 := Try.underlying3
  a23 := Try.isAgg3
  z23 := Try.sizeOf3
  v23 := Try.zeroValue3 }
def Try.containsI_ren : Go.Shelf.Ren := ⟨fun | 31 => 86 | 29 => 105 | n => n, fun | 22 => 38 | 23 => 3 | 4 => 4 | 3 => 3 | 0 => 0 | n => n, fun | n => n⟩
theorem Try.containsI : Go.Proofs.SlLaysN.n31 Try.prog Try.containsI_ren := {
  mixed := by kernel_rfl
  f29 := ⟨Try.f105.name, by decide, Try.func105.trans (congrArg some (by kernel_rfl))⟩
  f31 := ⟨Try.f86.name, by decide, Try.func86.trans (congrArg some (by kernel_rfl))⟩
  t0 := Try.underlying0
  a0 := Try.isAgg0
  z0 := Try.sizeOf0
  v0 := Try.zeroValue0
  t3 := Try.underlying3
  a3 := Try.isAgg3
  z3 := Try.sizeOf3
  v3 := Try.zeroValue3
  t4 := Try.underlying4
  a4 := Try.isAgg4
  z4 := Try.sizeOf4
  v4 := Try.zeroValue4
  t22 := Try.underlying38
  a22 := Try.isAgg38
  z22 := Try.sizeOf38
  v22 := Try.zeroValue38
  t23 := Try.underlying3
  a23 := Try.isAgg3
  z23 := Try.sizeOf3
  v23 := Try.zeroValue3 }
def Try.growP_ren : Go.Shelf.Ren := ⟨fun | 4 => 114 | n => n, fun | 22 => 22 | 25 => 71 | 3 => 3 | 4 => 4 | 9 => 9 | 20 => 20 | 0 => 0 | 2 => 3 | n => n, fun | n => n⟩
theorem Try.growP : Go.Proofs.Lays8.n4 Try.prog Try.growP_ren := {
  mixed := by kernel_rfl
  f4 := ⟨Try.f114.name, by decide, Try.func114.trans (congrArg some (by kernel_rfl))⟩
  t0 := Try.underlying0
  a0 := Try.isAgg0
  z0 := Try.sizeOf0
  v0 := Try.zeroValue0
  t3 := Try.underlying3
  a3 := Try.isAgg3
  z3 := Try.sizeOf3
  v3 := Try.zeroValue3
  t4 := Try.underlying4
  a4 := Try.isAgg4
  z4 := Try.sizeOf4
  v4 := Try.zeroValue4
  t9 := Try.underlying9
  a9 := Try.isAgg9
  z9 := Try.sizeOf9
  v9 := Try.zeroValue9
  t20 := Try.underlying20
  a20 := Try.isAgg20
  z20 := Try.sizeOf20
  v20 := Try.zeroValue20
  t22 := Try.underlying22
  a22 := Try.isAgg22
  z22 := Try.sizeOf22
  v22 := Try.zeroValue22 }
end Go.Proofs
/-
  NUMBERS TOLD: all of a list but its first, sorted in place; what slices.Compact says of them; 'toldNumbers', by their contracts.
-/
namespace Go.Proofs.Ytgkedgfbncljbaa
open Go.RowKit Go.Shelf Go.Lib Go.Sort

theorem below_row {enc : Int → Value} {B : Nat} {w0 w : World} {g off q : Nat} {d : Array Int} (h : Below B w0 w) (hg : B ≤ g) : Below B w0 (putRow enc (Sort.ahead w q) g off d) :=
  ⟨h.os, h.tape, h.output, by simpa [putRow, mapBlock, Sort.ahead] using h.size, fun k hk => by
    rw [← h.block k hk]
    simp [putRow, mapBlock, Sort.ahead, Array.getElem?_modify, show g ≠ k by omega]⟩
theorem below_more {B : Nat} {a w : World} (h : Below B a w) (hB : B ≤ w.heap.size) (os : Array Obj) : Below B a (grow w os) :=
  ⟨h.os, h.tape, h.output, by simp only [grow, Array.size_append]; have := h.size; omega, fun k hk => by
    rw [← h.block k hk]
    simp only [grow]
    rw [Array.getElem?_append_left (by omega)]⟩
theorem own_more {w : World} {base : Nat} {e : TypeId} {size n : Nat} {v : Value} {xs : List Value} (h : w.ownsRow base e size v n xs) (os : Array Obj) : (grow w os).ownsRow base e size v n xs :=
  own_below h (below_more (Below.refl w.heap.size w) (Nat.le_refl _) os) (Nat.le_refl _)
/-- a row laid behind its first cell is the whole row laid -/
theorem putRow_tail {w : World} {g q : Nat} {x0 : Int} {ys : List Int} (h : w.cell? ⟨g, 0, none⟩ = some (.int .i64 x0)) :
    putRow (Value.int .i64) (Sort.ahead w q) g 1 ys.toArray = putRow (Value.int .i64) (Sort.ahead w q) g 0 (x0 :: ys).toArray := by
  unfold putRow mapBlock
  congr 1
  apply Array.ext_getElem?
  intro i
  rw [Array.getElem?_modify, Array.getElem?_modify]
  by_cases hi : g = i
  · subst hi
    rw [if_pos rfl, if_pos rfl]
    cases hh : (Sort.ahead w q).heap[g]? with
    | none => rfl
    | some o =>
      cases o with
      | cells cur e fz =>
        have hh' : w.heap[g]? = some (.cells cur e fz) := hh
        have h0 : cur[0]? = some (.int .i64 x0) := by
          simp only [World.cell?, hh'] at h
          simpa using h
        simp only [Option.map_some, onCells]
        congr 2
        unfold putCells
        apply Array.ext_getElem?
        intro j
        rw [Array.getElem?_mapIdx, Array.getElem?_mapIdx]
        cases hj : cur[j]? with
        | none => rfl
        | some v =>
          simp only [Option.map_some]
          congr 1
          by_cases j0 : j = 0
          · subst j0
            rw [h0] at hj
            rw [if_neg (by omega), if_pos (by simp)]
            simpa using hj.symm
          · obtain ⟨k, rfl⟩ : ∃ k, j = k + 1 := ⟨j - 1, by omega⟩
            by_cases hk : k < ys.length
            · rw [if_pos (by simp; omega), if_pos (by simp; omega)]
              simp [hk]
            · rw [if_neg (by simp; omega), if_neg (by simp; omega)]
      | _ => rfl
  · rw [if_neg hi, if_neg hi]
/-- the numbers behind the first of a row of one's own lie there to be sorted -/
theorem holds_tail {w : World} {base g c : Nat} {x0 : Int} {zs : List Int} (h : w.ownsRow base 3 1 (.slice (some ⟨g, 0, none⟩) (zs.length + 1) c) (zs.length + 1) (icells (x0 :: zs))) : Holds (Value.int .i64) w g 1 zs.toArray := by
  obtain ⟨g', cap, hv, _, _, _, _, _, hH⟩ := holds_of_ownsRow (enc := Value.int .i64) (zs := x0 :: zs) h (by simp)
  simp only [Value.slice.injEq, Option.some.injEq, Addr.mk.injEq, and_true, true_and] at hv
  obtain ⟨rfl, rfl⟩ := hv
  intro j hj
  have h1 := hH (j + 1) (by simpa using hj)
  simp only [Nat.zero_add] at h1
  rw [Nat.add_comm 1 j]
  have e : (x0 :: zs).toArray[j + 1]! = zs.toArray[j]! := by
    have hj' : j < zs.length := by simpa using hj
    simp [hj']
  rw [e] at h1
  exact h1
set_option maxRecDepth 100000 in
theorem sortTail_any (x0 : Int) (q : List Int) (g c cc base : Nat) (w : World) (hl : q.length ≤ 1048576) (hown : w.ownsRow base 3 1 (.slice (some ⟨g, 0, none⟩) (q.length + 1) c) (q.length + 1) (icells (x0 :: q))) :
    Calls Try.prog 103 #[.slice (some ⟨g, 1, none⟩) q.length cc] w fun e w' => e = .returned (.tuple #[]) ∧
      w'.ownsRow base 3 1 (.slice (some ⟨g, 0, none⟩) (q.length + 1) c) (q.length + 1) (icells (x0 :: sortUp q)) ∧ (∀ B, B ≤ base → B ≤ w.heap.size → Below B w w') ∧ w.heap.size ≤ w'.heap.size := by
  have hlt := own_lt hown
  have hbg : base ≤ g := (hown.lt g (by simp [Value.ownBlock])).1
  have h0 : w.cell? ⟨g, 0, none⟩ = some (.int .i64 x0) := own_intAt hown (k := 0) rfl
  have h := AnyG.slices_Sort_int Try.sortUpI g 1 cc q w (holds_tail hown) hlt.2 (by omega)
  change Calls Try.prog 103 _ _ _ at h
  refine h.mono ?_
  rintro e w' ⟨rfl, n, os, rfl⟩
  change _ ∧ (grow (putRow (Value.int .i64) (Sort.ahead w n) g 1 (sortUp q).toArray) os).ownsRow _ _ _ _ _ _ ∧ _
  rw [putRow_tail h0]
  have ho := ownsRow_putRow (enc := Value.int .i64) (zs := x0 :: q) (ys := x0 :: sortUp q) (q := n) (k := q.length + 1) hown (by simp [sortUp_length]) (Nat.le_refl _)
  rw [List.take_of_length_le (by simp [sortUp_length])] at ho
  have hs : (putRow (Value.int .i64) (Sort.ahead w n) g 0 (x0 :: sortUp q).toArray).heap.size = w.heap.size := by simp [putRow, mapBlock, Sort.ahead]
  refine ⟨rfl, own_more ho os, fun B hB hB2 => ?_, ?_⟩
  · change Below B w (grow (putRow (Value.int .i64) (Sort.ahead w n) g 1 (sortUp q).toArray) os)
    rw [putRow_tail h0]
    exact below_more (below_row (Below.refl B w) (by omega)) (by rw [hs]; exact hB2) os
  · change w.heap.size ≤ (grow (putRow (Value.int .i64) (Sort.ahead w n) g 1 (sortUp q).toArray) os).heap.size
    rw [putRow_tail h0]
    simp only [grow, Array.size_append, hs]
    omega
set_option maxRecDepth 100000 in
theorem compactTail_any (x0 : Int) (q : List Int) (g c cc base : Nat) (w : World) (hl : q.length ≤ 1048576) (hcc : q.length ≤ cc) (hown : w.ownsRow base 3 1 (.slice (some ⟨g, 0, none⟩) (q.length + 1) c) (q.length + 1) (icells (x0 :: q))) :
    Calls Try.prog 77 #[.slice (some ⟨g, 1, none⟩) q.length cc] w fun e w' => e = .returned (.slice (some ⟨g, 1, none⟩) (compact q).length cc) ∧ (∀ B, B ≤ base → Below B w w') ∧ w.heap.size ≤ w'.heap.size := by
  have hbg : base ≤ g := (hown.lt g (by simp [Value.ownBlock])).1
  have h := AnyG.slices_Compact_int Try.compactI g 1 cc q w (holds_tail hown) (by omega) hcc
  change Calls Try.prog 77 _ _ _ at h
  refine h.mono ?_
  rintro e w' ⟨rfl, n, rfl⟩
  refine ⟨rfl, fun B hB => below_row (Below.refl B w) (by omega), ?_⟩
  simp [putRow, mapBlock, Sort.ahead]
/-- what lies behind 'toldNumbers': the numbers told, sorted, all of a row of its own but the first -/
structure Told (w w' : World) (q : List Int) (g cc : Nat) (x0 : Int) : Prop where
  cap : q.length ≤ cc
  own : w'.ownsRow w.heap.size 3 1 (.slice (some ⟨g, 0, none⟩) (q.length + 1) (cc + 1)) (q.length + 1) (icells (x0 :: q))
  below : Below w.heap.size w w'
set_option maxHeartbeats 2000000 in
set_option maxRecDepth 100000 in
theorem toldNumbers_any (p : Int) (l : PL) (A : Option Addr) (c : Nat) (w : World) (hp : isP p l = true) (h2 : 2 ≤ p) (hl : l.length ≤ 1048576) (hA : CRead w w.heap.size A (pcells l)) :
    Calls Try.prog 78 #[.agg #[.int .i64 p, .slice A l.length c]] w fun e w' => ∃ g cc x0, e = .returned (.slice (some ⟨g, 1, none⟩) (sortUp (toldC p l)).length cc) ∧ Told w w' (sortUp (toldC p l)) g cc x0 := by
  have hn := isP_range hp
  have hr : resNumbersOfFriends p l = (numsOf p.toNat l, true) := by simp [resNumbersOfFriends, hp]
  have htl := toldC_length l h2
  obtain ⟨x0, hx0⟩ : ∃ x0, numsOf p.toNat l = x0 :: toldC p l := by
    unfold toldC
    have := numsOf_length p.toNat l
    cases hh : numsOf p.toNat l with
    | nil => rw [hh] at this; simp at this; omega
    | cons x t => exact ⟨x, rfl⟩
  rw [hx0] at hr
  rw [sortUp_length]
  obtain ⟨q, hq⟩ : ∃ q, toldC p l = q := ⟨_, rfl⟩
  rw [hq] at hr htl ⊢
  have Hr := Lib.hid hr
  clear hr hx0 hq hp
  go_enter Try.func78, Try.ntmps78
  go_wp2_with fail
  refine (implNumbersOfFriends_any p l A c _ hl ((hA.below (B' := w.heap.size) (by go_grown) (Nat.le_refl _)).more (by go_size))).mono ?_
  rw [Hr.out]
  rintro e w1 ⟨A1, c1, rfl, own1, hb1⟩
  simp only [World.size_alloc] at own1 hb1
  obtain ⟨g, rfl⟩ := own_form own1 (by simp)
  have hcap := own_cap own1
  simp only [List.length_cons] at own1 hcap
  obtain ⟨cc, rfl⟩ : ∃ cc, c1 = cc + 1 := ⟨c1 - 1, by omega⟩
  have k1 : Below w.heap.size w w1 := Below.trans (b := _) (by go_grown) (hb1.mono (by simp))
  have hq1 : q.length ≤ 1048576 := by omega
  have hcc : ¬ (cc = 0) := by omega
  have hcc2 : (1 : Int) ≤ (cc : Int) + 1 := by omega
  have K1 := Lib.hid k1
  have Own1 := Lib.hid own1
  have Hcap := Lib.hid hcap
  clear own1 hb1 k1 hcap htl
  simp only [List.length_cons]
  go_wp2_with fail
  refine (sortTail_any x0 q g (cc + 1) cc _ _ hq1 Own1.out).mono ?_
  rintro e w2 ⟨rfl, own2, hb2, hs2⟩
  have k2 := K1.out.trans (hb2 w.heap.size (by simp) K1.out.size)
  have Own2 := Lib.hid own2
  clear own2 hb2
  go_wp2
  go_ret
  have e1 := sortUp_length q
  refine ⟨g, cc, x0, rfl, ⟨by rw [e1]; have := Hcap.out; omega, ?_, k2⟩⟩
  rw [e1]
  exact own_lower Own2.out (by simp)
end Go.Proofs.Ytgkedgfbncljbaa
/-
  LISTS OF PAIRS AS RESULTS, AND COPIES OF THEM.
-/
namespace Go.Proofs.Ytgkedgfbncljbaa
open Go.RowKit

/-- A call came back with a list of pairs of its own and a bool. -/
def GotPairsOk (w : World) (l : PL) (ok : Bool) (e : Ending) (w' : World) : Prop :=
  ∃ A c, e = .returned (.tuple #[.slice A l.length c, .bool ok]) ∧ w'.ownsRow w.heap.size 71 2 (.slice A l.length c) l.length (pcells l) ∧ Below w.heap.size w w'
theorem toPairS_got (l : PL) (A : Option Addr) (c : Nat) (w : World) (hl : l.length ≤ 1048576) (hA : CRead w w.heap.size A (pcells l)) :
    Calls Try.prog 49 #[.slice A l.length c] w fun e w' => ∃ A' c', e = .returned (.slice A' l.length c') ∧ w'.ownsRow w.heap.size 71 2 (.slice A' l.length c') l.length (pcells l) ∧ Below w.heap.size w w' :=
  (toPairS_any l A c w hl hA).mono fun _ _ h => ⟨_, _, h⟩
end Go.Proofs.Ytgkedgfbncljbaa
/-
  A COUPLE AMONG PAIRS: 'slices.ContainsFunc' with the program's closure, by its contract.
-/
namespace Go.Proofs.Ytgkedgfbncljbaa
open Go.RowKit

def coupleB (x : Int × Int) : Bool := decide (x.1 % 2 = 0) && decide (x.2 = x.1 + 1)
theorem any_no {l : PL} {f : Int × Int → Bool} (h : ∀ (j : Nat) (x : Int × Int), j < l.length → l[j]? = some x → f x = false) : l.any f = false := by
  rw [List.any_eq_false]
  intro x hx
  obtain ⟨j, hj, e⟩ := List.getElem_of_mem hx
  rw [h j x hj (by rw [List.getElem?_eq_getElem hj, e])]
  simp
set_option maxHeartbeats 1000000 in
theorem couple_any (x : Nat) (y : Int) (hx : x ≤ 12) (hy : y ≤ 12) (w : World) : Calls Try.prog 75 #[.agg #[.int .i64 x, .int .i64 y]] w fun e w' => e = .returned (.bool (coupleB ((x : Int), y))) ∧ Below w.heap.size w w' := by
  have hm : Int.tmod (x : Int) 2 = (x : Int) % 2 := Int.tmod_eq_emod_of_nonneg (by omega)
  by_cases h : (x : Int) % 2 = 0
  · rw [h] at hm
    by_cases h2 : y = (x : Int) + 1
    · have e : coupleB ((x : Int), y) = true := by simp [coupleB, h, h2]
      rw [e]
      subst h2
      clear e h
      go_enter Try.func75, Try.ntmps75
      go_wp2
      go_ret
      exact ⟨rfl, by go_grown⟩
    · have e : coupleB ((x : Int), y) = false := by simp [coupleB, h2]
      rw [e]
      have hb : (y == (x : Int) + 1) = false := by simp only [beq_eq_false_iff_ne, ne_eq]; exact h2
      clear e h h2
      go_enter Try.func75, Try.ntmps75
      go_wp2
      go_ret
      exact ⟨rfl, by go_grown⟩
  · have hm1 : Int.tmod (x : Int) 2 = 1 := by rw [hm]; omega
    have e : coupleB ((x : Int), y) = false := by simp [coupleB, h]
    rw [e]
    clear e h hm
    go_enter Try.func75, Try.ntmps75
    go_wp2
    go_ret
    exact ⟨rfl, by go_grown⟩
set_option maxHeartbeats 4000000 in
set_option maxRecDepth 100000 in
theorem indexCouple_any (l : PL) (A : Option Addr) (c : Nat) (w : World) (hl : l.length ≤ 1048576) (hin : ∀ m ∈ l, (0 ≤ m.1 ∧ m.1 ≤ 12) ∧ m.2 ≤ 12) (hA : CRead w w.heap.size A (pcells l)) :
    Calls Try.prog 102 #[.slice A l.length c, .func (.func 75) #[] #[]] w fun e w' => ∃ i : Int, e = .returned (.int .i64 i) ∧ decide (0 ≤ i) = l.any (coupleB) ∧ Below w.heap.size w w' := by
  have Hin := Lib.hid hin
  clear hin
  go_enter Try.func102, Try.ntmps102
  go_wp2
  go_loopw [8] (fun i wr => ∃ k : Nat, k ≤ l.length ∧ i = .int .i64 k ∧ Below w.heap.size w wr ∧ ∀ (j : Nat) (x : Int × Int), j < k → l[j]? = some x → (coupleB) x = false) (fun i _ => l.length - (intOf i).toNat)
  case atStart => exact ⟨0, Nat.zero_le _, rfl, Below.refl _ _, fun j x hj => by omega⟩
  case round =>
    obtain ⟨k, hk, rfl, hb, hall⟩ := hrel
    have Hall := Lib.hid hall
    clear hall
    have s0 := hb.size
    by_cases hlt : k < l.length
    · obtain ⟨⟨x, y⟩, hx⟩ := getSome l k hlt
      obtain ⟨bb, off, rfl, hbb, c0, c1⟩ := (hA.below hb (Nat.le_refl _)).pair hx
      obtain ⟨⟨hx0, hx1⟩, hy1⟩ := Hin.out _ (List.mem_of_getElem? hx)
      simp only at hx0 hx1 hy1
      obtain ⟨x, rfl⟩ : ∃ n : Nat, x = n := ⟨x.toNat, by omega⟩
      have call := couple_any x y (by omega) hy1 wr
      obtain ⟨r, hr⟩ : ∃ r, (coupleB) (x, y) = r := ⟨_, rfl⟩
      rw [hr] at call
      have hki : (k : Int) < (l.length : Int) := by omega
      have Hx := Lib.hid hx
      have Hr := Lib.hid hr
      have Call := Lib.hid call
      clear hx hr call
      go_wp2_with fail
      refine Call.out.mono ?_
      rintro e w2 ⟨rfl, hb2⟩
      have k2 := hb.trans (hb2.mono s0)
      cases r with
      | true =>
        have Hf := Lib.hid (show l.any (coupleB) = true from List.any_eq_true.2 ⟨_, List.mem_of_getElem? Hx.out, Hr.out⟩)
        go_wp2
        go_ret
        exact ⟨k, rfl, by rw [Hf.out]; exact decide_eq_true (by omega), k2⟩
      | false =>
        go_wp2
        go_roundw
        case rel => exact ⟨k + 1, by omega, by go_num, k2, fun j x hj hxj => by
                      by_cases hjk : j = k
                      · subst hjk
                        rw [Hx.out] at hxj
                        rw [← Option.some.inj hxj]
                        exact Hr.out
                      · exact Hall.out j x (by omega) hxj⟩
        case measure => simp [intOf]; omega
    · have hkl : k = l.length := by omega
      have hge : ¬ ((k : Int) < (l.length : Int)) := by omega
      have He := Lib.hid (show l.any (coupleB) = false from any_no fun j x hj hx => Hall.out j x (by omega) hx)
      go_wp2
      go_ret
      exact ⟨-1, rfl, by rw [He.out]; rfl, hb⟩
set_option maxHeartbeats 2000000 in
set_option maxRecDepth 100000 in
theorem containsCouple_any (l : PL) (A : Option Addr) (c : Nat) (w : World) (hl : l.length ≤ 1048576) (hin : ∀ m ∈ l, (0 ≤ m.1 ∧ m.1 ≤ 12) ∧ m.2 ≤ 12) (hA : CRead w w.heap.size A (pcells l)) :
    Calls Try.prog 76 #[.slice A l.length c, .func (.func 75) #[] #[]] w fun e w' => e = .returned (.bool (l.any (coupleB))) ∧ Below w.heap.size w w' := by
  have call := indexCouple_any l A c w hl hin hA
  have Call := Lib.hid call
  clear call
  go_enter Try.func76, Try.ntmps76
  go_wp2_with fail
  refine Call.out.mono ?_
  rintro e w2 ⟨i, rfl, hi, hb2⟩
  have Hi := Lib.hid hi
  clear hi
  go_wp2
  go_ret
  exact ⟨by rw [← Hi.out]; rfl, hb2⟩
end Go.Proofs.Ytgkedgfbncljbaa
/-
  WHETHER A NUMBER IS IN A LIST: the model's look; a list's front.
-/
namespace Go.Proofs.Ytgkedgfbncljbaa
open Go.RowKit

theorem icells_getD {l : List Int} {j : Nat} (h : j < l.length) : (icells l)[j]? = some (.int .i64 (l.getD j 0)) := by
  simp [icells, List.getD_eq_getElem?_getD, List.getElem?_eq_getElem h]
theorem CRead.ints {w : World} {B : Nat} {A : Option Addr} {q : List Int} (h : CRead w B A (icells q)) (hq : 0 < q.length) : ∃ b off, A = some ⟨b, off, none⟩ ∧ b < B ∧ ∀ j, j < q.length → w.cell? ⟨b, off + j, none⟩ = some (.int .i64 (q.getD j 0)) := by
  obtain ⟨b, off, rfl, hb, _⟩ := h 0 _ (icells_getD hq)
  refine ⟨b, off, rfl, hb, fun j hj => ?_⟩
  obtain ⟨b', off', e, _, hc⟩ := h j _ (icells_getD hj)
  simp only [Option.some.injEq, Addr.mk.injEq, and_true] at e
  obtain ⟨rfl, rfl⟩ := e
  exact hc

theorem CRead.front {w : World} {B : Nat} {A : Option Addr} {q : List Int} (h : CRead w B A (icells q)) (k : Nat) : CRead w B A (icells (q.take k)) := fun j u hu => by
  refine h j u ?_
  unfold icells at hu ⊢
  rw [List.map_take, List.getElem?_take] at hu
  split at hu
  · exact hu
  · cases hu


/-- whether a number is in a list -/
def hasI (q : List Int) (x : Int) : Bool := q.contains x
theorem hasI_mem {q : List Int} {x : Int} : hasI q x = true ↔ x ∈ q := List.contains_iff_mem
set_option maxHeartbeats 1000000 in
theorem l1Has_any (q : List Int) (x : Int) (A : Option Addr) (c : Nat) (w : World) (hl : q.length ≤ 1048576) (hA : CRead w w.heap.size A (icells q)) :
    Calls Try.prog 87 #[.slice A q.length c, .int .i64 x] w fun e w' => e = .returned (.bool (hasI q x)) ∧ w = w' := by
  go_enter Try.func87, Try.ntmps87
  go_wp2
  go_loop [9] (fun i => ∃ k : Nat, k ≤ q.length ∧ i = .int .i64 k ∧ ∀ (j : Nat) (y : Int), j < k → q[j]? = some y → y ≠ x) (fun i => q.length - (intOf i).toNat)
  case atStart => exact ⟨0, Nat.zero_le _, rfl, fun j x hj => by omega⟩
  case round =>
    obtain ⟨k, hk, rfl, hg⟩ := hrel
    have Hg := Lib.hid hg
    clear hg
    by_cases hlt : k < q.length
    · obtain ⟨y, hy⟩ := getSome q k hlt
      obtain ⟨b, off, rfl, hbb, c0⟩ := hA.int hy
      have hki : (k : Int) < (q.length : Int) := by omega
      have Hy := Lib.hid hy
      clear hy
      by_cases hyx : y = x
      · subst hyx
        have He := Lib.hid (show hasI q y = true from hasI_mem.2 (List.mem_of_getElem? Hy.out))
        go_wp2
        go_ret
        exact ⟨by rw [He.out]; rfl, rfl⟩
      · go_wp2
        go_round
        case rel =>
          refine ⟨k + 1, by omega, by go_num, fun j z hj hz => ?_⟩
          by_cases hjk : j = k
          · subst hjk
            rw [Hy.out] at hz
            simp only [Option.some.injEq] at hz
            subst hz
            exact hyx
          · exact Hg.out j z (by omega) hz
        case measure => simp [intOf]; omega
    · have hkl : k = q.length := by omega
      have e : hasI q x = false := by
        rw [Bool.eq_false_iff]
        intro hc
        rw [hasI_mem] at hc
        obtain ⟨i, hi, e⟩ := List.getElem_of_mem hc
        exact Hg.out i _ (by omega) (List.getElem?_eq_getElem hi) e
      have He := Lib.hid e
      clear e
      have hge : ¬ ((k : Int) < (q.length : Int)) := by omega
      go_wp2
      go_ret
      exact ⟨by rw [He.out]; rfl, rfl⟩
end Go.Proofs.Ytgkedgfbncljbaa
