/-
  Texts put together for the claim of 'StrongNumbers' (pack 5): Numbers, Poli, Only, Join, Join2, StrongP, StrongS, Nums.
-/
import Derived.Test.YthpapkfpcijpoaaStrongNumbersP1
import Derived.Test.YthpapkfpcijpoaaStrongNumbersP2
import Derived.Test.YthpapkfpcijpoaaStrongNumbersP3
import Derived.Test.YthpapkfpcijpoaaStrongNumbersP4
import Derived.Deep.RegionLaw
/-
  HOW MANY FRIENDS EACH PERSON HAS: the model's count and the program's, by their contracts.
-/
namespace Go.Proofs.Ythpapkfpcijpoaa
open Go.RowKit

def bump (acc : List Int) (a : Int) : List Int := acc.set a.toNat (acc.getD a.toNat 0 + 1)
def numsOf (n : Nat) (l : PL) : List Int := l.foldl (fun acc q => bump (bump acc q.1) q.2) (List.replicate n 0)
theorem bump_length (acc : List Int) (a : Int) : (bump acc a).length = acc.length := by simp [bump]
theorem bump_at {acc : List Int} {a : Nat} {u : Int} (h : acc[a]? = some u) : bump acc (a : Int) = acc.set a (u + 1) := by simp [bump, List.getD, h]
theorem numsOf_snoc (n : Nat) (l : PL) (q : Int × Int) : numsOf n (l ++ [q]) = bump (bump (numsOf n l) q.1) q.2 := by simp [numsOf, List.foldl_append]
theorem numsOf_length (n : Nat) (l : PL) : (numsOf n l).length = n := by
  unfold numsOf
  suffices h : ∀ (l : PL) (acc : List Int), acc.length = n → (l.foldl (fun acc q => bump (bump acc q.1) q.2) acc).length = n from h l _ (by simp)
  intro l
  induction l with
  | nil => intro acc h; exact h
  | cons q l ih => intro acc h; exact ih _ (by rw [bump_length, bump_length, h])
def Small (acc : List Int) (m : Nat) : Prop := ∀ (i : Nat) (x : Int), acc[i]? = some x → 0 ≤ x ∧ x ≤ m
theorem small_zero (n m : Nat) : Small (List.replicate n 0) m := by
  intro i x h
  rw [List.getElem?_replicate] at h
  split at h
  · simp at h; omega
  · cases h
theorem small_set {acc : List Int} {m a : Nat} {u : Int} (h : Small acc m) (ha : acc[a]? = some u) : Small (acc.set a (u + 1)) (m + 1) := by
  intro i x hx
  have hu := h a u ha
  rw [List.getElem?_set] at hx
  split at hx
  · split at hx
    · simp at hx; omega
    · cases hx
  · have := h i x hx; omega
def resNumbersOfFriends (p : Int) (l : PL) : List Int × Bool := if isP p l then (numsOf p.toNat l, true) else ([], false)
theorem resNumbersOfFriends_len (p : Int) (l : PL) : (resNumbersOfFriends p l).1.length ≤ 1048576 := by
  unfold resNumbersOfFriends
  split
  · rename_i h
    have := isP_range h
    rw [numsOf_length]
    omega
  · simp

/-- what one pair does to the row of numbers (the walk writes a store into an old block ahead of a new block) -/
theorem numbers_round {w : World} {B e g n cap a b : Nat} {acc : List Int} {u v : Int} (hown : w.ownsRow B e 1 (.slice (some ⟨g, 0, none⟩) n cap) n (icells acc)) (hu : acc[a]? = some u) (hv : acc[b]? = some v) (hab : a ≠ b) (o : Obj) :
    (w.alloc o).cell? ⟨g, a, none⟩ = some (.int .i64 u) ∧ (w.alloc o).frozen? ⟨g, a, none⟩ = false ∧
      ((w.setCell ⟨g, a, none⟩ (.int .i64 (u + 1))).alloc o).cell? ⟨g, b, none⟩ = some (.int .i64 v) ∧ ((w.setCell ⟨g, a, none⟩ (.int .i64 (u + 1))).alloc o).frozen? ⟨g, b, none⟩ = false ∧
      (((w.setCell ⟨g, a, none⟩ (.int .i64 (u + 1))).setCell ⟨g, b, none⟩ (.int .i64 (v + 1))).alloc o).ownsRow B e 1 (.slice (some ⟨g, 0, none⟩) n cap) n (icells (bump (bump acc a) b)) := by
  have h1 := hown.alloc o
  have h2 := own_setInt hown a (u + 1)
  have h2' := h2.alloc o
  have hv2 : (acc.set a (u + 1))[b]? = some v := by rw [List.getElem?_set_ne hab]; exact hv
  have h3 := own_setInt h2 b (v + 1)
  refine ⟨own_intAt h1 hu, h1.frozenAt _, own_intAt h2' hv2, h2'.frozenAt _, ?_⟩
  rw [bump_at hu, bump_at hv2]
  exact h3.alloc o

set_option maxHeartbeats 1000000 in
set_option maxRecDepth 100000 in
theorem paNumbers_any (p : Int) (l : PL) (A : Option Addr) (c : Nat) (w : World) (hp : isP p l = true) (hA : CRead w w.heap.size A (pcells l)) :
    Calls Try.prog 68 #[.agg #[.int .i64 p, .slice A l.length c]] w fun e w' => ∃ g, e = .returned (.slice (some ⟨g, 0, none⟩) p.toNat p.toNat) ∧ w'.ownsRow w.heap.size 3 1 (.slice (some ⟨g, 0, none⟩) p.toNat p.toNat) p.toNat (icells (numsOf p.toNat l)) ∧ Below w.heap.size w w' := by
  obtain ⟨i0, hi, hz0, hz1, hz2⟩ := info_parts Try.infoInt
  obtain ⟨n, rfl⟩ : ∃ n : Nat, p = n := ⟨p.toNat, by have := isP_range hp; omega⟩
  have hn := isP_range hp
  have hlen : l.length ≤ 66 := by have h1 := isP_length hp; have h2 := people_sq hn.1 hn.2; omega
  simp only [Int.toNat_natCast]
  have Hp := Lib.hid hp
  clear hp
  go_enter Try.func68, Try.ntmps68
  go_wp2_with (at_make; refine wpList_make_full _ rfl _ _ 45 rfl w.heap.size 3 i0 _ 1 Try.underlying45 hi hz0 hz1 _ _ _ _ n rfl rfl (by omega) (by omega) (by rw [hz2]; omega) (by unfold maxLen; omega) (by go_size) ?_; intro w1 hown1 hgr1; have hb1 : Below (w.heap.size + 1) (w.alloc (Obj.cells #[.int .i64 (n : Int), .slice A l.length c] 31)) w1 := below_of_gb hgr1 (by go_size); have q0 : w1.cell? ⟨w.heap.size, 0, none⟩ = some (.int .i64 n) := carry hb1 (by simp) (by omega); have q1 : w1.cell? ⟨w.heap.size, 1, none⟩ = some (.slice A l.length c) := carry hb1 (by simp) (by omega))
  rw [show Value.cells (.int .i64 0) = #[.int .i64 0] from rfl, made_ints] at hown1
  have hl1 := own_lt hown1
  have hs1 := hb1.size
  simp only [World.size_alloc] at hown1 hl1 hs1
  go_loopw [12] (fun i wr => ∃ k : Nat, k ≤ l.length ∧ i = .int .i64 k ∧ wr.ownsRow w.heap.size 3 1 (.slice (some ⟨w.heap.size + 1, 0, none⟩) n n) n (icells (numsOf n (l.take k))) ∧ Small (numsOf n (l.take k)) (2 * k) ∧ Below (w.heap.size + 1) (w.alloc (Obj.cells #[.int .i64 (n : Int), .slice A l.length c] 31)) wr) (fun i _ => l.length - (intOf i).toNat)
  case atStart => exact ⟨0, Nat.zero_le _, rfl, by simpa [numsOf] using hown1, by simpa [numsOf] using small_zero n _, hb1⟩
  case round =>
    obtain ⟨k, hk, rfl, hown, hsmall, hb⟩ := hrel
    have hs := hb.size
    simp only [World.size_alloc] at hs
    have hbw : Below w.heap.size w wr := Below.trans (b := _) (by go_grown) (hb.mono (by omega))
    have hlt0 := own_lt hown
    by_cases hlt : k < l.length
    · obtain ⟨⟨x, y⟩, hx⟩ := getSome l k hlt
      obtain ⟨h0, h1, h2⟩ := goodAt_pair (isP_good Hp.out hlt) hx
      obtain ⟨a, rfl⟩ : ∃ a : Nat, x = a := ⟨x.toNat, by omega⟩
      obtain ⟨b, rfl⟩ : ∃ b : Nat, y = b := ⟨y.toNat, by omega⟩
      obtain ⟨bb, off, rfl, hbb, c0, c1⟩ := (hA.below hbw (Nat.le_refl _)).pair hx
      obtain ⟨u, hu⟩ := getSome (numsOf n (l.take k)) a (by rw [numsOf_length]; omega)
      obtain ⟨v, hv⟩ := getSome (numsOf n (l.take k)) b (by rw [numsOf_length]; omega)
      have hu0 := hsmall _ _ hu
      have hv0 := hsmall _ _ hv
      obtain ⟨d0, d1, d2, d3, d4⟩ := numbers_round hown hu hv (by omega) (Obj.cells #[.int .i64 (a : Int), .int .i64 (b : Int)] 71)
      have hki : (k : Int) < (l.length : Int) := by omega
      have hsm : Small (bump (bump (numsOf n (l.take k)) a) b) (2 * (k + 1)) := by
        rw [bump_at hu, bump_at (by rw [List.getElem?_set_ne (by omega)]; exact hv)]
        exact small_set (small_set hsmall hu) (by rw [List.getElem?_set_ne (by omega)]; exact hv)
      have Hx := Lib.hid hx
      have Hsm := Lib.hid hsm
      have Hd4 := Lib.hid d4
      have ha : (a : Int) < n := by omega
      have hb' : (b : Int) < n := h2
      clear hx hu hv hsm d4 hsmall
      go_wp2
      go_roundw
      case rel =>
        refine ⟨k + 1, by omega, by go_num, ?_, ?_, ?_⟩
        · rw [List.take_add_one, Hx.out, Option.toList_some, numsOf_snoc]
          exact Hd4.out
        · rw [List.take_add_one, Hx.out, Option.toList_some, numsOf_snoc]
          exact Hsm.out
        · exact ((hb.setCell (p := ⟨w.heap.size + 1, a, none⟩) (by simp) _).setCell (p := ⟨w.heap.size + 1, b, none⟩) (by simp) _).alloc (by simp; omega) _
      case measure => simp [intOf]; omega
    · have hkl : k = l.length := by omega
      subst hkl
      have hge : ¬ ((l.length : Int) < l.length) := by omega
      clear hsmall
      go_wp2
      go_ret
      refine ⟨_, rfl, ?_, hbw⟩
      rwa [List.take_length] at hown

set_option maxHeartbeats 1000000 in
set_option maxRecDepth 100000 in
theorem implNumbersOfFriends_any (p : Int) (l : PL) (A : Option Addr) (c : Nat) (w : World) (hl : l.length ≤ 1048576) (hA : CRead w w.heap.size A (pcells l)) :
    Calls Try.prog 69 #[.agg #[.int .i64 p, .slice A l.length c]] w (GotIntsOk w (resNumbersOfFriends p l).1 (resNumbersOfFriends p l).2) := by
  cases hp : isP p l with
  | false =>
    have e : resNumbersOfFriends p l = ([], false) := by simp [resNumbersOfFriends, hp]
    rw [e]
    have Hp := Lib.hid hp
    clear hp e
    go_enter Try.func69, Try.ntmps69
    go_wp2_with (go_at_call 53; refine (isParty_any _ _ _ _ _ hl ((hA.below (B' := w.heap.size) (by go_grown) (Nat.le_refl _)).more (by go_size))).mono ?_; rw [Hp.out]; rintro e w2 ⟨rfl, hb2⟩; simp only [World.size_alloc] at hb2)
    go_ret2
    exact ⟨none, 0, rfl, World.ownsRow_nil _ _ _ _, Below.trans (b := _) (by go_grown) (hb2.mono (by omega))⟩
  | true =>
    have e : resNumbersOfFriends p l = (numsOf p.toNat l, true) := by simp [resNumbersOfFriends, hp]
    rw [e]
    clear e
    obtain ⟨i0, hi, hz0, hz1, hz2⟩ := info_parts Try.infoInt
    obtain ⟨n, rfl⟩ : ∃ n : Nat, p = n := ⟨p.toNat, by have := isP_range hp; omega⟩
    have hn := isP_range hp
    have hlen : l.length ≤ 66 := by have h1 := isP_length hp; have h2 := people_sq hn.1 hn.2; omega
    simp only [Int.toNat_natCast]
    have Hp := Lib.hid hp
    clear hp
    go_enter Try.func69, Try.ntmps69
    go_wp2_with fail
    refine (isParty_any _ _ _ _ _ hl ((hA.below (B' := w.heap.size) (by go_grown) (Nat.le_refl _)).more (by go_size))).mono ?_
    rw [Hp.out]
    rintro e w2 ⟨rfl, hb2⟩
    simp only [World.size_alloc] at hb2
    have a0 : w2.cell? ⟨w.heap.size, 0, none⟩ = some (.int .i64 n) := carry hb2 (by simp) (by omega)
    have a1 : w2.cell? ⟨w.heap.size, 1, none⟩ = some (.slice A l.length c) := carry hb2 (by simp) (by omega)
    have s2 := hb2.size
    simp only [World.size_alloc] at s2
    go_wp2_with (at_make; refine wpList_make_full _ rfl _ _ 45 rfl w.heap.size 3 i0 _ 1 Try.underlying45 hi hz0 hz1 _ _ _ _ n rfl rfl (by omega) (by omega) (by rw [hz2]; omega) (by unfold maxLen; omega) (by omega) ?_; intro w1 hown1 hgr1; have hb1 : Below w2.heap.size w2 w1 := below_of_gb hgr1 (Nat.le_refl _); have q0 : w1.cell? ⟨w.heap.size, 0, none⟩ = some (.int .i64 n) := carry hb1 a0 (by omega); have q1 : w1.cell? ⟨w.heap.size, 1, none⟩ = some (.slice A l.length c) := carry hb1 a1 (by omega))
    rw [show Value.cells (.int .i64 0) = #[.int .i64 0] from rfl, made_ints] at hown1
    have hl1 := own_lt hown1
    have hb1' : Below (w.heap.size + 1) (w.alloc (Obj.cells #[.int .i64 (n : Int), .slice A l.length c] 31)) w1 := hb2.trans (hb1.mono s2)
    clear hb1 hgr1 a0 a1 q0 q1
    go_loopw [16] (fun i wr => ∃ k : Nat, k ≤ l.length ∧ i = .int .i64 k ∧ wr.ownsRow w.heap.size 3 1 (.slice (some ⟨w2.heap.size, 0, none⟩) n n) n (icells (numsOf n (l.take k))) ∧ Small (numsOf n (l.take k)) (2 * k) ∧ Below (w.heap.size + 1) (w.alloc (Obj.cells #[.int .i64 (n : Int), .slice A l.length c] 31)) wr) (fun i _ => l.length - (intOf i).toNat)
    case atStart => exact ⟨0, Nat.zero_le _, rfl, by simpa [numsOf] using hown1, by simpa [numsOf] using small_zero n _, hb1'⟩
    case round =>
      clear hown1 hb1' hl1 hb2
      obtain ⟨k, hk, rfl, hown, hsmall, hb⟩ := hrel
      have hs := hb.size
      simp only [World.size_alloc] at hs
      have hbw : Below w.heap.size w wr := Below.trans (b := _) (by go_grown) (hb.mono (by omega))
      have hlt0 := own_lt hown
      by_cases hlt : k < l.length
      · obtain ⟨⟨x, y⟩, hx⟩ := getSome l k hlt
        obtain ⟨h0, h1, h2⟩ := goodAt_pair (isP_good Hp.out hlt) hx
        obtain ⟨a, rfl⟩ : ∃ a : Nat, x = a := ⟨x.toNat, by omega⟩
        obtain ⟨b, rfl⟩ : ∃ b : Nat, y = b := ⟨y.toNat, by omega⟩
        obtain ⟨bb, off, rfl, hbb, c0, c1⟩ := (hA.below hbw (Nat.le_refl _)).pair hx
        obtain ⟨u, hu⟩ := getSome (numsOf n (l.take k)) a (by rw [numsOf_length]; omega)
        obtain ⟨v, hv⟩ := getSome (numsOf n (l.take k)) b (by rw [numsOf_length]; omega)
        have hu0 := hsmall _ _ hu
        have hv0 := hsmall _ _ hv
        obtain ⟨d0, d1, d2, d3, d4⟩ := numbers_round hown hu hv (by omega) (Obj.cells #[.int .i64 (a : Int), .int .i64 (b : Int)] 71)
        have hki : (k : Int) < (l.length : Int) := by omega
        have hsm : Small (bump (bump (numsOf n (l.take k)) a) b) (2 * (k + 1)) := by
          rw [bump_at hu, bump_at (by rw [List.getElem?_set_ne (by omega)]; exact hv)]
          exact small_set (small_set hsmall hu) (by rw [List.getElem?_set_ne (by omega)]; exact hv)
        have Hx := Lib.hid hx
        have Hsm := Lib.hid hsm
        have Hd4 := Lib.hid d4
        have ha : (a : Int) < n := by omega
        have hb' : (b : Int) < n := h2
        clear hx hu hv hsm d4 hsmall
        go_wp2
        go_roundw
        case rel =>
          refine ⟨k + 1, by omega, by go_num, ?_, ?_, ?_⟩
          · rw [List.take_add_one, Hx.out, Option.toList_some, numsOf_snoc]
            exact Hd4.out
          · rw [List.take_add_one, Hx.out, Option.toList_some, numsOf_snoc]
            exact Hsm.out
          · exact ((hb.setCell (p := ⟨w2.heap.size, a, none⟩) (by simp; omega) _).setCell (p := ⟨w2.heap.size, b, none⟩) (by simp; omega) _).alloc (by simp; omega) _
        case measure => simp [intOf]; omega
      · have hkl : k = l.length := by omega
        subst hkl
        have hge : ¬ ((l.length : Int) < l.length) := by omega
        clear hsmall
        go_wp2
        go_ret2
        refine ⟨some ⟨w2.heap.size, 0, none⟩, n, by rw [numsOf_length]; rfl, ?_, hbw⟩
        rw [List.take_length] at hown
        rwa [numsOf_length]
end Go.Proofs.Ythpapkfpcijpoaa
/-
  'EqualNumber', 'PoliticianOf': the model's and the program's, by their contracts.
-/
namespace Go.Proofs.Ythpapkfpcijpoaa
open Go.RowKit

theorem numsOf_pos {n : Nat} {l : PL} {x : Int} (h : x ∈ numsOf n l) : 0 ≤ x := by
  have key : ∀ (l : PL) (acc : List Int), (∀ y ∈ acc, 0 ≤ y) → ∀ y ∈ l.foldl (fun acc q => bump (bump acc q.1) q.2) acc, 0 ≤ y := by
    have hb : ∀ (acc : List Int) (a : Int), (∀ y ∈ acc, 0 ≤ y) → ∀ y ∈ bump acc a, 0 ≤ y := by
      intro acc a h y hy
      unfold bump at hy
      rcases List.mem_or_eq_of_mem_set hy with hy | rfl
      · exact h y hy
      · rw [List.getD_eq_getElem?_getD]
        cases e : acc[a.toNat]? with
        | none => simp
        | some u => have := h u (List.mem_of_getElem? e); simp; omega
    intro l
    induction l with
    | nil => intro acc h y hy; exact h y hy
    | cons q l ih => intro acc h y hy; exact ih _ (hb _ _ (hb _ _ h)) y hy
  exact key l _ (fun y hy => by rw [List.eq_of_mem_replicate hy]; exact Int.le_refl _) x h
def resEqualNumber (p : Int) (l : PL) : Int × Bool := if isP p l then onlyI (numsOf p.toNat l) else (0, false)
set_option maxHeartbeats 1000000 in
set_option maxRecDepth 100000 in
theorem cfEqual_any (p : Int) (l : PL) (A : Option Addr) (c : Nat) (w : World) (hp : isP p l = true) (hA : CRead w w.heap.size A (pcells l)) :
    Calls Try.prog 75 #[.agg #[.int .i64 p, .slice A l.length c]] w fun e w' => e = .returned (.int .i64 (equalV (numsOf p.toNat l))) ∧ Below w.heap.size w w' := by
  have hr : CRead (w.alloc (Obj.cells #[.int .i64 p, .slice A l.length c] 31)) (w.alloc (Obj.cells #[.int .i64 p, .slice A l.length c] 31)).heap.size A (pcells l) := (hA.below (B' := w.heap.size) (by go_grown) (Nat.le_refl _)).more (by go_size)
  obtain ⟨n, rfl⟩ : ∃ n : Nat, p = n := ⟨p.toNat, by have := isP_range hp; omega⟩
  have hn := isP_range hp
  have hq := numsOf_length n l
  obtain ⟨q, hqd⟩ : ∃ q, numsOf n l = q := ⟨_, rfl⟩
  have call := paNumbers_any n l A c _ hp hr
  simp only [Int.toNat_natCast] at call ⊢
  rw [hqd] at call hq ⊢
  obtain ⟨v, hv⟩ : ∃ v, equalV q = v := ⟨_, rfl⟩
  rw [hv]
  have Hv := Lib.hid hv
  have Call := Lib.hid call
  clear call hp hqd hv
  go_enter Try.func75, Try.ntmps75
  go_wp2_with fail
  refine Call.out.mono ?_
  rintro e w2 ⟨g, rfl, own, hb2⟩
  simp only [World.size_alloc] at hb2 own
  have k2 : Below w.heap.size w w2 := Below.trans (b := _) (by go_grown) (hb2.mono (by omega))
  have hc : ∀ j, j < n → w2.cell? ⟨g, j, none⟩ = some (.int .i64 (q.getD j 0)) := fun j hj => by rw [own.cellAt j (by omega)]; exact icells_getD (by omega)
  have Hc := Lib.hid hc
  clear Call hc
  go_wp2
  go_loop [10] (fun i => ∃ k : Nat, k ≤ n ∧ i = .int .i64 k ∧ ∀ j, j < k → q.getD j 0 = q.getD 0 0) (fun i => n - (intOf i).toNat)
  case atStart => exact ⟨0, Nat.zero_le _, rfl, fun j hj => by omega⟩
  case round =>
    obtain ⟨k, hk, rfl, hall⟩ := hrel
    have Hall := Lib.hid hall
    clear hall
    by_cases hlt : k < n
    · have hki : (k : Int) < (n : Int) := by omega
      have c0 := Hc.out 0 (by omega)
      have ck := Hc.out k hlt
      by_cases he : q.getD k 0 = q.getD 0 0
      · have hall2 : ∀ j, j < k + 1 → q.getD j 0 = q.getD 0 0 := fun j hj => by
          by_cases hjk : j = k
          · rw [hjk]; exact he
          · exact Hall.out j (by omega)
        have Hall2 := Lib.hid hall2
        rw [he] at ck
        clear hall2 he
        obtain ⟨y, hy⟩ : ∃ y, q.getD 0 0 = y := ⟨_, rfl⟩
        rw [hy] at ck c0
        have hyy : (y == y) = true := by simp
        clear hy
        go_wp2
        go_round
        case rel => exact ⟨k + 1, by omega, by go_num, Hall2.out⟩
        case measure => simp [intOf]; omega
      · have e : v = -1 := by rw [← Hv.out]; unfold equalV; rw [only_not (by omega) he]; rfl
        subst e
        have hne : (q.getD k 0 == q.getD 0 0) = false := by simp only [beq_eq_false_iff_ne, ne_eq]; exact he
        obtain ⟨x, hx⟩ : ∃ x, q.getD k 0 = x := ⟨_, rfl⟩
        obtain ⟨y, hy⟩ : ∃ y, q.getD 0 0 = y := ⟨_, rfl⟩
        rw [hx] at ck hne he
        rw [hy] at c0 hne he
        clear hx hy
        go_wp2
        go_ret
        exact ⟨rfl, k2⟩
    · have e : k = n := by omega
      subst e
      have hge : ¬ ((k : Int) < (k : Int)) := by omega
      by_cases h0 : k = 0
      · subst h0
        have e : v = -1 := by rw [← Hv.out, List.eq_nil_of_length_eq_zero hq]; rfl
        subst e
        go_wp2
        go_ret
        exact ⟨rfl, k2⟩
      · have e : v = q.getD 0 0 := by rw [← Hv.out]; unfold equalV; rw [only_of (by omega) (fun j hj => Hall.out j (by omega))]; rfl
        have c0 := Hc.out 0 (by omega)
        have hz : ((k : Int) == 0) = false := by simp only [beq_eq_false_iff_ne, ne_eq]; omega
        rw [← e] at c0
        clear e
        go_wp2
        go_ret
        exact ⟨rfl, k2⟩
set_option maxHeartbeats 1000000 in
set_option maxRecDepth 100000 in
theorem specEqualNumber_any (p : Int) (l : PL) (A : Option Addr) (c : Nat) (w : World) (hl : l.length ≤ 1048576) (hA : CRead w w.heap.size A (pcells l)) :
    Calls Try.prog 32 #[.agg #[.int .i64 p, .slice A l.length c]] w fun e w' => e = .returned (.tuple #[.int .i64 (resEqualNumber p l).1, .bool (resEqualNumber p l).2]) ∧ Below w.heap.size w w' := by
  have hr : CRead (w.alloc (Obj.cells #[.int .i64 p, .slice A l.length c] 31)) (w.alloc (Obj.cells #[.int .i64 p, .slice A l.length c] 31)).heap.size A (pcells l) := (hA.below (B' := w.heap.size) (by go_grown) (Nat.le_refl _)).more (by go_size)
  cases hp : isP p l with
  | false =>
    have e : resEqualNumber p l = (0, false) := by simp [resEqualNumber, hp]
    rw [e]
    have Hp := Lib.hid hp
    clear hp e
    go_enter Try.func32, Try.ntmps32
    go_wp2_with fail
    refine (paGood_any _ _ _ _ _ hl hr).mono ?_
    rw [Hp.out]
    rintro e w2 ⟨rfl, hb2⟩
    simp only [World.size_alloc] at hb2
    go_wp2
    go_ret2
    exact ⟨rfl, Below.trans (b := _) (by go_grown) (hb2.mono (by omega))⟩
  | true =>
    have e : resEqualNumber p l = onlyI (numsOf p.toNat l) := by simp [resEqualNumber, hp]
    rw [e]
    have hv : equalV (numsOf p.toNat l) = -1 ∧ onlyI (numsOf p.toNat l) = (0, false) ∨ 0 ≤ equalV (numsOf p.toNat l) ∧ onlyI (numsOf p.toNat l) = (equalV (numsOf p.toNat l), true) := by
      cases h2 : (onlyI (numsOf p.toNat l)).2 with
      | false => left; refine ⟨by unfold equalV; rw [h2]; rfl, onlyI_no h2⟩
      | true =>
        right
        have hm := numsOf_pos (onlyI_mem h2)
        have e1 : equalV (numsOf p.toNat l) = (onlyI (numsOf p.toNat l)).1 := by unfold equalV; rw [h2]; rfl
        rw [e1]
        exact ⟨hm, Prod.ext rfl h2⟩
    obtain ⟨v, hvd⟩ : ∃ v, equalV (numsOf p.toNat l) = v := ⟨_, rfl⟩
    have call := fun (X : World) (hX : CRead X X.heap.size A (pcells l)) => cfEqual_any p l A c X hp hX
    rw [hvd] at hv call
    have Call := Lib.hid call
    have Hp := Lib.hid hp
    clear call hp e hvd
    rcases hv with ⟨rfl, e⟩ | ⟨hv0, e⟩
    all_goals
      rw [e]
      clear e
      go_enter Try.func32, Try.ntmps32
      go_wp2_with fail
      refine (paGood_any _ _ _ _ _ hl hr).mono ?_
      rw [Hp.out]
      rintro e w2 ⟨rfl, hb2⟩
      have s2 := hb2.size
      have k2 : Below w.heap.size w w2 := Below.trans (b := _) (by go_grown) (hb2.mono (by simp))
      have c0 : w2.cell? ⟨w.heap.size, 0, none⟩ = some (.int .i64 p) := carry hb2 (by simp) (by simp)
      have c1 : w2.cell? ⟨w.heap.size, 1, none⟩ = some (.slice A l.length c) := carry hb2 (by simp) (by simp)
      simp only [World.size_alloc] at s2
      go_wp2_with fail
      refine (Call.out _ ((hA.below k2 (Nat.le_refl _)).more k2.size)).mono ?_
      rintro e w3 ⟨rfl, hb3⟩
      have k3 := k2.trans (hb3.mono k2.size)
      have d0 : w3.cell? ⟨w.heap.size, 0, none⟩ = some (.int .i64 p) := carry hb3 c0 (by omega)
      have d1 : w3.cell? ⟨w.heap.size, 1, none⟩ = some (.slice A l.length c) := carry hb3 c1 (by omega)
      clear c0 c1
    · go_wp2
      go_ret2
      exact ⟨rfl, k3⟩
    · have hge : ¬ (v < 0) := by omega
      go_wp2_with fail
      refine (Call.out _ ((hA.below k3 (Nat.le_refl _)).more k3.size)).mono ?_
      rintro e w4 ⟨rfl, hb4⟩
      have k4 := k3.trans (hb4.mono k3.size)
      go_wp2
      go_ret2
      exact ⟨rfl, k4⟩
set_option maxHeartbeats 1000000 in
set_option maxRecDepth 100000 in
theorem onlyNumber_any (q : List Int) (A : Option Addr) (c : Nat) (w : World) (hl : q.length ≤ 1048576) (hA : CRead w w.heap.size A (icells q)) :
    Calls Try.prog 76 #[.slice A q.length c] w fun e w' => e = .returned (.tuple #[.int .i64 (onlyI q).1, .bool (onlyI q).2]) ∧ Below w.heap.size w w' := by
  cases q with
  | nil =>
    go_enter Try.func76, Try.ntmps76
    go_wp2
    go_ret2
    exact ⟨rfl, Below.refl _ _⟩
  | cons x r =>
    obtain ⟨b, off, rfl, hbb, hc⟩ := hA.ints (by simp)
    have c0 := hc 0 (by simp)
    simp only [Nat.add_zero, List.getD_cons_zero] at c0
    have hmin := fun X : World => fun hX => minI_any b off (x :: r).length c (x :: r) X (by simp) rfl hl hX
    have hmax := fun X : World => fun hX => maxI_any b off (x :: r).length c (x :: r) X (by simp) rfl hl hX
    have hmm := only_minmax x r
    have hne : (((x :: r).length : Int) == 0) = false := by simp only [beq_eq_false_iff_ne, ne_eq, List.length_cons]; omega
    obtain ⟨n, hn⟩ : ∃ n, (x :: r).length = n := ⟨_, rfl⟩
    rw [hn] at hmin hmax hne hl hc ⊢
    obtain ⟨u, hu⟩ : ∃ u, Lib.minOf (x :: r) = u := ⟨_, rfl⟩
    obtain ⟨v, hv⟩ : ∃ v, Lib.maxOf (x :: r) = v := ⟨_, rfl⟩
    rw [hu] at hmin hmm
    rw [hv] at hmax hmm
    have Hmin := Lib.hid hmin
    have Hmax := Lib.hid hmax
    have Hc := Lib.hid hc
    have hn0 : 0 < n := by rw [← hn]; simp
    clear hmin hmax hc hu hv hA
    by_cases huv : u = v
    · have e := onlyI_cons (hmm.1 huv)
      rw [e]
      subst huv
      clear e hmm
      go_enter Try.func76, Try.ntmps76
      go_wp2_with fail
      refine (Hmin.out _ Hc.out).mono ?_
      rintro e w2 ⟨rfl, rfl⟩
      go_wp2_with fail
      refine (Hmax.out _ Hc.out).mono ?_
      rintro e w2 ⟨rfl, rfl⟩
      go_wp2
      go_ret2
      exact ⟨rfl, Below.refl _ _⟩
    · have h2 : (onlyI (x :: r)).2 = false := by cases h : (onlyI (x :: r)).2 with | false => rfl | true => exact absurd (hmm.2 h) huv
      rw [onlyI_no h2]
      have hb : (u == v) = false := by simp only [beq_eq_false_iff_ne, ne_eq]; exact huv
      clear hmm h2
      go_enter Try.func76, Try.ntmps76
      go_wp2_with fail
      refine (Hmin.out _ Hc.out).mono ?_
      rintro e w2 ⟨rfl, rfl⟩
      go_wp2_with fail
      refine (Hmax.out _ Hc.out).mono ?_
      rintro e w2 ⟨rfl, rfl⟩
      go_wp2
      go_ret2
      exact ⟨rfl, Below.refl _ _⟩
set_option maxHeartbeats 1000000 in
set_option maxRecDepth 100000 in
theorem implEqualNumber_any (p : Int) (l : PL) (A : Option Addr) (c : Nat) (w : World) (hl : l.length ≤ 1048576) (hA : CRead w w.heap.size A (pcells l)) :
    Calls Try.prog 33 #[.agg #[.int .i64 p, .slice A l.length c]] w fun e w' => e = .returned (.tuple #[.int .i64 (resEqualNumber p l).1, .bool (resEqualNumber p l).2]) ∧ Below w.heap.size w w' := by
  have hr : CRead (w.alloc (Obj.cells #[.int .i64 p, .slice A l.length c] 31)) (w.alloc (Obj.cells #[.int .i64 p, .slice A l.length c] 31)).heap.size A (pcells l) := (hA.below (B' := w.heap.size) (by go_grown) (Nat.le_refl _)).more (by go_size)
  have call := implNumbersOfFriends_any p l A c _ hl hr
  obtain ⟨⟨q, ok⟩, hq⟩ : ∃ x, resNumbersOfFriends p l = x := ⟨_, rfl⟩
  have hlen := resNumbersOfFriends_len p l
  rw [hq] at call hlen
  have e : resEqualNumber p l = if ok then onlyI q else (0, false) := by
    unfold resNumbersOfFriends at hq
    unfold resEqualNumber
    cases h : isP p l with
    | true => rw [h, if_pos rfl] at hq; cases hq; rfl
    | false => rw [h, if_neg (by decide)] at hq; cases hq; rfl
  rw [e]
  have Call := Lib.hid call
  clear call e hq
  cases ok with
  | false =>
    go_enter Try.func33, Try.ntmps33
    go_wp2_with fail
    refine Call.out.mono ?_
    rintro e w2 ⟨A2, c2, rfl, own, hb2⟩
    simp only [World.size_alloc] at hb2
    go_wp2
    go_ret2
    exact ⟨rfl, Below.trans (b := _) (by go_grown) (hb2.mono (by omega))⟩
  | true =>
    go_enter Try.func33, Try.ntmps33
    go_wp2_with fail
    refine Call.out.mono ?_
    rintro e w2 ⟨A2, c2, rfl, own, hb2⟩
    simp only [World.size_alloc] at hb2
    have k2 : Below w.heap.size w w2 := Below.trans (b := _) (by go_grown) (hb2.mono (by omega))
    go_wp2_with fail
    refine (onlyNumber_any q A2 c2 _ hlen (CRead.of_own own)).mono ?_
    rintro e w3 ⟨rfl, hb3⟩
    go_wp2
    go_ret2
    exact ⟨rfl, k2.trans (hb3.mono k2.size)⟩
/-- the least politician, -1 if there is none -/
def politV (p : Int) (q : List Int) : Int := Lib.idxOf q (p - 1)
def resPoliticianOf (p : Int) (l : PL) : Int × Bool := if isP p l && decide (0 ≤ politV p (numsOf p.toNat l)) then (politV p (numsOf p.toNat l), true) else (0, false)
theorem politV_hit {p : Int} {q : List Int} {k : Nat} (hk : k < q.length) (h : q.getD k 0 = p - 1) (hne : ∀ j, j < k → q.getD j 0 ≠ p - 1) : politV p q = k := by
  have := Lib.idxOf_hit q q.length k (p - 1) hk (Nat.le_refl _) h hne
  rwa [List.take_length] at this
theorem politV_miss {p : Int} {q : List Int} (hne : ∀ j, j < q.length → q.getD j 0 ≠ p - 1) : politV p q = -1 := by
  have := Lib.idxOf_miss q q.length (p - 1) hne
  rwa [List.take_length] at this
theorem politV_small (p : Int) (q : List Int) : politV p q = -1 ∨ (0 ≤ politV p q ∧ politV p q < q.length) := by
  by_cases h : ∃ k, k < q.length ∧ q.getD k 0 = p - 1
  · obtain ⟨k, hk⟩ := h
    have least : ∀ m, ∀ k, k ≤ m → (k < q.length ∧ q.getD k 0 = p - 1) → ∃ j, (j < q.length ∧ q.getD j 0 = p - 1) ∧ ∀ i, i < j → q.getD i 0 ≠ p - 1 := by
      intro m
      induction m with
      | zero => intro k hk h; exact ⟨k, h, fun i hi => by omega⟩
      | succ m ih =>
        intro k hkm h
        by_cases h2 : ∃ i, i < k ∧ q.getD i 0 = p - 1
        · obtain ⟨i, hi, h3⟩ := h2
          exact ih i (by omega) ⟨by omega, h3⟩
        · exact ⟨k, h, fun i hi e => h2 ⟨i, hi, e⟩⟩
    obtain ⟨j, hj, hne⟩ := least k k (Nat.le_refl _) hk
    right
    rw [politV_hit hj.1 hj.2 hne]
    omega
  · left
    exact politV_miss fun j hj e => h ⟨j, hj, e⟩
set_option maxHeartbeats 1000000 in
set_option maxRecDepth 100000 in
theorem cfPolitician_any (p : Int) (l : PL) (A : Option Addr) (c : Nat) (w : World) (hp : isP p l = true) (hA : CRead w w.heap.size A (pcells l)) :
    Calls Try.prog 73 #[.agg #[.int .i64 p, .slice A l.length c]] w fun e w' => e = .returned (.int .i64 (politV p (numsOf p.toNat l))) ∧ Below w.heap.size w w' := by
  have hr : CRead (w.alloc (Obj.cells #[.int .i64 p, .slice A l.length c] 31)) (w.alloc (Obj.cells #[.int .i64 p, .slice A l.length c] 31)).heap.size A (pcells l) := (hA.below (B' := w.heap.size) (by go_grown) (Nat.le_refl _)).more (by go_size)
  obtain ⟨n, rfl⟩ : ∃ n : Nat, p = n := ⟨p.toNat, by have := isP_range hp; omega⟩
  have hn := isP_range hp
  have hq := numsOf_length n l
  obtain ⟨q, hqd⟩ : ∃ q, numsOf n l = q := ⟨_, rfl⟩
  have call := paNumbers_any n l A c _ hp hr
  simp only [Int.toNat_natCast] at call ⊢
  rw [hqd] at call hq ⊢
  obtain ⟨v, hv⟩ : ∃ v, politV n q = v := ⟨_, rfl⟩
  rw [hv]
  have Hv := Lib.hid hv
  have Call := Lib.hid call
  clear call hp hqd hv
  go_enter Try.func73, Try.ntmps73
  go_wp2_with fail
  refine Call.out.mono ?_
  rintro e w2 ⟨g, rfl, own, hb2⟩
  simp only [World.size_alloc] at hb2 own
  have k2 : Below w.heap.size w w2 := Below.trans (b := _) (by go_grown) (hb2.mono (by omega))
  have hc : ∀ j, j < n → w2.cell? ⟨g, j, none⟩ = some (.int .i64 (q.getD j 0)) := fun j hj => by rw [own.cellAt j (by omega)]; exact icells_getD (by omega)
  have d0 : w2.cell? ⟨w.heap.size, 0, none⟩ = some (.int .i64 n) := carry hb2 (by simp) (by simp)
  have Hc := Lib.hid hc
  clear Call hc
  go_wp2
  go_loop [8] (fun i => ∃ k : Nat, k ≤ n ∧ i = .int .i64 k ∧ ∀ j, j < k → q.getD j 0 ≠ (n : Int) - 1) (fun i => n - (intOf i).toNat)
  case atStart => exact ⟨0, Nat.zero_le _, rfl, fun j hj => by omega⟩
  case round =>
    obtain ⟨k, hk, rfl, hall⟩ := hrel
    have Hall := Lib.hid hall
    clear hall
    by_cases hlt : k < n
    · have hki : (k : Int) < (n : Int) := by omega
      have ck := Hc.out k hlt
      obtain ⟨y, hy⟩ : ∃ y, q.getD k 0 = y := ⟨_, rfl⟩
      rw [hy] at ck
      by_cases he : y = (n : Int) - 1
      · have e : v = k := by rw [← Hv.out]; exact politV_hit (by omega) (hy.trans he) Hall.out
        subst e
        subst he
        clear hy
        go_wp2
        go_ret
        exact ⟨rfl, k2⟩
      · have hne : (y == (n : Int) - 1) = false := by simp only [beq_eq_false_iff_ne, ne_eq]; exact he
        have hall2 : ∀ j, j < k + 1 → q.getD j 0 ≠ (n : Int) - 1 := fun j hj => by
          by_cases hjk : j = k
          · rw [hjk, hy]; exact he
          · exact Hall.out j (by omega)
        have Hall2 := Lib.hid hall2
        clear hall2 hy
        go_wp2
        go_round
        case rel => exact ⟨k + 1, by omega, by go_num, Hall2.out⟩
        case measure => simp [intOf]; omega
    · have e : k = n := by omega
      subst e
      have hge : ¬ ((k : Int) < (k : Int)) := by omega
      have e : v = -1 := by rw [← Hv.out]; exact politV_miss fun j hj => Hall.out j (by omega)
      subst e
      go_wp2
      go_ret
      exact ⟨rfl, k2⟩
set_option maxHeartbeats 1000000 in
set_option maxRecDepth 100000 in
theorem specPoliticianOf_any (p : Int) (l : PL) (A : Option Addr) (c : Nat) (w : World) (hl : l.length ≤ 1048576) (hA : CRead w w.heap.size A (pcells l)) :
    Calls Try.prog 30 #[.agg #[.int .i64 p, .slice A l.length c]] w fun e w' => e = .returned (.tuple #[.int .i64 (resPoliticianOf p l).1, .bool (resPoliticianOf p l).2]) ∧ Below w.heap.size w w' := by
  have hr : CRead (w.alloc (Obj.cells #[.int .i64 p, .slice A l.length c] 31)) (w.alloc (Obj.cells #[.int .i64 p, .slice A l.length c] 31)).heap.size A (pcells l) := (hA.below (B' := w.heap.size) (by go_grown) (Nat.le_refl _)).more (by go_size)
  cases hp : isP p l with
  | false =>
    have e : resPoliticianOf p l = (0, false) := by simp [resPoliticianOf, hp]
    rw [e]
    have Hp := Lib.hid hp
    clear hp e
    go_enter Try.func30, Try.ntmps30
    go_wp2_with fail
    refine (paGood_any _ _ _ _ _ hl hr).mono ?_
    rw [Hp.out]
    rintro e w2 ⟨rfl, hb2⟩
    simp only [World.size_alloc] at hb2
    go_wp2
    go_ret2
    exact ⟨rfl, Below.trans (b := _) (by go_grown) (hb2.mono (by omega))⟩
  | true =>
    obtain ⟨v, hvd⟩ : ∃ v, politV p (numsOf p.toNat l) = v := ⟨_, rfl⟩
    have hv := politV_small p (numsOf p.toNat l)
    have call := fun (X : World) (hX : CRead X X.heap.size A (pcells l)) => cfPolitician_any p l A c X hp hX
    have e1 : v < 0 → resPoliticianOf p l = (0, false) := fun h => by unfold resPoliticianOf; rw [hvd, hp, decide_eq_false (by omega)]; rfl
    have e2 : 0 ≤ v → resPoliticianOf p l = (v, true) := fun h => by unfold resPoliticianOf; rw [hvd, hp, decide_eq_true h]; rfl
    rw [hvd] at hv call
    have Call := Lib.hid call
    have Hp := Lib.hid hp
    clear call hp hvd
    by_cases hv0 : v < 0
    all_goals
      first | rw [e1 hv0] | rw [e2 (by omega)]
      clear e1 e2
      go_enter Try.func30, Try.ntmps30
      go_wp2_with fail
      refine (paGood_any _ _ _ _ _ hl hr).mono ?_
      rw [Hp.out]
      rintro e w2 ⟨rfl, hb2⟩
      have s2 := hb2.size
      have k2 : Below w.heap.size w w2 := Below.trans (b := _) (by go_grown) (hb2.mono (by simp))
      have c0 : w2.cell? ⟨w.heap.size, 0, none⟩ = some (.int .i64 p) := carry hb2 (by simp) (by simp)
      have c1 : w2.cell? ⟨w.heap.size, 1, none⟩ = some (.slice A l.length c) := carry hb2 (by simp) (by simp)
      simp only [World.size_alloc] at s2
      go_wp2_with fail
      refine (Call.out _ ((hA.below k2 (Nat.le_refl _)).more k2.size)).mono ?_
      rintro e w3 ⟨rfl, hb3⟩
      have k3 := k2.trans (hb3.mono k2.size)
      have d0 : w3.cell? ⟨w.heap.size, 0, none⟩ = some (.int .i64 p) := carry hb3 c0 (by omega)
      have d1 : w3.cell? ⟨w.heap.size, 1, none⟩ = some (.slice A l.length c) := carry hb3 c1 (by omega)
      clear c0 c1
    · go_wp2
      go_ret2
      exact ⟨rfl, k3⟩
    · go_wp2_with fail
      refine (Call.out _ ((hA.below k3 (Nat.le_refl _)).more k3.size)).mono ?_
      rintro e w4 ⟨rfl, hb4⟩
      have k4 := k3.trans (hb4.mono k3.size)
      go_wp2
      go_ret2
      exact ⟨rfl, k4⟩
set_option maxHeartbeats 1000000 in
set_option maxRecDepth 100000 in
theorem implPoliticianOf_any (p : Int) (l : PL) (A : Option Addr) (c : Nat) (w : World) (hl : l.length ≤ 1048576) (hA : CRead w w.heap.size A (pcells l)) :
    Calls Try.prog 31 #[.agg #[.int .i64 p, .slice A l.length c]] w fun e w' => e = .returned (.tuple #[.int .i64 (resPoliticianOf p l).1, .bool (resPoliticianOf p l).2]) ∧ Below w.heap.size w w' := by
  have hr : CRead (w.alloc (Obj.cells #[.int .i64 p, .slice A l.length c] 31)) (w.alloc (Obj.cells #[.int .i64 p, .slice A l.length c] 31)).heap.size A (pcells l) := (hA.below (B' := w.heap.size) (by go_grown) (Nat.le_refl _)).more (by go_size)
  have call := implNumbersOfFriends_any p l A c _ hl hr
  cases hp : isP p l with
  | false =>
    have e : resPoliticianOf p l = (0, false) := by simp [resPoliticianOf, hp]
    have e2 : resNumbersOfFriends p l = ([], false) := by simp [resNumbersOfFriends, hp]
    rw [e]
    rw [e2] at call
    have Call := Lib.hid call
    clear call e e2 hp
    go_enter Try.func31, Try.ntmps31
    go_wp2_with fail
    refine Call.out.mono ?_
    rintro e w2 ⟨A2, c2, rfl, own, hb2⟩
    simp only [World.size_alloc] at hb2
    go_wp2
    go_ret2
    exact ⟨rfl, Below.trans (b := _) (by go_grown) (hb2.mono (by omega))⟩
  | true =>
    have e2 : resNumbersOfFriends p l = (numsOf p.toNat l, true) := by simp [resNumbersOfFriends, hp]
    have hlen := resNumbersOfFriends_len p l
    rw [e2] at call hlen
    obtain ⟨v, hvd⟩ : ∃ v, politV p (numsOf p.toNat l) = v := ⟨_, rfl⟩
    have hv := politV_small p (numsOf p.toNat l)
    have e1 : v < 0 → resPoliticianOf p l = (0, false) := fun h => by unfold resPoliticianOf; rw [hvd, hp, decide_eq_false (by omega)]; rfl
    have e2 : 0 ≤ v → resPoliticianOf p l = (v, true) := fun h => by unfold resPoliticianOf; rw [hvd, hp, decide_eq_true h]; rfl
    rw [hvd] at hv
    obtain ⟨q, hq⟩ : ∃ q, numsOf p.toNat l = q := ⟨_, rfl⟩
    rw [hq] at call hvd hlen hv
    simp only at hlen
    have hn := isP_range hp
    have idx : ∀ (A2 : Option Addr) (c2 : Nat) (X : World), CRead X X.heap.size A2 (icells q) → Calls Try.prog 74 #[.slice A2 q.length c2, .int .i64 (p - 1)] X fun e w' => e = .returned (.int .i64 v) ∧ w' = X := by
      intro A2 c2 X hX
      by_cases h0 : 0 < q.length
      · obtain ⟨b, off, rfl, _, hc⟩ := hX.ints h0
        have h := indexI_any b off q.length c2 q (p - 1) X rfl hlen hc
        rw [← hvd]
        exact h
      · have hq0 : q = [] := List.eq_nil_of_length_eq_zero (by omega)
        subst hq0
        have h := indexI_none A2 c2 (p - 1) X
        rw [← hvd]
        exact h
    have Idx := Lib.hid idx
    have Call := Lib.hid call
    clear call hp hvd hq idx
    by_cases hv0 : v < 0
    all_goals
      first | rw [e1 hv0] | rw [e2 (by omega)]
      clear e1 e2
      go_enter Try.func31, Try.ntmps31
      go_wp2_with fail
      refine Call.out.mono ?_
      rintro e w2 ⟨A2, c2, rfl, own, hb2⟩
      have d0 : w2.cell? ⟨w.heap.size, 0, none⟩ = some (.int .i64 p) := carry hb2 (by simp) (by simp)
      simp only [World.size_alloc] at hb2
      have k2 : Below w.heap.size w w2 := Below.trans (b := _) (by go_grown) (hb2.mono (by omega))
      go_wp2_with fail
      refine (Idx.out A2 c2 _ (CRead.of_own own)).mono ?_
      rintro e w3 ⟨rfl, rfl⟩
      go_wp2
      go_ret2
      exact ⟨rfl, k2⟩
end Go.Proofs.Ythpapkfpcijpoaa
/-
  THE NUMBER OF COMMON FRIENDS OF PAIRS, the program's: how many the two of each pair have, if all have as many.
-/
namespace Go.Proofs.Ythpapkfpcijpoaa
open Go.RowKit

/-- how many common friends the two of each pair have -/
def comQ (n : Nat) (l q : PL) : List Int := q.map fun x => (commonN n (adj l) x.1.toNat x.2.toNat : Int)
theorem comQ_len (n : Nat) (l q : PL) : (comQ n l q).length = q.length := by simp [comQ]
/-- the first k of a list, the others 0 -/
def upToZ (L : List Int) (k : Nat) : List Int := L.take k ++ List.replicate (L.length - k) 0
theorem upToZ_set {L : List Int} {k : Nat} {x : Int} (hk : k < L.length) (hx : L[k]? = some x) : (upToZ L k).set k x = upToZ L (k + 1) := by
  have hl : (L.take k).length = k := by simp; omega
  unfold upToZ
  rw [List.set_append_right _ _ (by omega), hl, Nat.sub_self, List.take_add_one, hx, List.append_assoc]
  obtain ⟨m, hm⟩ : ∃ m, L.length - k = m + 1 := ⟨L.length - k - 1, by omega⟩
  rw [hm, List.replicate_succ, show L.length - (k + 1) = m by omega]
  rfl
theorem upToZ_len {L : List Int} {k : Nat} (hk : k ≤ L.length) : (upToZ L k).length = L.length := by simp [upToZ]; omega
theorem upToZ_all (L : List Int) : upToZ L L.length = L := by simp [upToZ]
theorem upToZ_none (L : List Int) : upToZ L 0 = List.replicate L.length 0 := by simp [upToZ]
set_option maxHeartbeats 4000000 in
set_option maxRecDepth 100000 in
theorem onlyCommon_any {n : Nat} {l : PL} (q : PL) (A A2 : Option Addr) (c c2 : Nat) (w : World) (hp : isP n l = true) (hq : ∀ x ∈ q, 0 ≤ x.1 ∧ x.1 < n ∧ 0 ≤ x.2 ∧ x.2 < n) (hql : q.length ≤ 66)
    (hA : CRead w w.heap.size A (pcells l)) (hQ : CRead w w.heap.size A2 (pcells q)) :
    Calls Try.prog 77 #[.agg #[.int .i64 n, .slice A l.length c], .slice A2 q.length c2] w fun e w' => e = .returned (.tuple #[.int .i64 (onlyI (comQ n l q)).1, .bool (onlyI (comQ n l q)).2]) ∧ Below w.heap.size w w' := by
  have hr : CRead (w.alloc (Obj.cells #[.int .i64 n, .slice A l.length c] 31)) (w.alloc (Obj.cells #[.int .i64 n, .slice A l.length c] 31)).heap.size A (pcells l) := (hA.below (B' := w.heap.size) (by go_grown) (Nat.le_refl _)).more (by go_size)
  have hn := isP_range hp
  have hn12 : n ≤ 12 := by omega
  obtain ⟨i0, hi, hz0, hz1, hz2⟩ := info_parts Try.infoInt
  have call : ∀ (a b : Nat) (Y : World), a < n → b < n → Calls Try.prog 55 #[.agg (tcells (friendsT l)), .int .i64 a, .int .i64 b] Y fun e w' => e = .returned (.int .i64 (commonN n (adj l) a b)) ∧ Below Y.heap.size Y w' := fun a b Y ha hb =>
    countCommon_any (friendsT_of hp).lt (show a < 12 by omega) (show b < 12 by omega) (common_set hp ha hb) Y
  unfold tcells at call
  have hcl := comQ_len n l q
  have hcx : ∀ (k : Nat) (a b : Nat), q[k]? = some ((a : Int), (b : Int)) → (comQ n l q)[k]? = some (commonN n (adj l) a b : Int) := fun k a b h => by
    unfold comQ; rw [List.getElem?_map, h]; rfl
  obtain ⟨L, hL⟩ : ∃ L, comQ n l q = L := ⟨_, rfl⟩
  rw [hL] at hcl ⊢
  simp only [hL] at hcx
  have Call := Lib.hid call
  have Hcx := Lib.hid hcx
  have Hcl := Lib.hid hcl
  have Hfin := fun (A : Option Addr) (c : Nat) (Y : World) (hY : CRead Y Y.heap.size A (icells L)) => onlyNumber_any L A c Y (by omega) hY
  rw [hcl] at Hfin
  obtain ⟨r1, hr1⟩ : ∃ r, (onlyI L).1 = r := ⟨_, rfl⟩
  obtain ⟨r2, hr2⟩ : ∃ r, (onlyI L).2 = r := ⟨_, rfl⟩
  simp only [hr1, hr2] at Hfin ⊢
  have HFin := Lib.hid Hfin
  have hfi := friendsIn_any n l A c _ hp hr
  have Hfi := Lib.hid hfi
  clear call hcx hcl Hfin hfi hL hr1 hr2 hp
  go_enter Try.func77, Try.ntmps77
  go_wp2_with fail
  refine Hfi.out.mono ?_
  rintro e w3 ⟨rfl, _, hb3⟩
  have s3 : w.heap.size < w3.heap.size := by have := hb3.size; simp only [World.size_alloc] at this; omega
  have k3 : Below w.heap.size w w3 := Below.trans (b := _) (by go_grown) (hb3.mono (by simp))
  obtain ⟨X, hX⟩ : ∃ X, w3.alloc (Obj.cells (tcells (friendsT l)) 65) = X := ⟨_, rfl⟩
  have row0 : X.rowIs w3.heap.size 65 12 (fun j => .int .u16 (friendsT l j)) := by rw [← hX]; exact rowIs_u16 w3 _ _
  have zX : w3.heap.size < X.heap.size := by rw [← hX]; simp
  have kX : Below w.heap.size w X := by rw [← hX]; exact k3.alloc k3.size _
  unfold tcells at hX ⊢
  have HX := Lib.hid hX
  have Row := Lib.hid row0
  have KX := Lib.hid kX
  clear hX row0 kX hb3 k3 hr Hfi
  go_wp2_with (at_make; rw [HX.out]; refine wpList_make_full _ rfl _ _ 45 rfl X.heap.size 3 i0 _ 1 Try.underlying45 hi hz0 hz1 _ _ _ _ q.length rfl rfl (by omega) (by omega) (by rw [hz2]; omega) (by unfold maxLen; omega) (Nat.le_refl _) ?_; intro w4 hown4 hgr4)
  have hb4 : Below X.heap.size X w4 := (Below.refl _ _).grown hgr4 (Nat.le_refl _) (by simp)
  rw [show Value.cells (.int .i64 0) = #[.int .i64 0] from rfl, made_ints, ← Hcl.out, ← upToZ_none, Hcl.out] at hown4
  have H4 := Lib.hid hown4
  have HB4 := Lib.hid hb4
  clear hown4 hgr4 hb4
  go_wp2_with fail
  go_loopw [17] (fun i wr => ∃ k : Nat, k ≤ q.length ∧ i = .int .i64 k ∧ wr.ownsRow X.heap.size 3 1 (.slice (some ⟨X.heap.size, 0, none⟩) q.length q.length) q.length (icells (upToZ L k)) ∧ Below X.heap.size X wr) (fun i _ => q.length - (intOf i).toNat)
  case atStart => exact ⟨0, Nat.zero_le _, rfl, H4.out, HB4.out⟩
  case round =>
    clear H4 HB4
    obtain ⟨k, hk, rfl, hown, hb⟩ := hrel
    have hs := hb.size
    by_cases hlt : k < q.length
    · have hki : (k : Int) < (q.length : Int) := by omega
      obtain ⟨⟨a, b⟩, hx⟩ := getSome q k hlt
      obtain ⟨h0, h1, h2, h3⟩ := hq _ (List.mem_of_getElem? hx)
      obtain ⟨a, rfl⟩ : ∃ x : Nat, a = x := ⟨a.toNat, by simp only at h0; omega⟩
      obtain ⟨b, rfl⟩ : ∃ x : Nat, b = x := ⟨b.toNat, by simp only at h2; omega⟩
      simp only at h0 h1 h2 h3
      have kr := KX.out.trans (hb.mono KX.out.size)
      obtain ⟨bb, off, e, hbb, x0, x1⟩ := (hQ.below kr (Nat.le_refl _)).pair hx
      obtain rfl := e
      have row4 : wr.rowIs w3.heap.size 65 12 (fun j => .int .u16 (friendsT l j)) := by obtain ⟨cc, h1, h2⟩ := Row.out; exact ⟨cc, (hb.block _ zX).trans h1, h2⟩
      have T0 := row4.cell (i := 0) (by omega)
      have T1 := row4.cell (i := 1) (by omega)
      have T2 := row4.cell (i := 2) (by omega)
      have T3 := row4.cell (i := 3) (by omega)
      have T4 := row4.cell (i := 4) (by omega)
      have T5 := row4.cell (i := 5) (by omega)
      have T6 := row4.cell (i := 6) (by omega)
      have T7 := row4.cell (i := 7) (by omega)
      have T8 := row4.cell (i := 8) (by omega)
      have T9 := row4.cell (i := 9) (by omega)
      have T10 := row4.cell (i := 10) (by omega)
      have T11 := row4.cell (i := 11) (by omega)
      have hcx := Hcx.out k a b hx
      have call := fun Y => Call.out a b Y (by omega) (by omega)
      have hset := fun x => upToZ_set (L := L) (k := k) (x := x) (by have := Hcl.out; omega)
      have hlz : (icells (upToZ L k)).length = q.length := by rw [icells_length, upToZ_len (by have := Hcl.out; omega), Hcl.out]
      obtain ⟨z, hz⟩ := getSome (icells (upToZ L k)) k (by omega)
      obtain ⟨M, hM⟩ : ∃ M : Nat, commonN n (adj l) a b = M := ⟨_, rfl⟩
      simp only [hM] at call hcx
      have hset2 := hset _ hcx
      have Call2 := Lib.hid call
      have Hset := Lib.hid hset2
      have Hz := Lib.hid hz
      have Hown := Lib.hid hown
      clear hset hset2 call hcx hM hz hlz hown row4 kr hx
      have zr : w3.heap.size < wr.heap.size := Nat.lt_of_lt_of_le zX hs
      go_wp2_with fail
      refine (Call2.out _).mono ?_
      rintro e w6 ⟨rfl, hb6⟩
      have kY : Below wr.heap.size wr w6 := Below.trans (b := _) (by go_grown) (hb6.mono (by simp))
      have own6 := own_below Hown.out kY (Nat.le_refl _)
      have ce6 := (own6.cellAt k (by omega)).trans Hz.out
      have cf6 := own6.frozenAt k
      have hst := (own6.stored k (.int .i64 M)).1
      rw [show (icells (upToZ L k)).set k (.int .i64 M) = icells ((upToZ L k).set k M) from by simp [icells, List.map_set], Hset.out] at hst
      have Hst := Lib.hid hst
      have K6 := Lib.hid ((hb.trans (kY.mono hs)).setCell (p := ⟨X.heap.size, k, none⟩) (Nat.le_refl _) (.int .i64 M))
      clear own6 hst kY hb6
      go_wp2
      go_roundw
      case rel => exact ⟨k + 1, by omega, by go_num, Hst.out, K6.out⟩
      case measure => simp [intOf]; omega
    · have hkq : k = q.length := by omega
      subst hkq
      have hge : ¬ ((q.length : Int) < (q.length : Int)) := by omega
      rw [show upToZ L q.length = L by rw [← Hcl.out]; exact upToZ_all L] at hown
      have Hown := Lib.hid hown
      have Kz := Lib.hid (KX.out.trans (hb.mono KX.out.size))
      clear hown
      go_wp2_with fail
      refine (HFin.out _ _ _ (CRead.of_own Hown.out)).mono ?_
      rintro e w7 ⟨rfl, hb7⟩
      have K7 := Lib.hid (Kz.out.trans (hb7.mono Kz.out.size))
      go_wp2
      go_ret2
      exact ⟨rfl, K7.out⟩
end Go.Proofs.Ythpapkfpcijpoaa
/-
  TWO PARTIES BESIDE EACH OTHER, as lists and as tables.
-/
namespace Go.Proofs.Ythpapkfpcijpoaa
open Go.RowKit

def shifted (p : Int) (l : PL) : PL := l.map fun q => (q.1 + p, q.2 + p)
def besideP (p : Int) (l m : PL) : PL := l ++ shifted p m
theorem mem_shifted {p : Int} {l : PL} {q : Int × Int} : q ∈ shifted p l ↔ (q.1 - p, q.2 - p) ∈ l := by
  unfold shifted
  rw [List.mem_map]
  constructor
  · rintro ⟨r, hr, rfl⟩
    have e : (r.1 + p - p, r.2 + p - p) = r := Prod.ext (by simp) (by simp)
    rw [e]
    exact hr
  · intro h
    exact ⟨_, h, Prod.ext (by simp) (by simp)⟩
theorem beside_list {p s : Int} {l m : PL} (hl : isP p l = true) (hm : isP s m = true) (h : p + s ≤ 12) : IsList (p + s) (besideP p l m) := by
  obtain ⟨a0, a1, a2, a3⟩ := isP_list hl
  obtain ⟨b0, b1, b2, b3⟩ := isP_list hm
  refine ⟨by omega, h, fun q hq => ?_, ?_⟩
  · unfold besideP at hq
    rcases List.mem_append.1 hq with hq | hq
    · have := a2 q hq
      omega
    · have := b2 _ (mem_shifted.1 hq)
      simp only at this
      omega
  · unfold besideP
    rw [List.pairwise_append]
    refine ⟨a3, ?_, ?_⟩
    · unfold shifted
      rw [List.pairwise_map]
      exact b3.imp fun {x y} h => by unfold plt at *; simp only; omega
    · intro x hx y hy
      have h1 := a2 x hx
      have h2 := b2 _ (mem_shifted.1 hy)
      unfold plt
      simp only at h2
      omega
/-- the table of both: each one's own, and x between them -/
def joinT (p : Nat) (t t' : Nat → Nat → Bool) (x : Bool) : Nat → Nat → Bool := fun i j => if i < p then (if j < p then t i j else x) else if j < p then x else t' (i - p) (j - p)
theorem joinT_adj {p s : Nat} {l m : PL} (hl : isP p l = true) (hm : isP s m = true) {i j : Nat} (hij : i < j) : joinT p (adj l) (adj m) false i j = true ↔ ((i : Int), (j : Int)) ∈ besideP p l m := by
  have a2 := (isP_list hl).2.2.1
  have b2 := (isP_list hm).2.2.1
  unfold joinT besideP
  rw [List.mem_append, mem_shifted]
  by_cases hj : j < p
  · rw [if_pos (by omega), if_pos hj, adj_pair hl hij, List.contains_iff_mem]
    refine ⟨.inl, fun h => h.elim id fun h => ?_⟩
    have := b2 _ h
    simp only at this
    omega
  · have hn : ¬ ((i : Int), (j : Int)) ∈ l := fun h => by
      have := a2 _ h
      simp only at this
      omega
    by_cases hi : i < p
    · rw [if_pos hi, if_neg hj]
      refine ⟨fun h => (by cases h), fun h => ?_⟩
      rcases h with h | h
      · exact absurd h hn
      · have := b2 _ h
        simp only at this
        omega
    · rw [if_neg hi, if_neg hj, adj_pair hm (by omega), List.contains_iff_mem]
      have e1 : ((i - p : Nat) : Int) = (i : Int) - p := by omega
      have e2 : ((j - p : Nat) : Int) = (j : Int) - p := by omega
      rw [e1, e2]
      exact ⟨.inr, fun h => h.elim (fun h => absurd h hn) id⟩
theorem tabP_beside {p s : Nat} {l m : PL} (hl : isP p l = true) (hm : isP s m = true) (h : p + s ≤ 12) : tabP (p + s) (joinT p (adj l) (adj m) false) = besideP p l m := by
  have hb := beside_list hl hm (by omega)
  refine sorted_ext (filter_list h _).2.2.2 hb.2.2.2 fun q => ?_
  unfold tabP
  rw [List.mem_filter, mem_allP]
  constructor
  · rintro ⟨⟨h0, h1, h2⟩, ht⟩
    have e : q = (((q.1.toNat : Nat) : Int), ((q.2.toNat : Nat) : Int)) := Prod.ext (by simp; omega) (by simp; omega)
    rw [e]
    exact (joinT_adj hl hm (by omega)).1 ht
  · intro hq
    have h3 := hb.2.2.1 q hq
    have e : q = (((q.1.toNat : Nat) : Int), ((q.2.toNat : Nat) : Int)) := Prod.ext (by simp; omega) (by simp; omega)
    refine ⟨by omega, (joinT_adj hl hm (by omega)).2 ?_⟩
    rw [← e]
    exact hq
end Go.Proofs.Ythpapkfpcijpoaa
/-
  TWO PARTIES TOGETHER: all of the one friends of all of the other, as lists and as tables; a table of both in the middle of being filled.
-/
namespace Go.Proofs.Ythpapkfpcijpoaa
open Go.RowKit

theorem other_isP {n : Nat} {l : PL} (h : isP n l = true) : isP n (otherP n l) = true := by
  have h12 := (isP_range h).2
  exact filter_isP (by omega) _
theorem adj_other {n : Nat} {l : PL} (h : isP n l = true) {i j : Nat} (hij : i < j) (hj : j < n) : adj (otherP n l) i j = !adj l i j := by
  rw [adj_pair (other_isP h) hij, adj_pair h hij, Bool.eq_iff_iff, List.contains_iff_mem]
  unfold otherP
  rw [List.mem_filter, mem_allP]
  constructor
  · intro h; exact h.2
  · intro h; exact ⟨⟨by simp only; omega, by simp only; omega, by simp only; omega⟩, h⟩
def togetherP (p s : Nat) (l m : PL) : PL := otherP (p + s) (besideP p (otherP p l) (otherP s m))
theorem beside_isP {p s : Nat} {l m : PL} (hl : isP p l = true) (hm : isP s m = true) (h : p + s ≤ 12) : isP ((p + s : Nat) : Int) (besideP p l m) = true := by
  have := beside_list (p := p) (s := s) hl hm (by omega)
  have e : ((p + s : Nat) : Int) = (p : Int) + s := by omega
  rw [e]
  exact isP_of_list this
theorem tabP_together {p s : Nat} {l m : PL} (hl : isP p l = true) (hm : isP s m = true) (h : p + s ≤ 12) : tabP (p + s) (joinT p (adj l) (adj m) true) = togetherP p s l m := by
  have ho := other_isP hl
  have ho' := other_isP hm
  unfold togetherP
  rw [← tabP_other (beside_isP ho ho' h)]
  refine tabP_congr fun i j hij hj => ?_
  have hB := beside_isP ho ho' h
  rw [adj_pair hB hij]
  have e := joinT_adj ho ho' hij
  have e' : (besideP (p : Int) (otherP p l) (otherP s m)).contains ((i : Int), (j : Int)) = joinT p (adj (otherP p l)) (adj (otherP s m)) false i j := by
    rw [Bool.eq_iff_iff, List.contains_iff_mem, e]
  rw [e']
  unfold joinT
  by_cases hj' : j < p
  · rw [if_pos (show i < p by omega), if_pos hj', if_pos (show i < p by omega), if_pos hj', adj_other hl hij hj', Bool.not_not]
  · by_cases hi' : i < p
    · simp [hi', hj']
    · rw [if_neg hi', if_neg hj', if_neg hi', if_neg hj', adj_other hm (by omega) (by omega), Bool.not_not]

/-! ## The table of both, in the middle of being filled -/
/-- the first a rows of the one, its first p cells -/
def fillA (p : Nat) (t : Nat → Nat → Bool) (a : Nat) : Nat → Nat → Bool := fun i j => if i < a ∧ j < p then t i j else false
/-- the other one's too, its first a rows -/
def fillB (p : Nat) (t t' : Nat → Nat → Bool) (a : Nat) : Nat → Nat → Bool := fun i j => if i < p ∧ j < p then t i j else if p ≤ i ∧ i < p + a ∧ p ≤ j then t' (i - p) (j - p) else false
/-- what is between them: the first a rows, and of the next one up to b -/
def fillC (p : Nat) (t t' : Nat → Nat → Bool) (x : Bool) (a b : Nat) : Nat → Nat → Bool := fun i j =>
  if i < p ∧ j < p then t i j else if p ≤ i ∧ p ≤ j then t' (i - p) (j - p) else if i < p then (if i < a ∨ i = a ∧ j < b then x else false) else if j < a ∨ j = a ∧ i < b then x else false
theorem fillC_next (p : Nat) (t t' : Nat → Nat → Bool) (x : Bool) {a b : Nat} (ha : a < p) (hb : p ≤ b) : upd (upd (fillC p t t' x a b) a b x) b a x = fillC p t t' x a (b + 1) := by
  funext i j
  unfold upd fillC
  by_cases h1 : i = b ∧ j = a
  · obtain ⟨rfl, rfl⟩ := h1
    rw [if_pos ⟨rfl, rfl⟩, if_neg (by omega), if_neg (by omega), if_neg (by omega), if_pos (by omega)]
  · rw [if_neg h1]
    by_cases h2 : i = a ∧ j = b
    · obtain ⟨rfl, rfl⟩ := h2
      rw [if_pos ⟨rfl, rfl⟩, if_neg (by omega), if_neg (by omega), if_pos (by omega), if_pos (by omega)]
    · rw [if_neg h2]
      by_cases c1 : i < p ∧ j < p
      · rw [if_pos c1, if_pos c1]
      · rw [if_neg c1, if_neg c1]
        by_cases c2 : p ≤ i ∧ p ≤ j
        · rw [if_pos c2, if_pos c2]
        · rw [if_neg c2, if_neg c2]
          by_cases c3 : i < p
          · rw [if_pos c3, if_pos c3]
            have : (i < a ∨ i = a ∧ j < b) ↔ (i < a ∨ i = a ∧ j < b + 1) := by omega
            simp only [this]
          · rw [if_neg c3, if_neg c3]
            have : (j < a ∨ j = a ∧ i < b) ↔ (j < a ∨ j = a ∧ i < b + 1) := by omega
            simp only [this]
theorem fillC_row {n : Nat} (p : Nat) (t t' : Nat → Nat → Bool) (x : Bool) (a : Nat) : ∀ i j, i < n → j < n → fillC p t t' x a n i j = fillC p t t' x (a + 1) p i j := by
  intro i j hi hj
  unfold fillC
  by_cases c1 : i < p ∧ j < p
  · rw [if_pos c1, if_pos c1]
  · rw [if_neg c1, if_neg c1]
    by_cases c2 : p ≤ i ∧ p ≤ j
    · rw [if_pos c2, if_pos c2]
    · rw [if_neg c2, if_neg c2]
      by_cases c3 : i < p
      · rw [if_pos c3, if_pos c3]
        have : (i < a ∨ i = a ∧ j < n) ↔ (i < a + 1 ∨ i = a + 1 ∧ j < p) := by omega
        simp only [this]
      · rw [if_neg c3, if_neg c3]
        have : (j < a ∨ j = a ∧ i < n) ↔ (j < a + 1 ∨ j = a + 1 ∧ i < p) := by omega
        simp only [this]
theorem fillC_start {n : Nat} (p s : Nat) (t t' : Nat → Nat → Bool) (x : Bool) (hn : n = p + s) : ∀ i j, i < n → j < n → fillB p t t' s i j = fillC p t t' x 0 p i j := by
  intro i j hi hj
  unfold fillB fillC
  by_cases c1 : i < p ∧ j < p
  · rw [if_pos c1, if_pos c1]
  · rw [if_neg c1, if_neg c1]
    by_cases c2 : p ≤ i ∧ p ≤ j
    · rw [if_pos c2, if_pos (by omega)]
    · rw [if_neg c2, if_neg (by omega)]
      by_cases c3 : i < p
      · rw [if_pos c3, if_neg (by omega)]
      · rw [if_neg c3, if_neg (by omega)]
theorem fillC_all {n : Nat} (p : Nat) (t t' : Nat → Nat → Bool) (x : Bool) (b : Nat) : ∀ i j, i < n → j < n → fillC p t t' x p b i j = joinT p t t' x i j := by
  intro i j hi hj
  unfold fillC joinT
  by_cases c1 : i < p
  · by_cases c2 : j < p
    · simp [c1, c2]
    · rw [if_neg (by omega), if_neg (by omega), if_pos c1, if_pos (by omega), if_pos c1, if_neg c2]
  · by_cases c2 : j < p
    · rw [if_neg (by omega), if_neg (by omega), if_neg c1, if_pos (by omega), if_neg c1, if_pos c2]
    · rw [if_neg (by omega), if_pos (by omega), if_neg c1, if_neg c2]
theorem fillA_start (p : Nat) (t : Nat → Nat → Bool) : fillA p t 0 = fun _ _ => false := by funext i j; simp [fillA]
theorem fillB_start (p : Nat) (t t' : Nat → Nat → Bool) : fillB p t t' 0 = fillA p t p := by
  funext i j
  unfold fillB fillA
  by_cases c : i < p ∧ j < p
  · rw [if_pos c, if_pos c]
  · rw [if_neg c, if_neg c, if_neg (by omega)]
end Go.Proofs.Ythpapkfpcijpoaa
/-
  STRONG NUMBERS, in lists: the only number of common friends of friends, and of strangers.
-/
namespace Go.Proofs.Ythpapkfpcijpoaa
open Go.RowKit

theorem only_all {q : List Int} {x : Int} (h0 : x ∈ q) (h : ∀ y ∈ q, y = x) : onlyI q = (x, true) := by
  cases q with
  | nil => cases h0
  | cons z q =>
    have hz : z = x := h z List.mem_cons_self
    subst hz
    simp only [onlyI]
    rw [if_pos (List.all_eq_true.2 fun y hy => decide_eq_true (h y (List.mem_cons_of_mem _ hy)))]
theorem only_two {q : List Int} {x y : Int} (hx : x ∈ q) (hy : y ∈ q) (hne : x ≠ y) : onlyI q = (0, false) := by
  refine onlyI_no ?_
  cases e : (onlyI q).2 with
  | false => rfl
  | true =>
    exfalso
    cases q with
    | nil => cases hx
    | cons z q =>
      simp only [onlyI] at e
      by_cases h1 : (q.all fun y => decide (y = z)) = true
      · have hall : ∀ u ∈ z :: q, u = z := fun u hu => by
          rcases List.mem_cons.1 hu with rfl | hu
          · rfl
          · exact of_decide_eq_true (List.all_eq_true.1 h1 u hu)
        exact hne ((hall x hx).trans (hall y hy).symm)
      · rw [if_neg h1] at e; cases e
theorem mem_comQ {n : Nat} {l q : PL} (h : isP n q = true) (y : Int) : y ∈ comQ n l q ↔ ∃ a b : Nat, b < a ∧ a < n ∧ adj q a b = true ∧ y = (commonN n (adj l) a b : Int) := by
  unfold comQ
  rw [List.mem_map]
  constructor
  · rintro ⟨x, hx, rfl⟩
    have hg := (isP_list h).2.2.1 x hx
    obtain ⟨u, v⟩ := x
    simp only at hg
    obtain ⟨u, rfl⟩ : ∃ z : Nat, u = z := ⟨u.toNat, by omega⟩
    obtain ⟨v, rfl⟩ : ∃ z : Nat, v = z := ⟨v.toNat, by omega⟩
    refine ⟨v, u, by omega, by omega, ?_, ?_⟩
    · rw [adj_comm, adj_pair h (by omega), List.contains_iff_mem]; exact hx
    · simp only [Int.toNat_natCast]; rw [commonN_comm]
  · rintro ⟨a, b, hba, ha, hadj, rfl⟩
    refine ⟨((b : Int), (a : Int)), ?_, by simp only [Int.toNat_natCast]; rw [commonN_comm]⟩
    rw [adj_comm, adj_pair h hba, List.contains_iff_mem] at hadj
    exact hadj
def OnlyV (P : Nat → Nat → Prop) (v : Nat → Nat → Nat) (f : Int) : Prop := (f = -1 ∧ ∀ a b, ¬ P a b) ∨ ((∃ a b, P a b ∧ f = (v a b : Int)) ∧ ∀ a b, P a b → (v a b : Int) = f)
section
variable {P P' : Nat → Nat → Prop} {v : Nat → Nat → Nat} {f : Int}
theorem OnlyV.none (h : ∀ a b, ¬ P a b) : OnlyV P v (-1) := .inl ⟨rfl, h⟩
theorem OnlyV.skip (h : OnlyV P v f) (hP : ∀ a b, P' a b ↔ P a b) : OnlyV P' v f := by
  have : P' = P := funext fun a => funext fun b => propext (hP a b)
  rwa [this]
theorem OnlyV.add (h : OnlyV P v f) {x y : Nat} (hP : ∀ a b, P' a b ↔ P a b ∨ (a = x ∧ b = y)) (hf : f < 0 ∨ f = v x y) : OnlyV P' v (v x y : Int) := by
  refine .inr ⟨⟨x, y, (hP x y).2 (.inr ⟨rfl, rfl⟩), rfl⟩, fun a b hab => ?_⟩
  rcases (hP a b).1 hab with h1 | ⟨rfl, rfl⟩
  · rcases h with ⟨_, h2⟩ | ⟨⟨c, d, _, e⟩, h2⟩
    · exact absurd h1 (h2 a b)
    · have := h2 a b h1
      rcases hf with h3 | h3 <;> omega
  · rfl
theorem OnlyV.bad (h : OnlyV P v f) (h0 : 0 ≤ f) : ∃ a b, P a b ∧ f = (v a b : Int) := by
  rcases h with ⟨e, _⟩ | ⟨h1, _⟩
  · omega
  · exact h1
theorem OnlyV.neg (h : OnlyV P v f) (h0 : f < 0) : ∀ a b, ¬ P a b := by
  rcases h with ⟨_, h1⟩ | ⟨⟨a, b, _, e⟩, _⟩
  · exact h1
  · omega
theorem OnlyV.all (h : OnlyV P v f) (h0 : 0 ≤ f) : ∀ a b, P a b → (v a b : Int) = f := by
  rcases h with ⟨e, _⟩ | ⟨_, h1⟩
  · omega
  · exact h1
end
/-- the pairs looked at: all of those ahead of person k, and k's with those ahead of j -/
def doneP (k j a b : Nat) : Prop := b < a ∧ (a < k ∨ a = k ∧ b < j)
theorem doneP_next (k j : Nat) (hj : j < k) (a b : Nat) : doneP k (j + 1) a b ↔ doneP k j a b ∨ (a = k ∧ b = j) := by unfold doneP; omega
theorem doneP_row (k a b : Nat) : doneP (k + 1) 0 a b ↔ doneP k k a b := by unfold doneP; omega
def isF (l : PL) (r : Bool) (k j : Nat) : Nat → Nat → Prop := fun a b => doneP k j a b ∧ adj l a b = r
theorem isF_hit {l : PL} {r : Bool} {k j : Nat} (hj : j < k) (h : adj l k j = r) (a b : Nat) : isF l r k (j + 1) a b ↔ isF l r k j a b ∨ (a = k ∧ b = j) := by
  unfold isF
  rw [doneP_next k j hj]
  constructor
  · rintro ⟨h1 | h1, h2⟩
    · exact .inl ⟨h1, h2⟩
    · exact .inr h1
  · rintro (⟨h1, h2⟩ | ⟨rfl, rfl⟩)
    · exact ⟨.inl h1, h2⟩
    · exact ⟨.inr ⟨rfl, rfl⟩, h⟩
theorem isF_miss {l : PL} {r : Bool} {k j : Nat} (hj : j < k) (h : adj l k j = !r) (a b : Nat) : isF l r k (j + 1) a b ↔ isF l r k j a b := by
  unfold isF
  rw [doneP_next k j hj]
  constructor
  · rintro ⟨h1 | ⟨rfl, rfl⟩, h2⟩
    · exact ⟨h1, h2⟩
    · rw [h] at h2; cases r <;> cases h2
  · rintro ⟨h1, h2⟩
    exact ⟨.inl h1, h2⟩
theorem isF_row (l : PL) (r : Bool) (k a b : Nat) : isF l r (k + 1) 0 a b ↔ isF l r k k a b := by unfold isF; rw [doneP_row]
/-- the pairs of a relation among n: friends, or strangers -/
def relP (n : Nat) (l : PL) (r : Bool) : PL := if r then l else otherP n l
theorem mem_relP {n : Nat} {l : PL} (h : isP n l = true) (r : Bool) (y : Int) : y ∈ comQ n l (relP n l r) ↔ ∃ a b : Nat, b < a ∧ a < n ∧ adj l a b = r ∧ y = (commonN n (adj l) a b : Int) := by
  cases r with
  | true => exact mem_comQ h y
  | false =>
    rw [show relP n l false = otherP n l from rfl, mem_comQ (other_isP h)]
    constructor
    · rintro ⟨a, b, h1, h2, h3, h4⟩
      rw [adj_comm, adj_other h h1 h2, adj_comm] at h3
      exact ⟨a, b, h1, h2, by simpa using h3, h4⟩
    · rintro ⟨a, b, h1, h2, h3, h4⟩
      refine ⟨a, b, h1, h2, ?_, h4⟩
      rw [adj_comm, adj_other h h1 h2, adj_comm, h3]; rfl
theorem only_bad {n : Nat} {l : PL} (h : isP n l = true) {r : Bool} {k j : Nat} (hk : k < n) (hj : j < k) (hr : adj l k j = r) {f : Int} (hv : OnlyV (isF l r k j) (commonN n (adj l)) f) (h0 : 0 ≤ f) (hne : f ≠ (commonN n (adj l) k j : Int)) :
    (onlyI (comQ n l (relP n l r))).2 = false := by
  obtain ⟨a, b, ⟨⟨h1, h2⟩, h3⟩, e⟩ := hv.bad h0
  rw [only_two ((mem_relP h r _).2 ⟨a, b, h1, by omega, h3, e⟩) ((mem_relP h r _).2 ⟨k, j, hj, hk, hr, rfl⟩) hne]
theorem only_done {n : Nat} {l : PL} (h : isP n l = true) {r : Bool} {f : Int} (hv : OnlyV (isF l r n 0) (commonN n (adj l)) f) :
    onlyI (comQ n l (relP n l r)) = if f < 0 then (0, false) else (f, true) := by
  by_cases h0 : f < 0
  · rw [if_pos h0]
    have hn := hv.neg h0
    have he : comQ n l (relP n l r) = [] := by
      rw [List.eq_nil_iff_forall_not_mem]
      intro y hy
      obtain ⟨a, b, h1, h2, h3, _⟩ := (mem_relP h r y).1 hy
      exact hn a b ⟨⟨h1, .inl h2⟩, h3⟩
    rw [he]
    rfl
  · rw [if_neg h0]
    obtain ⟨a, b, ⟨⟨h1, h2⟩, h3⟩, e⟩ := hv.bad (by omega)
    refine only_all ((mem_relP h r _).2 ⟨a, b, h1, by omega, h3, e⟩) fun y hy => ?_
    obtain ⟨a, b, h1, h2, h3, rfl⟩ := (mem_relP h r y).1 hy
    exact hv.all (by omega) a b ⟨⟨h1, .inl h2⟩, h3⟩
/-- 'StrongNumbers' -/
def resStrongNumbers (p : Int) (l : PL) : List Int × Bool :=
  if isP p l && (onlyI (numsOf p.toNat l)).2 && (onlyI (comQ p.toNat l (relP p.toNat l true))).2 && (onlyI (comQ p.toNat l (relP p.toNat l false))).2 then
    ([p, (onlyI (numsOf p.toNat l)).1, (onlyI (comQ p.toNat l (relP p.toNat l true))).1, (onlyI (comQ p.toNat l (relP p.toNat l false))).1], true) else ([], false)
theorem resStrongNumbers_len (p : Int) (l : PL) : (resStrongNumbers p l).1.length ≤ 1048576 := by
  unfold resStrongNumbers
  split <;> simp
theorem own_built4 (w : World) (x y z u : Value) (e : TypeId) : (w.alloc (.cells #[x, y, z, u] e)).ownsRow w.heap.size e 1 (.slice (some ⟨w.heap.size, 0, none⟩) 4 4) 4 [x, y, z, u] :=
  ⟨by simp, .inr ⟨w.heap.size, 4, #[x, y, z, u], rfl, Nat.le_refl _, heap_alloc_new w _, Nat.le_refl _, by unfold maxLen; omega, rfl, by simp⟩⟩
end Go.Proofs.Ythpapkfpcijpoaa
/-
  'StrongNumbers': the model's, by its contracts.
-/
namespace Go.Proofs.Ythpapkfpcijpoaa
open Go.RowKit

set_option maxHeartbeats 4000000 in
set_option maxRecDepth 100000 in
theorem specStrongNumbers_any (p : Int) (l : PL) (A : Option Addr) (c : Nat) (w : World) (hl : l.length ≤ 1048576) (hA : CRead w w.heap.size A (pcells l)) :
    Calls Try.prog 34 #[.agg #[.int .i64 p, .slice A l.length c]] w (GotIntsOk w (resStrongNumbers p l).1 (resStrongNumbers p l).2) := by
  have hr : CRead (w.alloc (Obj.cells #[.int .i64 p, .slice A l.length c] 31)) (w.alloc (Obj.cells #[.int .i64 p, .slice A l.length c] 31)).heap.size A (pcells l) := (hA.below (B' := w.heap.size) (by go_grown) (Nat.le_refl _)).more (by go_size)
  cases hp : isP p l with
  | false =>
    have e : resStrongNumbers p l = ([], false) := by unfold resStrongNumbers; rw [hp]; rfl
    rw [e]
    have Hp := Lib.hid hp
    clear hp e
    go_enter Try.func34, Try.ntmps34
    go_wp2_with fail
    refine (paGood_any _ _ _ _ _ hl hr).mono ?_
    rw [Hp.out]
    rintro e w2 ⟨rfl, hb2⟩
    simp only [World.size_alloc] at hb2
    go_wp2
    go_ret2
    exact ⟨none, 0, rfl, World.ownsRow_nil _ _ _ _, Below.trans (b := _) (by go_grown) (hb2.mono (by omega))⟩
  | true =>
    have hn := isP_range hp
    obtain ⟨n, rfl⟩ : ∃ n : Nat, p = n := ⟨p.toNat, by omega⟩
    have hn12 : n ≤ 12 := by omega
    have hv : equalV (numsOf n l) = -1 ∧ onlyI (numsOf n l) = (0, false) ∨ 0 ≤ equalV (numsOf n l) ∧ onlyI (numsOf n l) = (equalV (numsOf n l), true) := by
      cases h2 : (onlyI (numsOf n l)).2 with
      | false => left; refine ⟨by unfold equalV; rw [h2]; rfl, onlyI_no h2⟩
      | true =>
        right
        have hm := numsOf_pos (onlyI_mem h2)
        have e1 : equalV (numsOf n l) = (onlyI (numsOf n l)).1 := by unfold equalV; rw [h2]; rfl
        rw [e1]
        exact ⟨hm, Prod.ext rfl h2⟩
    have call := fun (X : World) (hX : CRead X X.heap.size A (pcells l)) => cfEqual_any n l A c X hp hX
    rw [Int.toNat_natCast] at call
    have hres : resStrongNumbers n l = if (onlyI (numsOf n l)).2 && (onlyI (comQ n l (relP n l true))).2 && (onlyI (comQ n l (relP n l false))).2 then
        ([(n : Int), (onlyI (numsOf n l)).1, (onlyI (comQ n l (relP n l true))).1, (onlyI (comQ n l (relP n l false))).1], true) else ([], false) := by
      unfold resStrongNumbers; rw [hp, Int.toNat_natCast]; rfl
    obtain ⟨v, hvd⟩ : ∃ v, equalV (numsOf n l) = v := ⟨_, rfl⟩
    rw [hvd] at hv call
    obtain ⟨⟨RL, RB⟩, hR⟩ : ∃ r, resStrongNumbers n l = r := ⟨_, rfl⟩
    rw [hR]
    rw [hR] at hres
    have Call := Lib.hid call
    have Hp := Lib.hid hp
    clear call hp hvd hR
    rcases hv with ⟨rfl, e⟩ | ⟨hv0, e⟩
    · rw [e] at hres
      simp only [Bool.false_and, Bool.false_eq_true, if_false, Prod.mk.injEq] at hres
      obtain ⟨rfl, rfl⟩ := hres
      go_enter Try.func34, Try.ntmps34
      go_wp2_with fail
      refine (paGood_any _ _ _ _ _ hl hr).mono ?_
      rw [Hp.out]
      rintro e w2 ⟨rfl, hb2⟩
      have s2 := hb2.size
      have k2 : Below w.heap.size w w2 := Below.trans (b := _) (by go_grown) (hb2.mono (by simp))
      have c0 : w2.cell? ⟨w.heap.size, 0, none⟩ = some (.int .i64 n) := carry hb2 (by simp) (by simp)
      have c1 : w2.cell? ⟨w.heap.size, 1, none⟩ = some (.slice A l.length c) := carry hb2 (by simp) (by simp)
      simp only [World.size_alloc] at s2
      go_wp2_with fail
      refine (Call.out _ ((hA.below k2 (Nat.le_refl _)).more k2.size)).mono ?_
      rintro e w3 ⟨rfl, hb3⟩
      have k3 := k2.trans (hb3.mono k2.size)
      clear c0 c1
      go_wp2
      go_ret2
      exact ⟨none, 0, rfl, World.ownsRow_nil _ _ _ _, k3⟩
    · rw [e] at hres
      simp only [Bool.true_and] at hres
      have Hres := Lib.hid hres
      have hge : ¬ (v < 0) := by omega
      clear hres e
      go_enter Try.func34, Try.ntmps34
      go_wp2_with fail
      refine (paGood_any _ _ _ _ _ hl hr).mono ?_
      rw [Hp.out]
      rintro e w2 ⟨rfl, hb2⟩
      have s2 := hb2.size
      have k2 : Below w.heap.size w w2 := Below.trans (b := _) (by go_grown) (hb2.mono (by simp))
      have c0 : w2.cell? ⟨w.heap.size, 0, none⟩ = some (.int .i64 n) := carry hb2 (by simp) (by simp)
      have c1 : w2.cell? ⟨w.heap.size, 1, none⟩ = some (.slice A l.length c) := carry hb2 (by simp) (by simp)
      simp only [World.size_alloc] at s2
      go_wp2_with fail
      refine (Call.out _ ((hA.below k2 (Nat.le_refl _)).more k2.size)).mono ?_
      rintro e w3 ⟨rfl, hb3⟩
      have k3 := k2.trans (hb3.mono k2.size)
      have d0 : w3.cell? ⟨w.heap.size, 0, none⟩ = some (.int .i64 n) := carry hb3 c0 (by omega)
      have d1 : w3.cell? ⟨w.heap.size, 1, none⟩ = some (.slice A l.length c) := carry hb3 c1 (by omega)
      have s3 : w.heap.size < w3.heap.size := by have := hb3.size; omega
      clear c0 c1 s2 hr
      go_wp2_with fail
      refine (paTable_any _ _ _ _ _ Hp.out ((hA.below k3 (Nat.le_refl _)).more k3.size)).mono ?_
      rw [Int.toNat_natCast]
      rintro e w4 ⟨A4, c4, G, rfl, tab, hb4⟩
      have k4 := k3.trans (hb4.mono k3.size)
      have e0 : w4.cell? ⟨w.heap.size, 0, none⟩ = some (.int .i64 n) := carry hb4 d0 s3
      have e1 : w4.cell? ⟨w.heap.size, 1, none⟩ = some (.slice A l.length c) := carry hb4 d1 s3
      have s4 : w.heap.size < w4.heap.size := by have := hb4.size; omega
      have Tab := Lib.hid tab
      have K4 := Lib.hid k4
      clear tab hb2 hb3 hb4 k2 k3 k4 d0 d1
      go_wp2
      go_loopw [5, 6, 22] (fun fv sv i wr => ∃ (k : Nat) (f s : Int), k ≤ n ∧ i = .int .i64 k ∧ fv = .int .i64 f ∧ sv = .int .i64 s ∧ OnlyV (isF l true k 0) (commonN n (adj l)) f ∧ OnlyV (isF l false k 0) (commonN n (adj l)) s ∧ Below w4.heap.size w4 wr) (fun _ _ i _ => n - (intOf i).toNat)
      case atStart => exact ⟨0, -1, -1, Nat.zero_le _, rfl, rfl, rfl, OnlyV.none (fun a b h => by have := h.1; unfold doneP at this; omega), OnlyV.none (fun a b h => by have := h.1; unfold doneP at this; omega), Below.refl _ _⟩
      case round =>
        obtain ⟨k, f, s, hk, rfl, rfl, rfl, hf, hs, hb⟩ := hrel
        have Hf := Lib.hid hf
        have Hs := Lib.hid hs
        clear hf hs
        by_cases hlt : k < n
        · have hki : (k : Int) < (n : Int) := by omega
          go_wp2
          go_loopw [5, 6, 8] (fun fv sv i wr => ∃ (j : Nat) (f s : Int), j ≤ k ∧ i = .int .i64 j ∧ fv = .int .i64 f ∧ sv = .int .i64 s ∧ OnlyV (isF l true k j) (commonN n (adj l)) f ∧ OnlyV (isF l false k j) (commonN n (adj l)) s ∧ Below w4.heap.size w4 wr) (fun _ _ i _ => k - (intOf i).toNat)
          case atStart => exact ⟨0, f, s, Nat.zero_le _, rfl, rfl, rfl, Hf.out, Hs.out, hb⟩
          case round =>
            clear Hf Hs hb
            obtain ⟨j, f, s, hj, rfl, rfl, rfl, hf, hs, hb⟩ := hrel
            have Hf := Lib.hid hf
            have Hs := Lib.hid hs
            clear hf hs
            have sb := hb.size
            by_cases hlt2 : j < k
            · have hji : (j : Int) < (k : Int) := by omega
              have tb := Tab.out.below hb (Nat.le_refl _)
              have call := cfCommon_any n k j (adj l) A4 c4 G _ wr hn12 hlt (by omega) tb
              rw [commonL_len] at call
              obtain ⟨M, hM⟩ : ∃ M, commonN n (adj l) k j = M := ⟨_, rfl⟩
              rw [hM] at call
              have HM := Lib.hid hM
              have Call2 := Lib.hid call
              clear call hM tb
              obtain ⟨g4, rfl⟩ := own_form Tab.out.own (by omega)
              go_wp2_with fail
              refine Call2.out.mono ?_
              rintro e w5 ⟨A5, c5, rfl, _, hb5⟩
              have K5 := hb.trans (hb5.mono sb)
              have tb5 := Tab.out.below K5 (Nat.le_refl _)
              have o5 := tb5.outer hlt
              have x5 := tb5.cell hlt (show j < n by omega)
              cases hadj : adj l k j with
              | true =>
                rw [hadj] at x5
                by_cases hbad : 0 ≤ f ∧ f ≠ (M : Int)
                · have hno := only_bad Hp.out hlt hlt2 hadj Hf.out hbad.1 (by rw [HM.out]; exact hbad.2)
                  have hres := Hres.out
                  rw [hno] at hres
                  simp only [Bool.false_and, Bool.false_eq_true, if_false, Prod.mk.injEq] at hres
                  obtain ⟨rfl, rfl⟩ := hres
                  obtain ⟨h0, hne⟩ := hbad
                  have hne2 : (f != (M : Int)) = true := by simpa using hne
                  have Kz := Lib.hid (K4.out.trans (K5.mono K4.out.size))
                  clear K5 tb5 hb hb5
                  go_wp2
                  go_ret2
                  exact ⟨none, 0, rfl, World.ownsRow_nil _ _ _ _, Kz.out⟩
                · have Hf2 := Lib.hid (by have h := Hf.out.add (isF_hit hlt2 hadj) (by rw [HM.out]; omega); rw [HM.out] at h; exact h : OnlyV (isF l true k (j + 1)) (commonN n (adj l)) (M : Int))
                  have Hs2 := Lib.hid (Hs.out.skip (isF_miss (r := false) hlt2 (by rw [hadj]; rfl)))
                  have HK5 := Lib.hid K5
                  by_cases h0 : 0 ≤ f
                  · obtain rfl : f = (M : Int) := by omega
                    clear Hf Hs K5 tb5 hb hb5
                    go_wp2
                    go_roundw
                    case rel => exact ⟨j + 1, M, s, by omega, by go_num, rfl, rfl, Hf2.out, Hs2.out, HK5.out⟩
                    case measure => simp [intOf]; omega
                  · have hneg : ¬ (0 ≤ f) := h0
                    clear Hf Hs K5 tb5 hb hb5
                    go_wp2
                    go_roundw
                    case rel => exact ⟨j + 1, M, s, by omega, by go_num, rfl, rfl, Hf2.out, Hs2.out, HK5.out⟩
                    case measure => simp [intOf]; omega
              | false =>
                rw [hadj] at x5
                by_cases hbad : 0 ≤ s ∧ s ≠ (M : Int)
                · have hno := only_bad Hp.out hlt hlt2 hadj Hs.out hbad.1 (by rw [HM.out]; exact hbad.2)
                  have hres := Hres.out
                  rw [hno] at hres
                  simp only [Bool.and_false, Bool.false_eq_true, if_false, Prod.mk.injEq] at hres
                  obtain ⟨rfl, rfl⟩ := hres
                  obtain ⟨h0, hne⟩ := hbad
                  have hne2 : (s != (M : Int)) = true := by simpa using hne
                  have Kz := Lib.hid (K4.out.trans (K5.mono K4.out.size))
                  clear K5 tb5 hb hb5
                  go_wp2
                  go_ret2
                  exact ⟨none, 0, rfl, World.ownsRow_nil _ _ _ _, Kz.out⟩
                · have Hs2 := Lib.hid (by have h := Hs.out.add (isF_hit hlt2 hadj) (by rw [HM.out]; omega); rw [HM.out] at h; exact h : OnlyV (isF l false k (j + 1)) (commonN n (adj l)) (M : Int))
                  have Hf2 := Lib.hid (Hf.out.skip (isF_miss (r := true) hlt2 (by rw [hadj]; rfl)))
                  have HK5 := Lib.hid K5
                  by_cases h0 : 0 ≤ s
                  · obtain rfl : s = (M : Int) := by omega
                    clear Hf Hs K5 tb5 hb hb5
                    go_wp2
                    go_roundw
                    case rel => exact ⟨j + 1, f, M, by omega, by go_num, rfl, rfl, Hf2.out, Hs2.out, HK5.out⟩
                    case measure => simp [intOf]; omega
                  · have hneg : ¬ (0 ≤ s) := h0
                    clear Hf Hs K5 tb5 hb hb5
                    go_wp2
                    go_roundw
                    case rel => exact ⟨j + 1, f, M, by omega, by go_num, rfl, rfl, Hf2.out, Hs2.out, HK5.out⟩
                    case measure => simp [intOf]; omega
            · have hjk : j = k := by omega
              subst hjk
              have hge : ¬ ((j : Int) < (j : Int)) := by omega
              have Hf2 := Lib.hid (Hf.out.skip (isF_row l true j))
              have Hs2 := Lib.hid (Hs.out.skip (isF_row l false j))
              clear Hf Hs
              go_wp2
              go_roundw
              case rel => exact ⟨j + 1, f, s, by omega, by go_num, rfl, rfl, Hf2.out, Hs2.out, hb⟩
              case measure => simp [intOf]; omega
        · have hkl : k = n := by omega
          subst hkl
          have hge : ¬ ((k : Int) < (k : Int)) := by omega
          have hF := only_done Hp.out Hf.out
          have hS := only_done Hp.out Hs.out
          have hres := Hres.out
          rw [hF, hS] at hres
          have kk := K4.out.trans (hb.mono K4.out.size)
          have y0 : wr.cell? ⟨w.heap.size, 0, none⟩ = some (.int .i64 k) := carry hb e0 s4
          have y1 : wr.cell? ⟨w.heap.size, 1, none⟩ = some (.slice A l.length c) := carry hb e1 s4
          by_cases hf0 : f < 0
          · rw [if_pos hf0] at hres
            simp only [Bool.false_and, Bool.false_eq_true, if_false, Prod.mk.injEq] at hres
            obtain ⟨rfl, rfl⟩ := hres
            have Kz := Lib.hid kk
            clear kk hF hS hb
            go_wp2
            go_ret2
            exact ⟨none, 0, rfl, World.ownsRow_nil _ _ _ _, Kz.out⟩
          · rw [if_neg hf0] at hres
            by_cases hs0 : s < 0
            · rw [if_pos hs0] at hres
              simp only [Bool.and_false, Bool.false_eq_true, if_false, Prod.mk.injEq] at hres
              obtain ⟨rfl, rfl⟩ := hres
              have Kz := Lib.hid kk
              clear kk hF hS hb
              go_wp2
              go_ret2
              exact ⟨none, 0, rfl, World.ownsRow_nil _ _ _ _, Kz.out⟩
            · rw [if_neg hs0] at hres
              simp only [Bool.and_true, if_true, Prod.mk.injEq] at hres
              obtain ⟨rfl, rfl⟩ := hres
              have hr2 := (hA.below kk.drew (Nat.le_refl _)).more kk.drew.size
              have sk := kk.size
              have sy : w.heap.size < wr.heap.size := by have := hb.size; omega
              clear hF hS hb e0 e1
              go_wp2_with fail
              go_region_law (first
                | (go_simp; go_at_call 75; refine (Call.out wr.drew hr2).mono ?_; rintro e w6 ⟨rfl, hb6⟩; have kY : Below wr.heap.size wr w6 := (Below.refl _ _).drew.trans hb6; have z0 : w6.cell? ⟨w.heap.size, 0, none⟩ = some (.int .i64 k) := carry kY y0 sy; have z1 : w6.cell? ⟨w.heap.size, 1, none⟩ = some (.slice A l.length c) := carry kY y1 sy)
                | fail)
              all_goals
                have KY := Lib.hid (kk.trans (kY.mono sk))
                clear z0 z1 kY hb6
                go_wp2
                go_ret2
                exact ⟨some ⟨w6.heap.size, 0, none⟩, 4, rfl, own_lower (own_built4 w6 _ _ _ _ _) KY.out.size, KY.out.alloc KY.out.size _⟩
end Go.Proofs.Ythpapkfpcijpoaa
/-
  LISTS OF NUMBERS OF FRIENDS AS PLAIN LISTS: what numbers are; sorted so that they are falling; sums; where they fail. Nothing here speaks of the program.
-/
namespace Go.Proofs.Ythpapkfpcijpoaa

def isNums (q : List Int) : Bool := decide (q.length ≤ 12) && q.all fun x => decide (0 ≤ x ∧ x < q.length)
theorem isNums_len {q : List Int} (h : isNums q = true) : q.length ≤ 12 := by
  simp only [isNums, Bool.and_eq_true, decide_eq_true_eq] at h
  exact h.1
theorem isNums_mem {q : List Int} (h : isNums q = true) : ∀ x ∈ q, 0 ≤ x ∧ x < q.length := by
  simp only [isNums, Bool.and_eq_true, List.all_eq_true, decide_eq_true_eq] at h
  exact h.2
theorem isNums_at {q : List Int} (h : isNums q = true) {k : Nat} {x : Int} (hx : q[k]? = some x) : 0 ≤ x ∧ x < q.length := isNums_mem h x (List.mem_of_getElem? hx)
theorem isNums_of {q : List Int} (h : q.length ≤ 12) (h2 : ∀ (k : Nat) (x : Int), k < q.length → q[k]? = some x → 0 ≤ x ∧ x < q.length) : isNums q = true := by
  simp only [isNums, Bool.and_eq_true, List.all_eq_true, decide_eq_true_eq]
  refine ⟨h, fun x hx => ?_⟩
  obtain ⟨i, hi, rfl⟩ := List.getElem_of_mem hx
  exact h2 i _ hi (List.getElem?_eq_getElem hi)
theorem isNums_bad {q : List Int} {k : Nat} {x : Int} (hx : q[k]? = some x) (h : ¬ (0 ≤ x ∧ x < q.length)) : isNums q = false := by
  cases he : isNums q with
  | false => rfl
  | true => exact absurd (isNums_at he hx) h
theorem isNums_many {q : List Int} (h : 12 < q.length) : isNums q = false := by
  cases he : isNums q with
  | false => rfl
  | true => have := isNums_len he; omega

/-! ## Falling -/
def fall (q : List Int) : List Int := q.mergeSort fun x y => decide (y ≤ x)
theorem fall_perm (q : List Int) : (fall q).Perm q := List.mergeSort_perm _ _
theorem fall_length (q : List Int) : (fall q).length = q.length := (fall_perm q).length_eq
theorem fall_mem {q : List Int} {x : Int} : x ∈ fall q ↔ x ∈ q := (fall_perm q).mem_iff
theorem fall_sorted (q : List Int) : (fall q).Pairwise fun x y => y ≤ x := by
  have h := List.pairwise_mergeSort (le := fun x y : Int => decide (y ≤ x)) (by intro a b c; simp; omega) (by intro a b; simp; omega) q
  exact h.imp (by simp)
theorem fall_unique {l q : List Int} (hs : l.Pairwise fun x y => y ≤ x) (hp : l.Perm q) : l = fall q :=
  List.Perm.eq_of_pairwise (le := fun x y : Int => y ≤ x) (fun a b _ _ h1 h2 => by omega) hs (fall_sorted q) (hp.trans (fall_perm q).symm)
theorem fall_nums {q : List Int} (h : isNums q = true) : isNums (fall q) = true := by
  refine isNums_of (by rw [fall_length]; exact isNums_len h) fun k x _ hx => ?_
  have := isNums_mem h x (fall_mem.1 (List.mem_of_getElem? hx))
  rw [fall_length]
  exact this

/-- the numbers from n down, j of them, each as often as it is in the list -/
def blockI (q : List Int) (x : Int) : List Int := q.filter fun y => decide (x = y)
def descI (q : List Int) (n j : Nat) : List Int := (List.range j).flatMap fun i : Nat => blockI q ((n : Int) - (i : Int))
theorem descI_zero (q : List Int) (n : Nat) : descI q n 0 = [] := rfl
theorem descI_next (q : List Int) (n j : Nat) : descI q n (j + 1) = descI q n j ++ blockI q ((n : Int) - j) := by
  unfold descI
  rw [List.range_succ, List.flatMap_append]
  simp
theorem blockI_snoc (q : List Int) (x y : Int) : blockI (q ++ [y]) x = blockI q x ++ if x = y then [y] else [] := by
  unfold blockI
  rw [List.filter_append]
  congr 1
  by_cases h : x = y
  · rw [if_pos h, List.filter_cons_of_pos (by simpa using h)]; rfl
  · rw [if_neg h, List.filter_cons_of_neg (by simpa using h)]; rfl
theorem mem_blockI {q : List Int} {x y : Int} : y ∈ blockI q x ↔ y ∈ q ∧ x = y := by simp [blockI]
theorem mem_descI {q : List Int} {n j : Nat} {y : Int} : y ∈ descI q n j ↔ y ∈ q ∧ (n : Int) - j < y ∧ y ≤ n := by
  simp only [descI, List.mem_flatMap, List.mem_range, mem_blockI]
  constructor
  · rintro ⟨i, hi, hy, rfl⟩; exact ⟨hy, by omega, by omega⟩
  · rintro ⟨hy, h1, h2⟩; exact ⟨((n : Int) - y).toNat, by omega, hy, by omega⟩
theorem descI_sorted (q : List Int) (n j : Nat) : (descI q n j).Pairwise fun x y => y ≤ x := by
  induction j with
  | zero => exact List.Pairwise.nil
  | succ j ih =>
    rw [descI_next, List.pairwise_append]
    refine ⟨ih, ?_, fun a ha b hb => ?_⟩
    · rw [List.pairwise_iff_getElem]
      intro a b ha hb _
      have h1 := (mem_blockI.1 (List.getElem_mem ha)).2
      have h2 := (mem_blockI.1 (List.getElem_mem hb)).2
      omega
    · have h1 := mem_descI.1 ha
      have h2 := (mem_blockI.1 hb).2
      omega
theorem count_blockI (q : List Int) (x y : Int) : (blockI q x).count y = if x = y then q.count y else 0 := by
  unfold blockI
  by_cases h : x = y
  · subst h
    rw [if_pos rfl, List.count_filter (by simp)]
  · rw [if_neg h, List.count_eq_zero]
    intro hm
    exact h (by simpa using (List.mem_filter.1 hm).2)
theorem count_descI (q : List Int) (n j : Nat) (y : Int) : (descI q n j).count y = if (n : Int) - j < y ∧ y ≤ n then q.count y else 0 := by
  induction j with
  | zero => rw [descI_zero, if_neg (by omega)]; rfl
  | succ j ih =>
    rw [descI_next, List.count_append, ih, count_blockI]
    by_cases h1 : (n : Int) - j = y
    · rw [if_pos h1, if_neg (by omega), if_pos (by omega), Nat.zero_add]
    · rw [if_neg h1, Nat.add_zero]
      by_cases h2 : (n : Int) - j < y ∧ y ≤ n
      · rw [if_pos h2, if_pos (by omega)]
      · rw [if_neg h2, if_neg (by omega)]
theorem descI_fall {q : List Int} (h : isNums q = true) : descI q q.length (q.length + 1) = fall q := by
  refine fall_unique (descI_sorted _ _ _) (List.perm_iff_count.2 fun y => ?_)
  rw [count_descI]
  split
  · rfl
  · rename_i hn
    symm
    rw [List.count_eq_zero]
    intro hy
    have := isNums_mem h y hy
    omega
theorem descI_le (q : List Int) (n j : Nat) : (descI q n j).length ≤ j * q.length := by
  induction j with
  | zero => simp [descI_zero]
  | succ j ih =>
    rw [descI_next, List.length_append, Nat.add_mul, Nat.one_mul]
    have : (blockI q ((n : Int) - j)).length ≤ q.length := List.length_filter_le _ _
    omega
theorem blockI_le (q : List Int) (x : Int) : (blockI q x).length ≤ q.length := List.length_filter_le _ _

/-! ## Sums -/
def sumI (q : List Int) : Int := q.foldl (· + ·) 0
theorem sumI_snoc (q : List Int) (x : Int) : sumI (q ++ [x]) = sumI q + x := by simp [sumI, List.foldl_append]
theorem sumI_nil : sumI [] = 0 := rfl
/-- a bound of the sum of a beginning -/
theorem sumI_take_bound {q : List Int} {m : Int} (hm : 0 ≤ m) (h : ∀ x ∈ q, 0 ≤ x ∧ x ≤ m) : ∀ k, 0 ≤ sumI (q.take k) ∧ sumI (q.take k) ≤ k * m := by
  intro k
  induction k with
  | zero => simp [sumI_nil]
  | succ k ih =>
    rw [List.take_add_one]
    have e : ((k + 1 : Nat) : Int) * m = k * m + m := by rw [Int.natCast_add, Int.add_mul]; simp
    rw [e]
    cases hx : q[k]? with
    | none => simp; omega
    | some x =>
      have := h x (List.mem_of_getElem? hx)
      rw [Option.toList_some, sumI_snoc]
      omega
theorem sumI_perm {q l : List Int} (h : q.Perm l) : sumI q = sumI l := by
  unfold sumI
  exact h.foldl_eq' (fun x _ y _ z => by omega) 0

/-! ## Where numbers fail -/
def minsI (k : Int) (q : List Int) : List Int := q.map fun x => if k < x then k else x
theorem minsI_snoc (k : Int) (q : List Int) (x : Int) : minsI k (q ++ [x]) = minsI k q ++ [if k < x then k else x] := by simp [minsI]
def mostI (s : List Int) (k : Nat) : Int := (k : Int) * (k - 1) + sumI (minsI k (s.drop k))
def failAt (s : List Int) (k : Nat) : Bool := decide (mostI s k < sumI (s.take k))
def failsI (s : List Int) : Int := match (List.range s.length).find? fun i => failAt s (i + 1) with | none => 0 | some i => (i : Int) + 1
theorem failsI_at {s : List Int} {k : Nat} (hk : k < s.length) (h : ∀ j, j < k → failAt s (j + 1) = false) (hf : failAt s (k + 1) = true) : failsI s = k + 1 := by
  have : (List.range s.length).find? (fun i => failAt s (i + 1)) = some k := by
    rw [List.find?_range_eq_some]
    exact ⟨hf, by simpa using hk, fun j hj => by simp [h j hj]⟩
  unfold failsI
  rw [this]
theorem failsI_none {s : List Int} (h : ∀ j, j < s.length → failAt s (j + 1) = false) : failsI s = 0 := by
  have : (List.range s.length).find? (fun i => failAt s (i + 1)) = none := by
    rw [List.find?_range_eq_none]
    intro j hj
    simp [h j hj]
  unfold failsI
  rw [this]
theorem failsI_range (s : List Int) : 0 ≤ failsI s ∧ failsI s ≤ s.length := by
  unfold failsI
  split
  · omega
  · rename_i i hi
    have := List.mem_of_find?_eq_some hi
    rw [List.mem_range] at this
    omega
theorem minsI_bound {s : List Int} {m k : Int} (hk : 0 ≤ k) (h : ∀ x ∈ s, 0 ≤ x ∧ x ≤ m) : ∀ x ∈ minsI k s, 0 ≤ x ∧ x ≤ m := by
  intro x hx
  obtain ⟨y, hy, rfl⟩ := List.mem_map.1 hx
  have := h y hy
  split <;> omega
/-- they can be -/
def canI (q : List Int) : Bool := decide (sumI q % 2 = 0) && decide (failsI (fall q) = 0)
end Go.Proofs.Ythpapkfpcijpoaa
