/-
  Texts put together for the claims of 'DoesFit' (pack 5): People, First, Parts, Are, FitP, ClueS, Threes, ThreesAt, GrLook, Nums, NumsW, NumsT.
-/
import Derived.Test.YtefkcfkicmfhlaaDoorDoesFitP1
import Derived.Test.YtefkcfkicmfhlaaDoorDoesFitP2
import Derived.Test.YtefkcfkicmfhlaaDoorDoesFitP3
import Derived.Test.YtefkcfkicmfhlaaDoorDoesFitP4
import Derived.BigQuiet
import Derived.Deep.RegionLaw
import Derived.Deep.AppendLies
/-
  THE PARTS OF A PARTY: 'impl.allPeople' and 'impl.firstOnes', by their contracts.
-/
namespace Go.Proofs.YtefkcfkicmfhlaaDoor
open Go.RowKit

/-- 0, 1, .. below k, and 0 from there on -/
def pplTo (n k : Nat) : List Int := (List.range n).map fun j => if j < k then (j : Int) else 0
def people (n : Nat) : List Int := pplTo n n
theorem pplTo_length (n k : Nat) : (pplTo n k).length = n := by simp [pplTo]
theorem pplTo_at {n k j : Nat} (h : j < n) : (pplTo n k)[j]? = some (if j < k then (j : Int) else 0) := by simp [pplTo, h]
theorem pplTo_zero (n : Nat) : pplTo n 0 = List.replicate n 0 := by
  apply List.ext_getElem (by simp [pplTo])
  intro j h1 h2
  simp [pplTo]
theorem pplTo_set (n k : Nat) : (pplTo n k).set k (k : Int) = pplTo n (k + 1) := by
  apply List.ext_getElem (by simp [pplTo])
  intro j h1 h2
  rw [List.getElem_set]
  by_cases h : k = j
  · subst h; simp [pplTo]
  · rw [if_neg h]
    simp only [pplTo, List.getElem_map, List.getElem_range]
    by_cases h3 : j < k
    · rw [if_pos h3, if_pos (by omega)]
    · rw [if_neg h3, if_neg (by omega)]
theorem people_at {n j : Nat} (h : j < n) : (people n)[j]? = some (j : Int) := by unfold people; rw [pplTo_at h, if_pos h]
theorem people_length (n : Nat) : (people n).length = n := pplTo_length n n

set_option maxHeartbeats 1000000 in
set_option maxRecDepth 100000 in
theorem allPeople_any (n : Nat) (v : Value) (w : World) (hn : n ≤ 12) :
    Calls Tryd.prog 192 #[.agg #[.int .i64 n, v]] w fun e w' => ∃ g, e = .returned (.slice (some ⟨g, 0, none⟩) n n) ∧ w'.ownsRow w.heap.size 3 1 (.slice (some ⟨g, 0, none⟩) n n) n (icells (people n)) ∧ Below w.heap.size w w' := by
  obtain ⟨i0, hi, hz0, hz1, hz2⟩ := info_parts Tryd.infoInt
  go_enter Tryd.func192, Tryd.ntmps192
  go_wp2_with (at_make; refine wpList_make_full _ rfl _ _ 64 rfl w.heap.size 3 i0 _ 1 Tryd.underlying64 hi hz0 hz1 _ _ _ _ n rfl rfl (by omega) (by omega) (by rw [hz2]; omega) (by unfold maxLen; omega) (by go_size) ?_; intro w1 hown1 hgr1; have hb1 : Below (w.heap.size + 1) (w.alloc (Obj.cells #[.int .i64 (n : Int), v] 34)) w1 := below_of_gb hgr1 (by go_size))
  rw [show Value.cells (.int .i64 0) = #[.int .i64 0] from rfl, made_ints] at hown1
  have hl1 := own_lt hown1
  have hs1 := hb1.size
  simp only [World.size_alloc] at hown1 hl1 hs1
  go_loopw [10] (fun i wr => ∃ k : Nat, k ≤ n ∧ i = .int .i64 k ∧ wr.ownsRow w.heap.size 3 1 (.slice (some ⟨w.heap.size + 1, 0, none⟩) n n) n (icells (pplTo n k)) ∧ Below (w.heap.size + 1) (w.alloc (Obj.cells #[.int .i64 (n : Int), v] 34)) wr) (fun i _ => n - (intOf i).toNat)
  case atStart => exact ⟨0, Nat.zero_le _, rfl, by rw [pplTo_zero]; exact hown1, hb1⟩
  case round =>
    obtain ⟨k, hk, rfl, hown, hb⟩ := hrel
    have hs := hb.size
    simp only [World.size_alloc] at hs
    have hbw : Below w.heap.size w wr := Below.trans (b := _) (by go_grown) (hb.mono (by omega))
    by_cases hlt : k < n
    · have d0 := own_intAt hown (pplTo_at hlt)
      have d1 := hown.frozenAt k
      have d2 := own_setInt hown k (k : Int)
      rw [pplTo_set] at d2
      have Hd2 := Lib.hid d2
      have hki : (k : Int) < (n : Int) := by omega
      clear hown d2
      go_wp2
      go_roundw
      case rel => exact ⟨k + 1, by omega, by go_num, Hd2.out, hb.setCell (p := ⟨w.heap.size + 1, k, none⟩) (by simp) _⟩
      case measure => simp [intOf]; omega
    · have hkl : k = n := by omega
      have hge : ¬ ((k : Int) < (n : Int)) := by omega
      have Hkl := Lib.hid hkl
      have Hown := Lib.hid hown
      clear hkl hown
      go_wp2
      go_ret
      refine ⟨_, rfl, ?_, hbw⟩
      have h := Hown.out
      rw [Hkl.out] at h
      exact h
/-- the first k of a list, hi turned into lo -/
def relTo (acc : List Int) (hi lo : Int) (k : Nat) : List Int := acc.mapIdx fun j f => if j < k ∧ f = hi then lo else f
theorem relTo_length (acc : List Int) (hi lo : Int) (k : Nat) : (relTo acc hi lo k).length = acc.length := by simp [relTo]
theorem relTo_zero (acc : List Int) (hi lo : Int) : relTo acc hi lo 0 = acc := by
  apply List.ext_getElem (by simp [relTo])
  intro j h1 h2
  simp [relTo]
theorem relTo_at {acc : List Int} {k : Nat} {f : Int} (hi lo : Int) (h : acc[k]? = some f) : (relTo acc hi lo k)[k]? = some f := by
  unfold relTo
  rw [List.getElem?_mapIdx, h]
  simp
theorem relTo_hit {acc : List Int} {k : Nat} {hi lo : Int} (h : acc[k]? = some hi) : (relTo acc hi lo k).set k lo = relTo acc hi lo (k + 1) := by
  have hk := (List.getElem?_eq_some_iff.1 h)
  apply List.ext_getElem (by simp [relTo])
  intro j h1 h2
  rw [List.getElem_set]
  simp only [relTo, List.getElem_mapIdx]
  by_cases e : k = j
  · subst e
    rw [if_pos rfl, if_pos ⟨by omega, hk.2⟩]
  · rw [if_neg e]
    by_cases h3 : j < k
    · simp only [h3, true_and, show j < k + 1 by omega]
    · rw [if_neg (by omega), if_neg (by omega)]
theorem relTo_miss {acc : List Int} {k : Nat} {f hi lo : Int} (h : acc[k]? = some f) (hne : f ≠ hi) : relTo acc hi lo k = relTo acc hi lo (k + 1) := by
  have hk := (List.getElem?_eq_some_iff.1 h)
  apply List.ext_getElem (by simp [relTo])
  intro j h1 h2
  simp only [relTo, List.getElem_mapIdx]
  by_cases e : k = j
  · subst e
    rw [if_neg (by omega), if_neg (fun x => hne (hk.2 ▸ x.2))]
  · by_cases h3 : j < k
    · simp only [h3, true_and, show j < k + 1 by omega]
    · rw [if_neg (by omega), if_neg (by omega)]
/-- a pair makes one part of two: the greater first one becomes the less -/
def joinI (acc : List Int) (q : Int × Int) : List Int := relTo acc (max (acc.getD q.1.toNat 0) (acc.getD q.2.toNat 0)) (min (acc.getD q.1.toNat 0) (acc.getD q.2.toNat 0)) acc.length
def firstI (n : Nat) (l : PL) : List Int := l.foldl joinI (people n)
theorem firstI_snoc (n : Nat) (l : PL) (q : Int × Int) : firstI n (l ++ [q]) = joinI (firstI n l) q := by simp [firstI, List.foldl_append]
theorem firstI_length (n : Nat) (l : PL) : (firstI n l).length = n := by
  unfold firstI
  suffices h : ∀ (l : PL) (acc : List Int), acc.length = n → (l.foldl joinI acc).length = n from h l _ (people_length n)
  intro l
  induction l with
  | nil => intro acc h; exact h
  | cons q l ih => intro acc h; exact ih _ (by rw [joinI, relTo_length, h])
theorem joinI_at {acc : List Int} {n a b : Nat} {x y : Int} (hn : acc.length = n) (hx : acc[a]? = some x) (hy : acc[b]? = some y) : joinI acc (a, b) = relTo acc (max x y) (min x y) n := by
  simp [joinI, List.getD_eq_getElem?_getD, hx, hy, hn]

set_option maxHeartbeats 4000000 in
set_option maxRecDepth 100000 in
theorem firstOnes_any (p : Int) (l : PL) (A : Option Addr) (c : Nat) (w : World) (hp : isP p l = true) (hA : CRead w w.heap.size A (pcells l)) :
    Calls Tryd.prog 171 #[.agg #[.int .i64 p, .slice A l.length c]] w fun e w' => ∃ g, e = .returned (.slice (some ⟨g, 0, none⟩) p.toNat p.toNat) ∧ w'.ownsRow w.heap.size 3 1 (.slice (some ⟨g, 0, none⟩) p.toNat p.toNat) p.toNat (icells (firstI p.toNat l)) ∧ Below w.heap.size w w' := by
  obtain ⟨n, rfl⟩ : ∃ n : Nat, p = n := ⟨p.toNat, by have := isP_range hp; omega⟩
  have hn := isP_range hp
  have hlen : l.length ≤ 66 := by have h1 := isP_length hp; have h2 := people_sq hn.1 hn.2; omega
  simp only [Int.toNat_natCast]
  have Hp := Lib.hid hp
  clear hp
  generalize hW : w.alloc (Obj.cells #[.int .i64 (n : Int), .slice A l.length c] 34) = W
  have a0 : W.cell? ⟨w.heap.size, 0, none⟩ = some (.int .i64 n) := by rw [← hW]; simp
  have a1 : W.cell? ⟨w.heap.size, 1, none⟩ = some (.slice A l.length c) := by rw [← hW]; simp
  have kW : Below w.heap.size w W := by rw [← hW]; go_grown
  have sW1 : w.heap.size < W.heap.size := by rw [← hW]; simp
  have HW := Lib.hid hW
  clear hW
  go_enter Tryd.func171, Tryd.ntmps171
  go_wp2_with fail
  rw [HW.out]
  refine (allPeople_any n (.slice A l.length c) _ (by omega)).mono ?_
  rintro e w1 ⟨g, rfl, own1, hb1⟩
  have a2 := carry hb1 a0 sW1
  have a3 := carry hb1 a1 sW1
  have hgl := (own_lt own1)
  go_wp2_with fail
  have hgW := hgl.1
  clear hgl a2 a3
  go_loopw [15] (fun i wr => ∃ k : Nat, k ≤ l.length ∧ i = .int .i64 k ∧ wr.ownsRow W.heap.size 3 1 (.slice (some ⟨g, 0, none⟩) n n) n (icells (firstI n (l.take k))) ∧ Below W.heap.size W wr) (fun i _ => l.length - (intOf i).toNat)
  case atStart => exact ⟨0, Nat.zero_le _, rfl, own1, hb1⟩
  case round =>
    clear own1 hb1
    obtain ⟨wo, rfl⟩ : ∃ wo, wo = wr := ⟨wr, rfl⟩
    obtain ⟨k, hk, rfl, hown, hb⟩ := hrel
    have kX : Below w.heap.size w wo := kW.trans (hb.mono kW.size)
    have hgo := (own_lt hown).2
    by_cases hlt : k < l.length
    · obtain ⟨⟨x, y⟩, hx⟩ := getSome l k hlt
      obtain ⟨h0, h1, h2⟩ := goodAt_pair (isP_good Hp.out hlt) hx
      obtain ⟨a, rfl⟩ : ∃ a : Nat, x = a := ⟨x.toNat, by omega⟩
      obtain ⟨b, rfl⟩ : ∃ b : Nat, y = b := ⟨y.toNat, by omega⟩
      obtain ⟨bb, off, rfl, hbb, c0, c1⟩ := (hA.below kX (Nat.le_refl _)).pair hx
      have hfl := firstI_length n (l.take k)
      obtain ⟨u, hu⟩ := getSome (firstI n (l.take k)) a (by omega)
      obtain ⟨v, hv⟩ := getSome (firstI n (l.take k)) b (by omega)
      have hsn := joinI_at hfl hu hv
      have Hsn := Lib.hid (show firstI n (l.take (k + 1)) = relTo (firstI n (l.take k)) (max u v) (min u v) n by rw [List.take_add_one, hx, Option.toList_some, firstI_snoc, hsn])
      have hki : (k : Int) < (l.length : Int) := by omega
      have ha : (a : Int) < n := by omega
      have hb' : (b : Int) < n := h2
      clear hsn hx
      go_wp2_with fail
      generalize hX : wo.alloc (Obj.cells #[.int .i64 (a : Int), .int .i64 (b : Int)] 98) = X
      have kWX : Below wo.heap.size wo X := by rw [← hX]; go_grown
      have m0 : X.cell? ⟨wo.heap.size, 0, none⟩ = some (.int .i64 a) := by rw [← hX]; simp
      have m1 : X.cell? ⟨wo.heap.size, 1, none⟩ = some (.int .i64 b) := by rw [← hX]; simp
      have ownX := own_below hown kWX (Nat.le_refl _)
      have d0 := own_intAt ownX hu
      have d1 := own_intAt ownX hv
      have hbX := hb.trans (kWX.mono hb.size)
      clear hX c0 c1 hown hu hv
      generalize firstI n (l.take k) = acc at *
      obtain ⟨hi, hhi⟩ : ∃ hi, max u v = hi := ⟨_, rfl⟩
      obtain ⟨lo, hlo⟩ : ∃ lo, min u v = lo := ⟨_, rfl⟩
      rw [hhi, hlo] at Hsn
      go_quiet (fail)
      first | rw [show (if v < u then v else u) = lo by rw [← hlo]; split <;> omega] | skip
      go_wp2_with fail
      go_quiet (fail)
      first | rw [show (if u < v then v else u) = hi by rw [← hhi]; split <;> omega] | skip
      clear hlo hhi
      go_wp2_with fail
      clear m0 m1 d0 d1
      have own0 := ownX
      rw [← relTo_zero acc hi lo] at own0
      clear ownX
      go_loopw [43] (fun i wr => ∃ j : Nat, j ≤ n ∧ i = .int .i64 j ∧ wr.ownsRow W.heap.size 3 1 (.slice (some ⟨g, 0, none⟩) n n) n (icells (relTo acc hi lo j)) ∧ Below W.heap.size W wr) (fun i _ => n - (intOf i).toNat)
      case atStart => exact ⟨0, Nat.zero_le _, rfl, own0, ⟨hbX.os, hbX.tape, hbX.output, hbX.size, hbX.block⟩⟩
      case round =>
        clear own0 hbX
        obtain ⟨j, hj, rfl, hown, hb2⟩ := hrel
        by_cases hlt2 : j < n
        · obtain ⟨f, hf⟩ := getSome acc j (by omega)
          have d0 := own_intAt hown (relTo_at hi lo hf)
          have d1 := hown.frozenAt j
          have hji : (j : Int) < (n : Int) := by omega
          by_cases hfh : f = hi
          · subst hfh
            have d2 := own_setInt hown j lo
            rw [relTo_hit hf] at d2
            have Hd2 := Lib.hid d2
            clear d2 hown hf
            go_wp2
            go_roundw
            case rel => exact ⟨j + 1, by omega, by go_num, Hd2.out, hb2.setCell (p := ⟨g, j, none⟩) hgW _⟩
            case measure => simp [intOf]; omega
          · have hne : (f == hi) = false := by simp [hfh]
            rw [relTo_miss hf hfh] at hown
            have Hd2 := Lib.hid hown
            clear hown hf
            go_wp2
            go_roundw
            case rel => exact ⟨j + 1, by omega, by go_num, Hd2.out, hb2⟩
            case measure => simp [intOf]; omega
        · have hjn : j = n := by omega
          have hge : ¬ ((j : Int) < (n : Int)) := by omega
          rw [hjn, ← Hsn.out] at hown
          have Hd2 := Lib.hid hown
          clear hown hjn
          go_wp2
          go_roundw
          case rel => exact ⟨k + 1, by omega, by go_num, Hd2.out, hb2⟩
          case measure => simp [intOf]; omega
    · have hkl : k = l.length := by omega
      subst hkl
      have hge : ¬ ((l.length : Int) < l.length) := by omega
      rw [List.take_length] at hown
      go_wp2
      go_ret
      exact ⟨g, rfl, own_lower hown kW.size, kX⟩
end Go.Proofs.YtefkcfkicmfhlaaDoor
/-
  THE PARTS OF A PARTY, pure: the label that 'firstOnes' gives to each person tells its part.
-/
namespace Go.Proofs.YtefkcfkicmfhlaaDoor
open Go.RowKit

theorem snocRec {α : Type} {P : List α → Prop} (nil : P []) (append_singleton : ∀ l r, P l → P (l ++ [r])) (l : List α) : P l := by
  have h : ∀ m : List α, P m.reverse := by
    intro m
    induction m with
    | nil => exact nil
    | cons a m ih => rw [List.reverse_cons]; exact append_singleton _ _ ih
  have := h l.reverse
  rwa [List.reverse_reverse] at this
/-- the label of a person -/
def lab (n : Nat) (l : PL) (c : Nat) : Int := (firstI n l).getD c 0
theorem lab_nil {n c : Nat} (hc : c < n) : lab n [] c = c := by
  unfold lab
  rw [List.getD_eq_getElem?_getD, show firstI n [] = people n from rfl, people_at hc]
  rfl
theorem lab_snoc {n c : Nat} (l : PL) (q : Int × Int) (hc : c < n) :
    lab n (l ++ [q]) c = if lab n l c = max (lab n l q.1.toNat) (lab n l q.2.toNat) then min (lab n l q.1.toNat) (lab n l q.2.toNat) else lab n l c := by
  have hl : c < (firstI n l).length := by rw [firstI_length]; exact hc
  unfold lab
  rw [firstI_snoc, joinI]
  generalize max ((firstI n l).getD q.1.toNat 0) ((firstI n l).getD q.2.toNat 0) = hi
  generalize min ((firstI n l).getD q.1.toNat 0) ((firstI n l).getD q.2.toNat 0) = lo
  simp only [List.getD_eq_getElem?_getD, relTo, List.getElem?_mapIdx, List.getElem?_eq_getElem hl, Option.map_some, Option.getD_some, hl, true_and]
/-- a pair's two people have one label -/
theorem lab_pair {n : Nat} {l : PL} (h : ∀ q ∈ l, q.1.toNat < n ∧ q.2.toNat < n) : ∀ q ∈ l, lab n l q.1.toNat = lab n l q.2.toNat := by
  induction l using snocRec with
  | nil => intro q hq; cases hq
  | append_singleton l r ih =>
    intro q hq
    have hqn := h q hq
    rw [lab_snoc l r hqn.1, lab_snoc l r hqn.2]
    rcases List.mem_append.1 hq with hm | hm
    · rw [ih (fun s hs => h s (by simp [hs])) q hm]
    · have e : q = r := by simpa using hm
      subst e
      generalize lab n l q.1.toNat = x
      generalize lab n l q.2.toNat = y
      by_cases hxy : x ≤ y
      · by_cases h2 : x = y
        · rw [h2]
        · rw [if_neg (by omega), if_pos (by omega)]; omega
      · rw [if_pos (by omega), if_neg (by omega)]; omega
/-- the label of a person is one of its part, not later than it, and its own label -/
theorem lab_own {n : Nat} {l : PL} (h : ∀ q ∈ l, q.1.toNat < n ∧ q.2.toNat < n) : ∀ c, c < n → 0 ≤ lab n l c ∧ lab n l c ≤ c ∧ lab n l (lab n l c).toNat = lab n l c := by
  induction l using snocRec with
  | nil =>
    intro c hc
    rw [lab_nil hc]
    simp only [Int.toNat_natCast]
    exact ⟨by omega, by omega, lab_nil hc⟩
  | append_singleton l r ih =>
    have ih := ih (fun s hs => h s (by simp [hs]))
    have hr := h r (by simp)
    intro c hc
    have i1 := ih c hc
    have i2 := ih _ hr.1
    have i3 := ih _ hr.2
    rw [lab_snoc l r hc]
    have hm : ∀ m : Int, 0 ≤ m → m < n → lab n l m.toNat = m → lab n (l ++ [r]) m.toNat = if m = max (lab n l r.1.toNat) (lab n l r.2.toNat) then min (lab n l r.1.toNat) (lab n l r.2.toNat) else m := fun m h0 h1 he => by
      rw [lab_snoc l r (by omega), he]
    generalize lab n l c = f at *
    generalize lab n l r.1.toNat = x at *
    generalize lab n l r.2.toNat = y at *
    by_cases hf : f = max x y
    · rw [if_pos hf]
      have hlo : lab n l (min x y).toNat = min x y := by
        rcases Int.le_total x y with e | e
        · rw [Int.min_eq_left e]; exact i2.2.2
        · rw [Int.min_eq_right e]; exact i3.2.2
      refine ⟨by omega, by omega, ?_⟩
      rw [hm _ (by omega) (by omega) hlo]
      split <;> rfl
    · rw [if_neg hf]
      refine ⟨i1.1, i1.2.1, ?_⟩
      rw [hm _ i1.1 (by omega) i1.2.2, if_neg hf]
/-- a set that no pair leaves holds with a person all of its label -/
theorem lab_closed {n : Nat} {l : PL} {S : Nat → Prop} (h : ∀ q ∈ l, q.1.toNat < n ∧ q.2.toNat < n) (hS : ∀ q ∈ l, S q.1.toNat ↔ S q.2.toNat) : ∀ a c, a < n → c < n → lab n l a = lab n l c → (S a ↔ S c) := by
  induction l using snocRec with
  | nil =>
    intro a c ha hc e
    rw [lab_nil ha, lab_nil hc] at e
    rw [show a = c by omega]
  | append_singleton l r ih =>
    have ih := ih (fun s hs => h s (by simp [hs])) (fun s hs => hS s (by simp [hs]))
    have hr := h r (by simp)
    have hs := hS r (by simp)
    intro a c ha hc e
    rw [lab_snoc l r ha, lab_snoc l r hc] at e
    have k1 := ih a _ ha hr.1
    have k2 := ih a _ ha hr.2
    have k3 := ih c _ hc hr.1
    have k4 := ih c _ hc hr.2
    have k5 := ih a c ha hc
    generalize lab n l a = f at *
    generalize lab n l c = g at *
    generalize lab n l r.1.toNat = x at *
    generalize lab n l r.2.toNat = y at *
    by_cases hfg : f = g
    · exact k5 hfg
    · by_cases h1 : f = max x y
      · have h2 : g = min x y := by
          rw [if_pos h1] at e
          split at e <;> omega
        rcases Int.le_total x y with e2 | e2
        · rw [k2 (by omega), k3 (by omega), hs]
        · rw [k1 (by omega), k4 (by omega), hs]
      · rw [if_neg h1] at e
        have h2 : g = max x y := by
          split at e
          · assumption
          · exact absurd e hfg
        have h3 : f = min x y := by rw [if_pos h2] at e; exact e
        rcases Int.le_total x y with e2 | e2
        · rw [k1 (by omega), k4 (by omega), hs]
        · rw [k2 (by omega), k3 (by omega), hs]
end Go.Proofs.YtefkcfkicmfhlaaDoor
/-
  THE PARTS OF A PARTY, pure: the first ones and the rows of their parts, person by person.
-/
namespace Go.Proofs.YtefkcfkicmfhlaaDoor
open Go.RowKit

/-- the people below a that are the first ones of their parts -/
def reps (f : Nat → Int) (a : Nat) : List Nat := (List.range a).filter fun r => f r == r
/-- the people below a whose first one is r -/
def rowOf (f : Nat → Int) (a r : Nat) : List Int := ((List.range a).filter fun (c : Nat) => f c == (r : Int)).map fun (c : Nat) => (c : Int)
/-- the parts, each in order, in the order of their first ones -/
def partsI (f : Nat → Int) (n : Nat) : List (List Int) := (reps f n).map (rowOf f n)
def resPartsOfParty (p : Int) (l : PL) : List (List Int) × Bool := if isP p l then (partsI (lab p.toNat l) p.toNat, true) else ([], false)
theorem reps_zero (f : Nat → Int) : reps f 0 = [] := rfl
theorem reps_new {f : Nat → Int} {a : Nat} (h : f a = a) : reps f (a + 1) = reps f a ++ [a] := by
  simp [reps, List.range_succ, List.filter_append, h]
theorem reps_old {f : Nat → Int} {a : Nat} (h : f a ≠ a) : reps f (a + 1) = reps f a := by
  simp [reps, List.range_succ, List.filter_append, h]
theorem rowOf_zero (f : Nat → Int) (r : Nat) : rowOf f 0 r = [] := rfl
theorem rowOf_hit {f : Nat → Int} {a r : Nat} (h : f a = r) : rowOf f (a + 1) r = rowOf f a r ++ [(a : Int)] := by
  simp [rowOf, List.range_succ, List.filter_append, h]
theorem rowOf_miss {f : Nat → Int} {a r : Nat} (h : f a ≠ r) : rowOf f (a + 1) r = rowOf f a r := by
  simp [rowOf, List.range_succ, List.filter_append, h]
theorem rowOf_none {f : Nat → Int} {a r : Nat} (h : ∀ c, c < a → f c ≠ r) : rowOf f a r = [] := by
  unfold rowOf
  rw [List.filter_eq_nil_iff.2 fun c hc => by
    have := h c (List.mem_range.1 hc)
    simpa using this]
  rfl
theorem mem_reps {f : Nat → Int} {a r : Nat} : r ∈ reps f a ↔ r < a ∧ f r = r := by simp [reps]
theorem reps_length_le (f : Nat → Int) (a : Nat) : (reps f a).length ≤ a := by
  have h := List.length_filter_le (fun r => f r == (r : Int)) (List.range a)
  rw [List.length_range] at h
  exact h
theorem rowOf_length_le (f : Nat → Int) (a r : Nat) : (rowOf f a r).length ≤ a := by
  have h := List.length_filter_le (fun c => f c == (r : Int)) (List.range a)
  rw [List.length_range] at h
  rw [rowOf, List.length_map]
  exact h
theorem reps_lt (f : Nat → Int) (a : Nat) : (reps f a).Pairwise (· < ·) := List.Pairwise.filter _ List.pairwise_lt_range
theorem partsI_length (f : Nat → Int) (n : Nat) : (partsI f n).length = (reps f n).length := by simp [partsI]
/-- at a new first one: the rows so far, and a row of it alone -/
theorem parts_new {f : Nat → Int} {a j r : Nat} (h : f a = a) (hj : (reps f a)[j]? = some r) : rowOf f (a + 1) r = rowOf f a r := by
  have hm := mem_reps.1 (List.mem_of_getElem? hj)
  exact rowOf_miss fun e => by rw [h] at e; omega
theorem parts_own {f : Nat → Int} {a : Nat} (h : f a = a) (hle : ∀ c, c < a → f c ≤ c) : rowOf f (a + 1) a = [(a : Int)] := by
  rw [rowOf_hit h, rowOf_none fun c hc e => by have := hle c hc; omega]
  rfl
/-- at another person: the row of its first one grows, the others stand -/
theorem parts_old {f : Nat → Int} {a j k r s : Nat} (hj : (reps f a)[j]? = some r) (hf : f a = r) (hk : (reps f a)[k]? = some s) (hkj : k ≠ j) : rowOf f (a + 1) s = rowOf f a s := by
  refine rowOf_miss fun e => hkj ?_
  have hrs : r = s := by rw [hf] at e; omega
  subst hrs
  have h1 := (List.getElem?_eq_some_iff.1 hj)
  have h2 := (List.getElem?_eq_some_iff.1 hk)
  have h3 := List.pairwise_iff_getElem.1 (reps_lt f a)
  rcases Nat.lt_trichotomy k j with e1 | e1 | e1
  · have h4 := h3 k j h2.1 h1.1 e1
    rw [h2.2, h1.2] at h4
    omega
  · exact e1
  · have h4 := h3 j k h1.1 h2.1 e1
    rw [h2.2, h1.2] at h4
    omega
end Go.Proofs.YtefkcfkicmfhlaaDoor
/-
  'AreFriends': the model's and the program's, by their contracts.
-/
namespace Go.Proofs.YtefkcfkicmfhlaaDoor
open Go.RowKit

def areF (l : PL) (a b : Int) : Bool := l.contains (min a b, max a b)
def resAreFriends (p : Int) (l : PL) (a b : Int) : Bool × Bool := if isTwo p l a b then (areF l a b, true) else (false, false)
theorem adj_areF {n : Nat} {l : PL} (h : isP n l = true) {i j : Nat} (hij : i ≠ j) : adj l i j = areF l i j := by
  unfold areF
  rcases Nat.lt_or_gt_of_ne hij with h1 | h1
  · rw [adj_pair h h1, Int.min_eq_left (by omega), Int.max_eq_right (by omega)]
  · rw [adj_comm, adj_pair h h1, Int.min_eq_right (by omega), Int.max_eq_left (by omega)]

end Go.Proofs.YtefkcfkicmfhlaaDoor
/-
  A PARTY FITS A CLUE (pure): the clue that it fits instead.
-/
namespace Go.Proofs.YtefkcfkicmfhlaaDoor
open Go.RowKit

def threesN (p : Int) (l : PL) : Nat := (groupsL p.toNat l 3).length
def partsN (p : Int) (l : PL) : Nat := (partsI (lab p.toNat l) p.toNat).length
/-- the clue that a party fits instead of one -/
def fitV (p : Int) (l : PL) (k a b : Int) : CT :=
  if k = 0 ∨ k = 1 then ((if l.contains (a, b) then 0 else 1), a, b)
  else if k = 2 then (2, a, (numsOf p.toNat l).getD a.toNat 0)
  else if k = 3 then (3, (l.length : Int), b)
  else if k = 4 then (4, (threesN p l : Int), b)
  else if k = 5 then (5, (partsN p l : Int), b)
  else (k, a, b)
def fitB (p : Int) (l : PL) (c : CT) : Bool := decide (fitV p l c.1 c.2.1 c.2.2 = c)
def resDoesFit (k a b p : Int) (l : PL) : Bool × Bool := if isP p l && (isGuests p && isCB p (k, a, b)) then (fitB p l (k, a, b), true) else (false, false)
theorem partsN_le (n : Nat) (l : PL) : partsN n l ≤ n := by
  unfold partsN
  rw [Int.toNat_natCast, partsI_length]
  unfold reps
  exact Nat.le_trans (List.length_filter_le _ _) (by simp)
theorem isCB_two {n k a b : Int} (h : isCB n (k, a, b) = true) (hk : k = 0 ∨ k = 1) : 0 ≤ a ∧ a < b ∧ b < n := by
  unfold isCB l1InB at h
  simp only [hk, if_true, Bool.and_eq_true, decide_eq_true_eq] at h
  omega
theorem isCB_num {n a b : Int} (h : isCB n (2, a, b) = true) : 0 ≤ a ∧ a < n ∧ 0 ≤ b ∧ b < n := by
  unfold isCB l1InB at h
  simp at h
  omega
theorem isCB_kind {n k a b : Int} (h : isCB n (k, a, b) = true) : k = 0 ∨ k = 1 ∨ k = 2 ∨ k = 3 ∨ k = 4 ∨ k = 5 := by
  by_cases hk0 : k = 0
  · exact .inl hk0
  by_cases hk1 : k = 1
  · exact .inr (.inl hk1)
  by_cases hk2 : k = 2
  · exact .inr (.inr (.inl hk2))
  by_cases hk3 : k = 3
  · exact .inr (.inr (.inr (.inl hk3)))
  by_cases hk4 : k = 4
  · exact .inr (.inr (.inr (.inr (.inl hk4))))
  by_cases hk5 : k = 5
  · exact .inr (.inr (.inr (.inr (.inr hk5))))
  · exfalso
    unfold isCB at h
    simp [hk0, hk1, hk2, hk3, hk4, hk5] at h
theorem fitB_0 {p : Int} {l : PL} {a b : Int} : fitB p l (0, a, b) = l.contains (a, b) := by
  unfold fitB fitV
  cases l.contains (a, b) <;> simp
theorem fitB_1 {p : Int} {l : PL} {a b : Int} : fitB p l (1, a, b) = !l.contains (a, b) := by
  unfold fitB fitV
  cases l.contains (a, b) <;> simp
theorem fitB_2 {p : Int} {l : PL} {a b : Int} : fitB p l (2, a, b) = ((numsOf p.toNat l).getD a.toNat 0 == b) := by
  unfold fitB fitV
  rw [Bool.eq_iff_iff]
  simp
theorem fitB_3 {p : Int} {l : PL} {a b : Int} : fitB p l (3, a, b) = ((l.length : Int) == a) := by
  unfold fitB fitV
  rw [Bool.eq_iff_iff]
  simp
theorem fitB_4 {p : Int} {l : PL} {a b : Int} : fitB p l (4, a, b) = ((threesN p l : Int) == a) := by
  unfold fitB fitV
  rw [Bool.eq_iff_iff]
  simp
theorem fitB_5 {p : Int} {l : PL} {a b : Int} : fitB p l (5, a, b) = ((partsN p l : Int) == a) := by
  unfold fitB fitV
  rw [Bool.eq_iff_iff]
  simp
end Go.Proofs.YtefkcfkicmfhlaaDoor
/-
  WHAT A CLUE, A PUZZLE IS: the model's functions, by their contracts.
-/
namespace Go.Proofs.YtefkcfkicmfhlaaDoor
open Go.RowKit

set_option maxHeartbeats 400000 in
theorem pzPeople_any (n : Int) (w : World) : Calls Tryd.prog 64 #[.int .i64 n] w fun e w' => e = .returned (.bool (isGuests n)) ∧ w = w' := by
  go_enter Tryd.func64, Tryd.ntmps64
  go_wp2_with (go_at_call 91; refine (l1In_any _ _ _ _).mono ?_; rintro e w' ⟨rfl, rfl⟩)
  go_ret
  exact ⟨rfl, rfl⟩

set_option maxHeartbeats 4000000 in
set_option maxRecDepth 100000 in
theorem pzClue_any (n k a b : Int) (h1 : 1 ≤ n) (h5 : n ≤ 5) (w : World) :
    Calls Tryd.prog 65 #[.int .i64 n, .agg #[.int .i64 k, .int .i64 a, .int .i64 b]] w fun e w' => e = .returned (.bool (isCB n (k, a, b))) ∧ Below w.heap.size w w' := by
  by_cases hk0 : k = 0
  · subst hk0
    by_cases ha : 0 ≤ a ∧ a ≤ n - 1
    · by_cases hb : a + 1 ≤ b ∧ b ≤ n - 1
      · rw [show isCB n (0, a, b) = true from by unfold isCB l1InB; simp; omega]
        go_enter Tryd.func65, Tryd.ntmps65
        go_wp2_with fail
        refine (l1In_yes a (0) (n - 1) (by omega) (by omega) _).mono ?_
        rintro e w' ⟨rfl, rfl⟩
        go_wp2_with fail
        refine (l1In_yes b (a + 1) (n - 1) (by omega) (by omega) _).mono ?_
        rintro e w' ⟨rfl, rfl⟩
        go_wp2
        go_ret
        exact ⟨rfl, by go_grown⟩
      · rw [show isCB n (0, a, b) = false from by unfold isCB l1InB; simp; omega]
        go_enter Tryd.func65, Tryd.ntmps65
        go_wp2_with fail
        refine (l1In_yes a (0) (n - 1) (by omega) (by omega) _).mono ?_
        rintro e w' ⟨rfl, rfl⟩
        go_wp2_with fail
        refine (l1In_no b (a + 1) (n - 1) (by omega) _).mono ?_
        rintro e w' ⟨rfl, rfl⟩
        go_wp2
        go_ret
        exact ⟨rfl, by go_grown⟩
    · rw [show isCB n (0, a, b) = false from by unfold isCB l1InB; simp; omega]
      go_enter Tryd.func65, Tryd.ntmps65
      go_wp2_with fail
      refine (l1In_no a (0) (n - 1) (by omega) _).mono ?_
      rintro e w' ⟨rfl, rfl⟩
      go_wp2
      go_ret
      exact ⟨rfl, by go_grown⟩
  by_cases hk1 : k = 1
  · subst hk1
    by_cases ha : 0 ≤ a ∧ a ≤ n - 1
    · by_cases hb : a + 1 ≤ b ∧ b ≤ n - 1
      · rw [show isCB n (1, a, b) = true from by unfold isCB l1InB; simp; omega]
        go_enter Tryd.func65, Tryd.ntmps65
        go_wp2_with fail
        refine (l1In_yes a (0) (n - 1) (by omega) (by omega) _).mono ?_
        rintro e w' ⟨rfl, rfl⟩
        go_wp2_with fail
        refine (l1In_yes b (a + 1) (n - 1) (by omega) (by omega) _).mono ?_
        rintro e w' ⟨rfl, rfl⟩
        go_wp2
        go_ret
        exact ⟨rfl, by go_grown⟩
      · rw [show isCB n (1, a, b) = false from by unfold isCB l1InB; simp; omega]
        go_enter Tryd.func65, Tryd.ntmps65
        go_wp2_with fail
        refine (l1In_yes a (0) (n - 1) (by omega) (by omega) _).mono ?_
        rintro e w' ⟨rfl, rfl⟩
        go_wp2_with fail
        refine (l1In_no b (a + 1) (n - 1) (by omega) _).mono ?_
        rintro e w' ⟨rfl, rfl⟩
        go_wp2
        go_ret
        exact ⟨rfl, by go_grown⟩
    · rw [show isCB n (1, a, b) = false from by unfold isCB l1InB; simp; omega]
      go_enter Tryd.func65, Tryd.ntmps65
      go_wp2_with fail
      refine (l1In_no a (0) (n - 1) (by omega) _).mono ?_
      rintro e w' ⟨rfl, rfl⟩
      go_wp2
      go_ret
      exact ⟨rfl, by go_grown⟩
  by_cases hk2 : k = 2
  · subst hk2
    by_cases ha : 0 ≤ a ∧ a ≤ n - 1
    · by_cases hb : 0 ≤ b ∧ b ≤ n - 1
      · rw [show isCB n (2, a, b) = true from by unfold isCB l1InB; simp; omega]
        go_enter Tryd.func65, Tryd.ntmps65
        go_wp2_with fail
        refine (l1In_yes a (0) (n - 1) (by omega) (by omega) _).mono ?_
        rintro e w' ⟨rfl, rfl⟩
        go_wp2_with fail
        refine (l1In_yes b (0) (n - 1) (by omega) (by omega) _).mono ?_
        rintro e w' ⟨rfl, rfl⟩
        go_wp2
        go_ret
        exact ⟨rfl, by go_grown⟩
      · rw [show isCB n (2, a, b) = false from by unfold isCB l1InB; simp; omega]
        go_enter Tryd.func65, Tryd.ntmps65
        go_wp2_with fail
        refine (l1In_yes a (0) (n - 1) (by omega) (by omega) _).mono ?_
        rintro e w' ⟨rfl, rfl⟩
        go_wp2_with fail
        refine (l1In_no b (0) (n - 1) (by omega) _).mono ?_
        rintro e w' ⟨rfl, rfl⟩
        go_wp2
        go_ret
        exact ⟨rfl, by go_grown⟩
    · rw [show isCB n (2, a, b) = false from by unfold isCB l1InB; simp; omega]
      go_enter Tryd.func65, Tryd.ntmps65
      go_wp2_with fail
      refine (l1In_no a (0) (n - 1) (by omega) _).mono ?_
      rintro e w' ⟨rfl, rfl⟩
      go_wp2
      go_ret
      exact ⟨rfl, by go_grown⟩
  by_cases hk3 : k = 3
  · subst hk3
    obtain rfl | rfl | rfl | rfl | rfl : n = 1 ∨ n = 2 ∨ n = 3 ∨ n = 4 ∨ n = 5 := by omega
    · by_cases ha : 0 ≤ a ∧ a ≤ 0
      · by_cases hb : b = 0
        · subst hb
          rw [show isCB 1 (3, a, 0) = true from by unfold isCB l1InB prsI; simp; omega]
          go_enter Tryd.func65, Tryd.ntmps65
          go_wp2_with fail
          refine (l1In_yes a (0) (0) (by omega) (by omega) _).mono ?_
          rintro e w' ⟨rfl, rfl⟩
          go_wp2
          go_ret
          exact ⟨rfl, by go_grown⟩
        · have hb' : (b == 0) = false := by simp [hb]
          rw [show isCB 1 (3, a, b) = false from by unfold isCB l1InB prsI; simp; omega]
          go_enter Tryd.func65, Tryd.ntmps65
          go_wp2_with fail
          refine (l1In_yes a (0) (0) (by omega) (by omega) _).mono ?_
          rintro e w' ⟨rfl, rfl⟩
          go_wp2
          go_ret
          exact ⟨rfl, by go_grown⟩
      · rw [show isCB 1 (3, a, b) = false from by unfold isCB l1InB prsI; simp; omega]
        go_enter Tryd.func65, Tryd.ntmps65
        go_wp2_with fail
        refine (l1In_no a (0) (0) (by omega) _).mono ?_
        rintro e w' ⟨rfl, rfl⟩
        go_wp2
        go_ret
        exact ⟨rfl, by go_grown⟩
    · by_cases ha : 0 ≤ a ∧ a ≤ 1
      · by_cases hb : b = 0
        · subst hb
          rw [show isCB 2 (3, a, 0) = true from by unfold isCB l1InB prsI; simp; omega]
          go_enter Tryd.func65, Tryd.ntmps65
          go_wp2_with fail
          refine (l1In_yes a (0) (1) (by omega) (by omega) _).mono ?_
          rintro e w' ⟨rfl, rfl⟩
          go_wp2
          go_ret
          exact ⟨rfl, by go_grown⟩
        · have hb' : (b == 0) = false := by simp [hb]
          rw [show isCB 2 (3, a, b) = false from by unfold isCB l1InB prsI; simp; omega]
          go_enter Tryd.func65, Tryd.ntmps65
          go_wp2_with fail
          refine (l1In_yes a (0) (1) (by omega) (by omega) _).mono ?_
          rintro e w' ⟨rfl, rfl⟩
          go_wp2
          go_ret
          exact ⟨rfl, by go_grown⟩
      · rw [show isCB 2 (3, a, b) = false from by unfold isCB l1InB prsI; simp; omega]
        go_enter Tryd.func65, Tryd.ntmps65
        go_wp2_with fail
        refine (l1In_no a (0) (1) (by omega) _).mono ?_
        rintro e w' ⟨rfl, rfl⟩
        go_wp2
        go_ret
        exact ⟨rfl, by go_grown⟩
    · by_cases ha : 0 ≤ a ∧ a ≤ 3
      · by_cases hb : b = 0
        · subst hb
          rw [show isCB 3 (3, a, 0) = true from by unfold isCB l1InB prsI; simp; omega]
          go_enter Tryd.func65, Tryd.ntmps65
          go_wp2_with fail
          refine (l1In_yes a (0) (3) (by omega) (by omega) _).mono ?_
          rintro e w' ⟨rfl, rfl⟩
          go_wp2
          go_ret
          exact ⟨rfl, by go_grown⟩
        · have hb' : (b == 0) = false := by simp [hb]
          rw [show isCB 3 (3, a, b) = false from by unfold isCB l1InB prsI; simp; omega]
          go_enter Tryd.func65, Tryd.ntmps65
          go_wp2_with fail
          refine (l1In_yes a (0) (3) (by omega) (by omega) _).mono ?_
          rintro e w' ⟨rfl, rfl⟩
          go_wp2
          go_ret
          exact ⟨rfl, by go_grown⟩
      · rw [show isCB 3 (3, a, b) = false from by unfold isCB l1InB prsI; simp; omega]
        go_enter Tryd.func65, Tryd.ntmps65
        go_wp2_with fail
        refine (l1In_no a (0) (3) (by omega) _).mono ?_
        rintro e w' ⟨rfl, rfl⟩
        go_wp2
        go_ret
        exact ⟨rfl, by go_grown⟩
    · by_cases ha : 0 ≤ a ∧ a ≤ 6
      · by_cases hb : b = 0
        · subst hb
          rw [show isCB 4 (3, a, 0) = true from by unfold isCB l1InB prsI; simp; omega]
          go_enter Tryd.func65, Tryd.ntmps65
          go_wp2_with fail
          refine (l1In_yes a (0) (6) (by omega) (by omega) _).mono ?_
          rintro e w' ⟨rfl, rfl⟩
          go_wp2
          go_ret
          exact ⟨rfl, by go_grown⟩
        · have hb' : (b == 0) = false := by simp [hb]
          rw [show isCB 4 (3, a, b) = false from by unfold isCB l1InB prsI; simp; omega]
          go_enter Tryd.func65, Tryd.ntmps65
          go_wp2_with fail
          refine (l1In_yes a (0) (6) (by omega) (by omega) _).mono ?_
          rintro e w' ⟨rfl, rfl⟩
          go_wp2
          go_ret
          exact ⟨rfl, by go_grown⟩
      · rw [show isCB 4 (3, a, b) = false from by unfold isCB l1InB prsI; simp; omega]
        go_enter Tryd.func65, Tryd.ntmps65
        go_wp2_with fail
        refine (l1In_no a (0) (6) (by omega) _).mono ?_
        rintro e w' ⟨rfl, rfl⟩
        go_wp2
        go_ret
        exact ⟨rfl, by go_grown⟩
    · by_cases ha : 0 ≤ a ∧ a ≤ 10
      · by_cases hb : b = 0
        · subst hb
          rw [show isCB 5 (3, a, 0) = true from by unfold isCB l1InB prsI; simp; omega]
          go_enter Tryd.func65, Tryd.ntmps65
          go_wp2_with fail
          refine (l1In_yes a (0) (10) (by omega) (by omega) _).mono ?_
          rintro e w' ⟨rfl, rfl⟩
          go_wp2
          go_ret
          exact ⟨rfl, by go_grown⟩
        · have hb' : (b == 0) = false := by simp [hb]
          rw [show isCB 5 (3, a, b) = false from by unfold isCB l1InB prsI; simp; omega]
          go_enter Tryd.func65, Tryd.ntmps65
          go_wp2_with fail
          refine (l1In_yes a (0) (10) (by omega) (by omega) _).mono ?_
          rintro e w' ⟨rfl, rfl⟩
          go_wp2
          go_ret
          exact ⟨rfl, by go_grown⟩
      · rw [show isCB 5 (3, a, b) = false from by unfold isCB l1InB prsI; simp; omega]
        go_enter Tryd.func65, Tryd.ntmps65
        go_wp2_with fail
        refine (l1In_no a (0) (10) (by omega) _).mono ?_
        rintro e w' ⟨rfl, rfl⟩
        go_wp2
        go_ret
        exact ⟨rfl, by go_grown⟩
  by_cases hk4 : k = 4
  · subst hk4
    by_cases ha : 0 ≤ a ∧ a ≤ 10
    · by_cases hb : b = 0
      · subst hb
        rw [show isCB n (4, a, 0) = true from by unfold isCB l1InB prsI; simp; omega]
        go_enter Tryd.func65, Tryd.ntmps65
        go_wp2_with fail
        refine (l1In_yes a (0) (10) (by omega) (by omega) _).mono ?_
        rintro e w' ⟨rfl, rfl⟩
        go_wp2
        go_ret
        exact ⟨rfl, by go_grown⟩
      · have hb' : (b == 0) = false := by simp [hb]
        rw [show isCB n (4, a, b) = false from by unfold isCB l1InB prsI; simp; omega]
        go_enter Tryd.func65, Tryd.ntmps65
        go_wp2_with fail
        refine (l1In_yes a (0) (10) (by omega) (by omega) _).mono ?_
        rintro e w' ⟨rfl, rfl⟩
        go_wp2
        go_ret
        exact ⟨rfl, by go_grown⟩
    · rw [show isCB n (4, a, b) = false from by unfold isCB l1InB prsI; simp; omega]
      go_enter Tryd.func65, Tryd.ntmps65
      go_wp2_with fail
      refine (l1In_no a (0) (10) (by omega) _).mono ?_
      rintro e w' ⟨rfl, rfl⟩
      go_wp2
      go_ret
      exact ⟨rfl, by go_grown⟩
  by_cases hk5 : k = 5
  · subst hk5
    by_cases ha : 1 ≤ a ∧ a ≤ n
    · by_cases hb : b = 0
      · subst hb
        rw [show isCB n (5, a, 0) = true from by unfold isCB l1InB prsI; simp; omega]
        go_enter Tryd.func65, Tryd.ntmps65
        go_wp2_with fail
        refine (l1In_yes a (1) (n) (by omega) (by omega) _).mono ?_
        rintro e w' ⟨rfl, rfl⟩
        go_wp2
        go_ret
        exact ⟨rfl, by go_grown⟩
      · have hb' : (b == 0) = false := by simp [hb]
        rw [show isCB n (5, a, b) = false from by unfold isCB l1InB prsI; simp; omega]
        go_enter Tryd.func65, Tryd.ntmps65
        go_wp2_with fail
        refine (l1In_yes a (1) (n) (by omega) (by omega) _).mono ?_
        rintro e w' ⟨rfl, rfl⟩
        go_wp2
        go_ret
        exact ⟨rfl, by go_grown⟩
    · rw [show isCB n (5, a, b) = false from by unfold isCB l1InB prsI; simp; omega]
      go_enter Tryd.func65, Tryd.ntmps65
      go_wp2_with fail
      refine (l1In_no a (1) (n) (by omega) _).mono ?_
      rintro e w' ⟨rfl, rfl⟩
      go_wp2
      go_ret
      exact ⟨rfl, by go_grown⟩
  rw [show isCB n (k, a, b) = false from by unfold isCB; simp [hk0, hk1, hk2, hk3, hk4, hk5]]
  go_enter Tryd.func65, Tryd.ntmps65
  go_wp2
  go_ret
  exact ⟨rfl, by go_grown⟩

set_option maxHeartbeats 4000000 in
set_option maxRecDepth 100000 in
theorem pzGood_any (p : Int) (l : CL) (A : Option Addr) (c : Nat) (w : World) (hl : l.length ≤ 1048576) (hA : CRead w w.heap.size A (ccells l)) :
    Calls Tryd.prog 72 #[.agg #[.int .i64 p, .slice A l.length c]] w fun e w' => e = .returned (.bool (isU p l)) ∧ Below w.heap.size w w' := by
  cases hg : isGuests p with
  | false =>
    rw [show isU p l = false from by unfold isU; rw [hg]; rfl]
    have Hg := Lib.hid hg
    clear hg
    go_enter Tryd.func72, Tryd.ntmps72
    go_wp2_with (go_at_call 64; refine (pzPeople_any _ _).mono ?_; rw [Hg.out]; rintro e w' ⟨rfl, rfl⟩)
    go_ret
    exact ⟨rfl, by go_grown⟩
  | true =>
    have hp : 1 ≤ p ∧ p ≤ 5 := by simpa [isGuests, l1InB] using hg
    obtain ⟨h1, h5⟩ := hp
    have Hg := Lib.hid hg
    by_cases h8 : 8 < (l.length : Int)
    · rw [show isU p l = false from by unfold isU; rw [show decide (l.length ≤ 8) = false from decide_eq_false (by omega)]; simp]
      clear hg
      go_enter Tryd.func72, Tryd.ntmps72
      go_wp2_with (go_at_call 64; refine (pzPeople_any _ _).mono ?_; rw [Hg.out]; rintro e w' ⟨rfl, rfl⟩)
      go_ret
      exact ⟨rfl, by go_grown⟩
    · have he : isU p l = l.all (isCB p) := by unfold isU; rw [hg, show decide (l.length ≤ 8) = true from decide_eq_true (by omega)]; simp
      rw [he]
      clear hg he
      generalize hn : l.length = n at *
      have Hn := Lib.hid hn
      clear hn
      go_enter Tryd.func72, Tryd.ntmps72
      go_wp2_with (go_at_call 64; refine (pzPeople_any _ _).mono ?_; rw [Hg.out]; rintro e w' ⟨rfl, rfl⟩)
      have hbw : Below (w.heap.size + 1) (w.alloc (Obj.cells #[.int .i64 p, .slice A n c] 47)) (w.alloc (Obj.cells #[.int .i64 p, .slice A n c] 47)) := Below.refl _ _
      go_loopw [18] (fun i wr => ∃ k : Nat, k ≤ n ∧ i = .int .i64 k ∧ (l.take k).all (isCB p) = true ∧ Below (w.heap.size + 1) (w.alloc (Obj.cells #[.int .i64 p, .slice A n c] 47)) wr) (fun i _ => n - (intOf i).toNat)
      case atStart => exact ⟨0, Nat.zero_le _, rfl, rfl, hbw⟩
      case round =>
        obtain ⟨k, hk, rfl, hgood, hb⟩ := hrel
        have Hgood := Lib.hid hgood
        clear hgood hbw
        have hs := hb.size
        simp only [World.size_alloc] at hs
        have hbw : Below w.heap.size w wr := Below.trans (b := _) (by go_grown) (hb.mono (by omega))
        have u0 : wr.cell? ⟨w.heap.size, 0, none⟩ = some (.int .i64 p) := (hb.cell (p := ⟨w.heap.size, 0, none⟩) (by simp)).trans (by simp)
        have u1 : wr.cell? ⟨w.heap.size, 1, none⟩ = some (.slice A n c) := (hb.cell (p := ⟨w.heap.size, 1, none⟩) (by simp)).trans (by simp)
        by_cases hlt : k < n
        · obtain ⟨⟨x, y, z⟩, hx⟩ := getSome l k (by rw [Hn.out]; exact hlt)
          obtain ⟨b, off, rfl, hbb, c0, c1, c2⟩ := (hA.below hbw (Nat.le_refl _)).clue hx
          have hki : (k : Int) < (n : Int) := by omega
          have Hx := Lib.hid hx
          clear hx
          have v0 : (wr.alloc (Obj.cells #[.int .i64 x, .int .i64 y, .int .i64 z] 30)).cell? ⟨w.heap.size, 0, none⟩ = some (.int .i64 p) := (World.cell?_alloc_lt _ _ _ (by show w.heap.size < wr.heap.size; omega)).trans u0
          go_wp2_with fail
          refine (pzClue_any p x y z h1 h5 _).mono ?_
          rintro e w2 ⟨rfl, hb2⟩
          have hb3 : Below (w.heap.size + 1) (w.alloc (Obj.cells #[.int .i64 p, .slice (some ⟨b, off, none⟩) n c] 47)) w2 := hb.trans (Below.trans (b := _) (by go_grown) (hb2.mono (by simp; omega)))
          have hb4 : Below w.heap.size w w2 := hbw.trans (Below.trans (b := _) (by go_grown) (hb2.mono (by simp; omega)))
          clear c0 c1 c2 u0 u1 v0
          cases hq : isCB p (x, y, z)
          · go_wp2
            go_ret
            refine ⟨?_, hb4⟩
            have : l.all (isCB p) = false := by
              rw [List.all_eq_false]
              exact ⟨_, List.mem_of_getElem? Hx.out, by simp [hq]⟩
            rw [this]
            rfl
          · go_wp2
            go_roundw
            case rel =>
              refine ⟨k + 1, by omega, by go_num, ?_, hb3⟩
              rw [List.take_add_one, Hx.out, List.all_append, Hgood.out]
              simp [hq]
            case measure => simp [intOf]; omega
        · have hkl : k = n := by omega
          subst hkl
          have hge : ¬ ((k : Int) < k) := by omega
          go_wp2
          go_ret
          refine ⟨?_, hbw⟩
          have e := Hgood.out
          rw [List.take_of_length_le (by rw [Hn.out]; exact Nat.le_refl _)] at e
          rw [e]
          rfl
end Go.Proofs.YtefkcfkicmfhlaaDoor
/-
  HOW MANY LISTS OF TIED PEOPLE HAVE A PERSON. Nothing here speaks of the program.
-/
namespace Go.Proofs.YtefkcfkicmfhlaaDoor
open Go.RowKit

theorem listsC_told (t : Nat → Nat → Bool) : ∀ (k : Nat) (told : List Int) (cs : List Nat), listsC t k told cs = (listsC t k [] cs).map (told ++ ·) := by
  intro k told cs
  induction h : k + cs.length using Nat.strongRecOn generalizing k told cs with
  | _ n ih =>
    match k, cs with
    | 0, cs => rw [listsC_zero, listsC_zero]; simp
    | k + 1, [] => rw [listsC_nil, listsC_nil]; rfl
    | k + 1, a :: cs =>
      simp only [List.length_cons] at h
      have h0 : (cs.filter (t a)).length ≤ cs.length := List.length_filter_le _ _
      rw [listsC_cons, listsC_cons, List.map_append, ih (k + (cs.filter (t a)).length) (by omega) k (told ++ [(a : Int)]) _ rfl, ih (k + 1 + cs.length) (by omega) (k + 1) told cs rfl,
        ih (k + (cs.filter (t a)).length) (by omega) k ([] ++ [(a : Int)]) _ rfl, List.map_map]
      congr 1
      refine List.map_congr_left fun x _ => ?_
      simp
theorem listsC_len (t : Nat → Nat → Bool) (k : Nat) (told : List Int) (cs : List Nat) : (listsC t k told cs).length = (listsC t k [] cs).length := by rw [listsC_told, List.length_map]
theorem listsC_size (t : Nat → Nat → Bool) : ∀ (k : Nat) (told : List Int) (cs : List Nat), ∀ l ∈ listsC t k told cs, l.length = told.length + k := by
  intro k told cs
  induction h : k + cs.length using Nat.strongRecOn generalizing k told cs with
  | _ n ih =>
    match k, cs with
    | 0, cs => rw [listsC_zero]; simp
    | k + 1, [] => rw [listsC_nil]; simp
    | k + 1, a :: cs =>
      simp only [List.length_cons] at h
      have h0 : (cs.filter (t a)).length ≤ cs.length := List.length_filter_le _ _
      rw [listsC_cons]
      intro l hl
      rcases List.mem_append.1 hl with hl | hl
      · have := ih (k + (cs.filter (t a)).length) (by omega) k _ _ rfl l hl
        simp at this
        omega
      · have := ih (k + 1 + cs.length) (by omega) (k + 1) _ _ rfl l hl
        omega
/-- whom a list has -/
theorem listsC_mem (t : Nat → Nat → Bool) : ∀ (k : Nat) (told : List Int) (cs : List Nat), ∀ l ∈ listsC t k told cs, ∀ x ∈ l, x ∈ told ∨ ∃ b ∈ cs, x = ((b : Nat) : Int) := by
  intro k told cs
  induction h : k + cs.length using Nat.strongRecOn generalizing k told cs with
  | _ n ih =>
    match k, cs with
    | 0, cs => rw [listsC_zero]; intro l hl x hx; simp at hl; subst hl; exact .inl hx
    | k + 1, [] => rw [listsC_nil]; simp
    | k + 1, a :: cs =>
      simp only [List.length_cons] at h
      have h0 : (cs.filter (t a)).length ≤ cs.length := List.length_filter_le _ _
      rw [listsC_cons]
      intro l hl x hx
      rcases List.mem_append.1 hl with hl | hl
      · rcases ih (k + (cs.filter (t a)).length) (by omega) k _ _ rfl l hl x hx with h1 | ⟨b, hb, h1⟩
        · rcases List.mem_append.1 h1 with h1 | h1
          · exact .inl h1
          · simp at h1
            exact .inr ⟨a, by simp, h1⟩
        · exact .inr ⟨b, by simp [(List.mem_filter.1 hb).1], h1⟩
      · rcases ih (k + 1 + cs.length) (by omega) (k + 1) _ _ rfl l hl x hx with h1 | ⟨b, hb, h1⟩
        · exact .inl h1
        · exact .inr ⟨b, by simp [hb], h1⟩
/-- how many lists have a person -/
def hasN (L : List (List Int)) (a : Nat) : Nat := L.countP (hasI · a)
theorem hasN_append (L M : List (List Int)) (a : Nat) : hasN (L ++ M) a = hasN L a + hasN M a := List.countP_append
theorem hasN_none {t : Nat → Nat → Bool} {k : Nat} {told : List Int} {cs : List Nat} {a : Nat} (h0 : (a : Int) ∉ told) (h : a ∉ cs) : hasN (listsC t k told cs) a = 0 := by
  refine List.countP_eq_zero.2 fun l hl hc => ?_
  rcases listsC_mem t k told cs l hl _ (hasI_mem.1 hc) with h1 | ⟨b, hb, h1⟩
  · exact h0 h1
  · have : a = b := by omega
    exact h (this ▸ hb)
theorem hasN_all {t : Nat → Nat → Bool} {k : Nat} {told : List Int} {cs : List Nat} {a : Nat} (h0 : (a : Int) ∈ told) : hasN (listsC t k told cs) a = (listsC t k told cs).length := by
  refine List.countP_eq_length.2 fun l hl => ?_
  rw [listsC_told] at hl
  obtain ⟨m, _, rfl⟩ := List.mem_map.1 hl
  exact hasI_mem.2 (List.mem_append_left _ h0)
theorem hasN_listsC {t : Nat → Nat → Bool} (hsym : ∀ i j, t i j = t j i) {a : Nat} (hirr : t a a = false) : ∀ (k : Nat) (told : List Int) (cs : List Nat),
    cs.Pairwise (· < ·) → a ∈ cs → (a : Int) ∉ told → hasN (listsC t (k + 1) told cs) a = (listsC t k [] (cs.filter (t a))).length := by
  intro k told cs
  induction h : k + cs.length using Nat.strongRecOn generalizing k told cs with
  | _ n ih =>
    intro hs ha h0
    match cs with
    | [] => simp at ha
    | x :: cs =>
      simp only [List.length_cons] at h
      obtain ⟨hx, hs'⟩ := List.pairwise_cons.1 hs
      have hl0 : (cs.filter (t x)).length ≤ cs.length := List.length_filter_le _ _
      rw [listsC_cons, hasN_append]
      by_cases e : x = a
      · subst e
        have hn : x ∉ cs := fun hc => by have := hx x hc; omega
        rw [hasN_all (by simp), hasN_none h0 hn, listsC_len, List.filter_cons_of_neg (by simp [hirr])]
        omega
      · have ha' : a ∈ cs := by rcases List.mem_cons.1 ha with h | h; exact absurd h.symm e; exact h
        have h1 : (a : Int) ∉ told ++ [(x : Int)] := by simp [h0]; omega
        rw [ih (k + cs.length) (by omega) k told cs rfl hs' ha' h0]
        match k with
        | 0 =>
          rw [listsC_zero, listsC_zero, listsC_zero]
          have : hasN [told ++ [(x : Int)]] a = 0 := List.countP_eq_zero.2 fun l hl hc => by
            simp only [List.mem_singleton] at hl
            subst hl
            exact h1 (hasI_mem.1 hc)
          rw [this]
          simp
        | k + 1 =>
          cases hxa : t x a with
          | true =>
            have hax : t a x = true := by rw [hsym, hxa]
            rw [ih (k + (cs.filter (t x)).length) (by omega) k _ _ rfl (hs'.filter _) (List.mem_filter.2 ⟨ha', hxa⟩) h1, List.filter_cons_of_pos hax, listsC_cons, List.length_append, listsC_len t k ([] ++ [(x : Int)])]
            congr 2
            rw [List.filter_filter, List.filter_filter]
            congr 1
            exact List.filter_congr fun b _ => Bool.and_comm _ _
          | false =>
            have hax : ¬ t a x = true := by rw [hsym, hxa]; simp
            rw [hasN_none h1 (fun hc => by have := (List.mem_filter.1 hc).2; simp [hxa] at this), List.filter_cons_of_neg hax]
            omega
end Go.Proofs.YtefkcfkicmfhlaaDoor
/-
  'ThreesAt': the model's and the program's, by their contracts.
-/
namespace Go.Proofs.YtefkcfkicmfhlaaDoor
open Go.RowKit

theorem adj_of {n : Nat} {l : PL} (h : isP n l = true) {a b : Nat} (hab : adj l a b = true) : a < n ∧ b < n ∧ a ≠ b := by
  have hl := (isP_list h).2.2.1
  unfold adj at hab
  simp only [Bool.or_eq_true, List.contains_iff_mem] at hab
  rcases hab with hab | hab
  · have := hl _ hab; simp only at this; omega
  · have := hl _ hab; simp only at this; omega
theorem adj_self {n : Nat} {l : PL} (h : isP n l = true) (a : Nat) : adj l a a = false := by
  cases e : adj l a a with
  | false => rfl
  | true => exact absurd rfl (adj_of h e).2.2
theorem friends_set {n : Nat} {l : PL} (h : isP n l = true) {T : Nat → Nat} (hT : TiesOf T (adj l)) {a : Nat} (ha : a < n) : IsSet (T a) ((List.range n).filter (adj l a)) := by
  have hn := isP_range h
  refine ⟨List.pairwise_lt_range.filter _, fun b hb => by have := List.mem_range.1 (List.mem_filter.1 hb).1; omega, fun b => ?_⟩
  rw [List.mem_filter, List.mem_range]
  by_cases hb : b < 16
  · rw [hT.bit a b (by omega) hb]
    exact ⟨fun e => ⟨(adj_of h e).2.1, e⟩, fun e => e.2⟩
  · have : (T a).testBit b = false := Nat.testBit_lt_two_pow (Nat.lt_of_lt_of_le (hT.lt a (by omega)) (Nat.pow_le_pow_right (n := 2) (i := 16) (by omega) (by omega)))
    rw [this]
    simp
    omega
def threesAtN (n : Nat) (l : PL) (a : Nat) : Nat := hasN (groupsL n l 3) a
theorem threesAt_eq {n : Nat} {l : PL} (h : isP n l = true) {a : Nat} (ha : a < n) : (listsC (adj l) 2 [] ((List.range n).filter (adj l a))).length = threesAtN n l a := by
  unfold threesAtN groupsL
  rw [hasN_listsC (adj_comm l) (adj_self h a) 2 [] _ List.pairwise_lt_range (List.mem_range.2 ha) (by simp)]
def resThreesAt (p : Int) (l : PL) (a : Int) : Int × Bool := if isP p l && isMan p a then (threesAtN p.toNat l a.toNat, true) else (0, false)

end Go.Proofs.YtefkcfkicmfhlaaDoor
/-
  THE MODEL's LOOK FOR ALL GROUPS ('spec.grLook', 'spec.grGroups'), by its contract: what it has found grows in a cell of its caller's.
-/
namespace Go.Proofs.YtefkcfkicmfhlaaDoor
open Go.RowKit

/-- the longer lists of tied candidates behind those told, in order -/
def subsC (t : Nat → Nat → Bool) : List Int → List Nat → List (List Int)
  | _, [] => []
  | told, a :: cs => (told ++ [(a : Int)]) :: (subsC t (told ++ [(a : Int)]) (cs.filter (t a)) ++ subsC t told cs)
termination_by _ cs => cs.length
decreasing_by
  · simp only [List.length_cons, List.length_unattach]
    refine Nat.lt_succ_of_le (Nat.le_trans (List.length_filter_le _ _) ?_)
    simp
  · simp
theorem subsC_nil (t : Nat → Nat → Bool) (told : List Int) : subsC t told [] = [] := by simp [subsC]
theorem subsC_cons (t : Nat → Nat → Bool) (told : List Int) (a : Nat) (cs : List Nat) : subsC t told (a :: cs) = (told ++ [(a : Int)]) :: (subsC t (told ++ [(a : Int)]) (cs.filter (t a)) ++ subsC t told cs) := by rw [subsC]
theorem subsC_few (t : Nat → Nat → Bool) : ∀ (told : List Int) (cs : List Nat), (subsC t told cs).length + 1 ≤ 2 ^ cs.length := by
  intro told cs
  induction h : cs.length using Nat.strongRecOn generalizing told cs with
  | _ n ih =>
    match cs with
    | [] => rw [subsC_nil]; simp at h; subst h; simp
    | a :: cs =>
      simp only [List.length_cons] at h
      have h0 : (cs.filter (t a)).length ≤ cs.length := List.length_filter_le _ _
      have h1 := ih (cs.filter (t a)).length (by omega) (told ++ [(a : Int)]) _ rfl
      have h2 := ih cs.length (by omega) told _ rfl
      have h3 : 2 ^ (cs.filter (t a)).length ≤ 2 ^ cs.length := Nat.pow_le_pow_right (by omega) h0
      rw [subsC_cons, ← h, Nat.pow_succ]
      simp only [List.length_cons, List.length_append]
      omega
/-- the world behind a look: all below the found one's cell is as it was, and all rows of numbers above it -/
structure Kept (o : Nat) (w w' : World) : Prop where
  low : Below o w w'
  rows : ∀ (A : Option Addr) (c : Nat) (x : List Int), w.ownsRow (o + 1) 3 1 (.slice A x.length c) x.length (icells x) → w'.ownsRow (o + 1) 3 1 (.slice A x.length c) x.length (icells x)
theorem Kept.refl (o : Nat) (w : World) : Kept o w w := ⟨Below.refl _ _, fun _ _ _ h => h⟩
theorem Kept.trans {o : Nat} {a b c : World} (h : Kept o a b) (k : Kept o b c) : Kept o a c := ⟨h.low.trans k.low, fun A c x hx => k.rows A c x (h.rows A c x hx)⟩
theorem Kept.of_below {o : Nat} {w w' : World} (h : Below w.heap.size w w') (ho : o ≤ w.heap.size) : Kept o w w' := ⟨h.mono ho, fun _ _ _ hx => own_below hx h (Nat.le_refl _)⟩
/-- what has been found, in its cell -/
structure Found (w : World) (o : Nat) (LL : List (List Int)) (A : Option Addr) (c : Nat) (hs : List Value) : Prop where
  box : w.heap[o]? = some (.cells #[.slice A LL.length c] 114 (0, 0))
  rows : LRows w (o + 1) (.slice A LL.length c) LL hs
section
variable {w w' : World} {o c : Nat} {LL : List (List Int)} {A : Option Addr} {hs : List Value}
theorem Found.lt (h : Found w o LL A c hs) : o < w.heap.size := (Array.getElem?_eq_some_iff.1 h.box).1
theorem Found.below (h : Found w o LL A c hs) (hb : Below w.heap.size w w') : Found w' o LL A c hs := ⟨by rw [hb.block o h.lt]; exact h.box, h.rows.below hb⟩
theorem Found.cell (h : Found w o LL A c hs) : w.cell? ⟨o, 0, none⟩ = some (.slice A LL.length c) := by rw [cell_of_row _ _ _ _ _ _ h.box]; rfl
theorem Found.thawed (h : Found w o LL A c hs) : w.frozen? ⟨o, 0, none⟩ = false := frozen_of_row _ _ 0 _ _ h.box
theorem Found.push (h : Found w o LL A c hs) {q : List Int} {A2 : Option Addr} {c2 : Nat} (own2 : w.ownsRow (o + 1) 3 1 (.slice A2 q.length c2) q.length (icells q))
    {w3 : World} {g3 c3 : Nat} (own3 : w3.ownsRow (o + 1) 64 1 (.slice (some ⟨g3, 0, none⟩) (LL.length + 1) c3) (LL.length + 1) (hs ++ [.slice A2 q.length c2]))
    (gr3 : (w.alloc (Obj.cells #[.slice A2 q.length c2] 64)).grownBy w3 (Value.slice A LL.length c).ownBlock) :
    w3.cell? ⟨o, 0, none⟩ = some (.slice A LL.length c) ∧ w3.frozen? ⟨o, 0, none⟩ = false ∧ w3.heap.size ≥ w.heap.size ∧
    Found (w3.setCell ⟨o, 0, none⟩ (.slice (some ⟨g3, 0, none⟩) (LL.length + 1) c3)) o (LL ++ [q]) (some ⟨g3, 0, none⟩) c3 (hs ++ [.slice A2 q.length c2]) ∧ Kept o w (w3.setCell ⟨o, 0, none⟩ (.slice (some ⟨g3, 0, none⟩) (LL.length + 1) c3)) := by
  obtain ⟨X, hX⟩ : ∃ X, w.alloc (Obj.cells #[.slice A2 q.length c2] 64) = X := ⟨_, rfl⟩
  have kX : Below w.heap.size w X := by rw [← hX]; go_grown
  have zX : X.heap.size = w.heap.size + 1 := by rw [← hX]; simp
  have nX : X.heap[w.heap.size]? = some (Obj.cells #[.slice A2 q.length c2] 64 (0, 0)) := by rw [← hX]; exact heap_alloc_new w _
  rw [hX] at gr3
  have hlt := h.lt
  have fX := h.below kX
  have ne : some o ≠ (Value.slice A LL.length c).ownBlock := fun e => by have := (fX.rows.own.lt o e.symm).1; omega
  have b3 : w3.heap[o]? = some (.cells #[.slice A LL.length c] 114 (0, 0)) := by rw [gr3.block o fX.lt ne]; exact fX.box
  have s3 := gr3.size
  have r2 : LRows X (o + 1) (.slice (some ⟨w.heap.size, 0, none⟩) 1 1) [q] [.slice A2 q.length c2] := ⟨⟨by simp, .inr ⟨w.heap.size, 1, _, rfl, by omega, nX, Nat.le_refl _, by simp [maxLen], by simp, by simp⟩⟩, fun i l hi => by
    match i with
    | 0 => simp at hi; subst hi; exact ⟨A2, c2, rfl, own_below own2 kX (Nat.le_refl _)⟩
    | i + 1 => simp at hi, fun e => by simp at e⟩
  have el : (LL ++ [q]).length = LL.length + 1 := by simp
  have r3 := LRows.append fX.rows r2 own3 gr3 (by simp)
  have setg : ∀ v, w3.grownBy (w3.setCell ⟨o, 0, none⟩ v) (some o) := fun v => ⟨rfl, rfl, rfl, by simp, fun k _ hk => heap_setCell_other _ _ _ _ (fun e => hk (by rw [e]))⟩
  have low : ∀ {e : TypeId} {size n : Nat} {v : Value} {xs : List Value}, w3.ownsRow (o + 1) e size v n xs → ∀ u, (w3.setCell ⟨o, 0, none⟩ u).ownsRow (o + 1) e size v n xs := fun hv u => hv.kept (setg u) (.inr fun e => by have := (hv.lt o e).1; omega)
  refine ⟨by rw [cell_of_row _ _ _ _ _ _ b3]; rfl, frozen_of_row _ _ 0 _ _ b3, by omega, ⟨by rw [el]; exact heap_setCell_same w3 o 0 _ _ _ b3, ⟨by rw [el]; have e3 := r3.own; rw [el] at e3; exact low e3 _, fun i l hi => ?_, fun e => by simp at e⟩⟩, ?_, ?_⟩
  · obtain ⟨Ai, ci, e, oi⟩ := r3.row i l hi
    exact ⟨Ai, ci, e, low oi _⟩
  · exact (((kX.mono (Nat.le_of_lt hlt)).grown gr3 (by omega) (fun k hk => by have := (fX.rows.own.lt k hk).1; omega)).setCell (p := ⟨o, 0, none⟩) (Nat.le_refl _) _)
  · intro B d x hx
    have hx2 := own_below hx kX (Nat.le_refl _)
    exact low (hx2.kept gr3 (blocks_apart fX.rows.own hx2 (show (64 : TypeId) ≠ 3 by decide))) _
end

set_option maxHeartbeats 1000000 in
set_option maxRecDepth 100000 in
theorem grJoins_any (n a : Nat) (t : Nat → Nat → Bool) (A : Option Addr) (c : Nat) (G : Nat → Nat) (B : Nat) (q : List Int) (Bq : Option Addr) (d : Nat) (w : World) (hn : n ≤ 12) (ha : a < n) (tab : TabG w B (.slice A n c) n n G t)
    (hq : ∀ x ∈ q, 0 ≤ x ∧ x < n) (hlq : q.length ≤ 1048576) (hB : CRead w w.heap.size Bq (icells q)) :
    Calls Tryd.prog 173 #[.slice A n c, .slice Bq q.length d, .int .i64 a] w fun e w' => e = .returned (.bool (q.all fun y => t a y.toNat)) ∧ w = w' := by
  obtain ⟨g, rfl⟩ := own_form tab.own (by omega)
  have d0 := tab.outer ha
  have hai : (a : Int) < n := by omega
  go_enter Tryd.func173, Tryd.ntmps173
  go_wp2
  go_loop [11] (fun i => ∃ k : Nat, k ≤ q.length ∧ i = .int .i64 k ∧ ∀ (j : Nat) (x : Int), j < k → q[j]? = some x → t a x.toNat = true) (fun i => q.length - (intOf i).toNat)
  case atStart => exact ⟨0, Nat.zero_le _, rfl, fun j x hj => by omega⟩
  case round =>
    obtain ⟨k, hk, rfl, hg⟩ := hrel
    have Hg := Lib.hid hg
    clear hg
    by_cases hlt : k < q.length
    · obtain ⟨x, hx⟩ := getSome q k hlt
      obtain ⟨b, off, rfl, hbb, c0⟩ := hB.int hx
      have hx0 := hq x (List.mem_of_getElem? hx)
      obtain ⟨y, rfl⟩ : ∃ y : Nat, x = y := ⟨x.toNat, by omega⟩
      have hki : (k : Int) < (q.length : Int) := by omega
      have hyi : (y : Int) < n := by omega
      have d1 := tab.cell ha (show y < n by omega)
      have Hx := Lib.hid hx
      clear hx
      cases ht : t a y with
      | false =>
        have e : (q.all fun y => t a y.toNat) = false := by
          rw [List.all_eq_false]
          exact ⟨_, List.mem_of_getElem? Hx.out, by simp [ht]⟩
        have He := Lib.hid e
        rw [ht] at d1
        clear e ht
        go_wp2
        go_ret
        exact ⟨by rw [He.out]; rfl, rfl⟩
      | true =>
        rw [ht] at d1
        have Ht := Lib.hid ht
        clear ht
        go_wp2
        go_round
        case rel =>
          refine ⟨k + 1, by omega, by go_num, fun j z hj hz => ?_⟩
          by_cases hjk : j = k
          · subst hjk
            rw [Hx.out] at hz
            simp only [Option.some.injEq] at hz
            subst hz
            exact Ht.out
          · exact Hg.out j z (by omega) hz
        case measure => simp [intOf]; omega
    · have hkl : k = q.length := by omega
      have hge : ¬ ((k : Int) < (q.length : Int)) := by omega
      have e : (q.all fun y => t a y.toNat) = true := by
        rw [List.all_eq_true]
        intro x hx
        obtain ⟨j, hj, e⟩ := List.getElem_of_mem hx
        exact Hg.out j x (by omega) (by rw [List.getElem?_eq_getElem hj, e])
      have He := Lib.hid e
      clear e
      go_wp2
      go_ret
      exact ⟨by rw [He.out]; rfl, rfl⟩
set_option maxHeartbeats 4000000 in
set_option maxRecDepth 100000 in
theorem grLook_any (n : Nat) (hn : n ≤ 12) (t : Nat → Nat → Bool) (hsym : ∀ i j, t i j = t j i) (At : Option Addr) (ct : Nat) (G : Nat → Nat) (B0 : Nat) (wt : World) (tab : TabG wt B0 (.slice At n ct) n n G t) (o : Nat) (hwo : wt.heap.size ≤ o) :
    ∀ (m f : Nat) (q : List Int) (A : Option Addr) (c : Nat) (w : World) (LL : List (List Int)) (A0 : Option Addr) (c0 : Nat) (hs0 : List Value), n - f ≤ m → f ≤ n → q.length ≤ f → Below o wt w → (∀ x ∈ q, 0 ≤ x ∧ x < n) →
    w.ownsRow (o + 1) 3 1 (.slice A q.length c) q.length (icells q) → (q = [] → A = none ∧ c = 0) → Found w o LL A0 c0 hs0 → LL.length + (subsC t q (candR t n q f)).length + 1 ≤ 4096 →
    Calls Tryd.prog 159 #[.slice At n ct, .slice A q.length c, .int .i64 f, .pointer (some ⟨o, 0, none⟩)] w fun e w' => e = .returned (.tuple #[]) ∧ Kept o w w' ∧ ∃ A' c' hs', Found w' o (LL ++ (q :: subsC t q (candR t n q f))) A' c' hs' := by
  obtain ⟨i0, hi, hz0, hz1, hz2⟩ := info_parts Tryd.infoInt
  obtain ⟨i1, hj, hy0, hy1, hy2⟩ := info_parts Tryd.infoIntsG
  have Tab := Lib.hid tab
  clear tab
  intro m
  induction m using Nat.strongRecOn with
  | _ m ih =>
    intro f q A c w LL A0 c0 hs0 hm hf hqf hwt hq own hnil found hfew
    have hlt0 := found.lt
    have cell0 := found.cell
    have thaw0 := found.thawed
    have hLf : LL.length ≤ 4096 := by omega
    obtain ⟨R, hR⟩ : ∃ R, q :: subsC t q (candR t n q f) = R := ⟨_, rfl⟩
    rw [hR]
    have HR := Lib.hid hR
    have Hq := Lib.hid hq
    have Hfew := Lib.hid hfew
    have Hnil := Lib.hid hnil
    have Found0 := Lib.hid found
    have Own0 := Lib.hid own
    have hq100 : q.length ≤ 1048576 := by omega
    clear hR hq hfew hnil found own
    go_enter Tryd.func159, Tryd.ntmps159
    go_wp2_with fail
    go_region_law (first
      | (go_simp; go_at_call 172; refine (l1Own_all q A c w.drew hq100 (CRead.of_own (own_below Own0.out ((Below.refl _ _).drew) (Nat.le_refl _))) Hnil.out).mono ?_; rintro e w2 ⟨A2, c2, rfl, own2, hb2⟩; have hX2 : Below w.heap.size w w2 := (Below.refl _ _).drew.trans hb2; have found2 := Found0.out.below hX2; have s2 := hX2.size; have kq : ∀ ob : Obj, (w2.alloc ob).cell? ⟨o, 0, none⟩ = some (.slice A0 LL.length c0) := fun ob => (World.cell?_alloc_lt w2 _ _ (by simp; omega)).trans found2.cell; have r1 := found2.cell)
      | (refine step_append_lies _ (by rfl) _ _ _ (by rfl) (o + 1) 64 i1 _ 1 24 Tryd.underlying114 hj hy0 hy1 hy2 (by rfl) (by decide) _ LL.length hs0 (by rfl) (found2.rows.own.alloc _) ⟨w2.heap.size, 0, none⟩ 1 1 [.slice A2 q.length c2] (by rfl) rfl (one_cell (by simp)) (one_one rfl) (by decide) (by unfold maxLen; omega) (by omega) (by simp; omega) (w2.heap.size + 1) (by simp) ?_; intro g3 c3 w3 own3 gr3 hat3 hlt3; obtain ⟨y0, y1, y2, found3, kept3⟩ := found2.push (own_lower own2 (by simp; omega)) own3 gr3))
    all_goals
      have kw3 := (Kept.of_below hX2 (Nat.le_of_lt hlt0)).trans kept3
      obtain ⟨X, hX⟩ : ∃ X, w3.setCell { block := o, off := 0 } (Value.slice (some { block := g3, off := 0 }) (LL.length + 1) c3) = X := ⟨_, rfl⟩
      rw [hX] at found3 kw3 ⊢
      clear hX kept3 own3 gr3 hat3 hlt3 y0 y1 y2 own2 hX2 found2 s2 hb2 kq r1 cell0 thaw0
      have Kw3 := Lib.hid kw3
      have Found3 := Lib.hid found3
      clear kw3 found3
      go_wp2_with fail
      go_loopw [8] (fun i wr => ∃ (a : Nat) (done : List (List Int)) (A' : Option Addr) (c' : Nat) (hs' : List Value), f ≤ a ∧ a ≤ n ∧ i = .int .i64 a ∧ Kept o w wr ∧ Found wr o done A' c' hs' ∧ LL ++ R = done ++ subsC t q (candR t n q a)) (fun i _ => n - (intOf i).toNat)
      case atStart => exact ⟨f, LL ++ [q], _, _, _, Nat.le_refl _, hf, rfl, Kw3.out, Found3.out, by rw [← HR.out]; simp⟩
      case round =>
        clear Kw3 Found3
        obtain ⟨a, done, A', c', hs', hfa, han, rfl, kr, foundr, hL⟩ := hrel
        have lowr : Below o wt wr := hwt.trans kr.low
        have tabr := Tab.out.below lowr hwo
        have ownr := kr.rows A c q Own0.out
        have hltr := foundr.lt
        have hLl := congrArg List.length hL
        rw [List.length_append, List.length_append] at hLl
        have hRl : R.length = (subsC t q (candR t n q f)).length + 1 := by rw [← HR.out]; simp
        have hfw := Hfew.out
        have HL := Lib.hid hL
        have Kr := Lib.hid kr
        have Foundr := Lib.hid foundr
        have Ownr := Lib.hid ownr
        have Tabr := Lib.hid tabr
        have Lowr := Lib.hid lowr
        clear hL kr foundr ownr tabr lowr
        by_cases hlt : a < n
        · have hai : (a : Int) < n := by omega
          go_wp2_with fail
          refine (grJoins_any n a t At ct G B0 q A c _ hn hlt Tabr.out Hq.out hq100 (CRead.of_own Ownr.out)).mono ?_
          rintro e w1 ⟨rfl, rfl⟩
          cases hk : (q.all fun y => t a y.toNat) with
          | false =>
            have Hk := Lib.hid hk
            clear hk
            go_wp2
            go_roundw
            case rel => exact ⟨a + 1, done, A', c', hs', by omega, by omega, by go_num, Kr.out, Foundr.out, by rw [HL.out, candR_no hlt Hk.out]⟩
            case measure => simp [intOf]; omega
          | true =>
            have Hk := Lib.hid hk
            clear hk
            go_wp2_with fail
            refine (l1Own_all q A c wr hq100 (CRead.of_own Ownr.out) Hnil.out).mono ?_
            rintro e w5 ⟨A5, c5, rfl, own5, hb5⟩
            have s5 := hb5.size
            go_wp2_with (at_builtin; refine wpList_append_own _ rfl _ _ 64 rfl wr.heap.size 3 i0 _ 1 8 Tryd.underlying64 hi hz0 hz1 hz2 rfl (by decide) _ _ _ rfl (own5.alloc _) ⟨w5.heap.size, 0, none⟩ 1 1 [.int .i64 a] rfl rfl (one_cell (by simp)) (one_one rfl) (by unfold maxLen; omega) (by omega) (by simp; omega) ?_; intro v6 w6 own6 gr6 _; obtain ⟨A6, c6, rfl, _⟩ := own_shape own6)
            have hb6 : Below wr.heap.size wr w6 := (hb5.alloc s5 _).grown gr6 (by simp; omega) (fun k hk => (own5.lt k hk).1)
            have k6 := Kr.out.trans (Kept.of_below hb6 (Nat.le_of_lt hltr))
            have found6 := Foundr.out.below hb6
            have hll : (q ++ [(a : Int)]).length = q.length + 1 := by simp
            have e1 := candR_yes hlt Hk.out
            have e2 := candR_tied hsym n q a
            rw [show fromQ (q ++ [(a : Int)]) = a + 1 from by unfold fromQ; simp] at e2
            have hL2 := HL.out
            rw [e1, subsC_cons, e2] at hL2
            have hl2 := congrArg List.length hL2
            simp only [List.length_append, List.length_cons] at hl2
            have hfew6 : done.length + (subsC t (q ++ [(a : Int)]) (candR t n (q ++ [(a : Int)]) (a + 1))).length + 1 ≤ 4096 := by omega
            have ihc := ih (n - (a + 1)) (by omega) (a + 1) (q ++ [(a : Int)]) A6 c6 w6 done A' c' hs' (Nat.le_refl _) (by omega) (by rw [hll]; omega) (hwt.trans k6.low) (fun x hx => by rcases List.mem_append.1 hx with h | h; exact Hq.out x h; simp at h; omega)
              (by rw [icells_append, hll]; exact own_lower own6 (by omega)) (fun e => by simp at e) found6 hfew6
            rw [hll, show (((a + 1 : Nat)) : Int) = (a : Int) + 1 from by omega] at ihc
            have IHC := Lib.hid ihc
            have K6 := Lib.hid k6
            have HL2 := Lib.hid hL2
            clear ihc own5 own6 gr6 hb5 hb6 found6 k6 hL2 hl2 e1 e2 hLl HL Foundr Ownr Tabr
            go_wp2_with fail
            refine IHC.out.mono ?_
            rintro e w7 ⟨rfl, kept7, A7, c7, hs7, found7⟩
            have k7 := K6.out.trans kept7
            clear IHC kept7
            go_wp2
            go_roundw
            case rel => exact ⟨a + 1, _, A7, c7, hs7, by omega, by omega, by go_num, k7, found7, by rw [HL2.out]; simp⟩
            case measure => simp [intOf]; omega
        · have hal : a = n := by omega
          subst hal
          have hge : ¬ ((a : Int) < a) := by omega
          have e := HL.out
          rw [candR_end _ _ _ (Nat.le_refl _), subsC_nil, List.append_nil] at e
          have HE := Lib.hid e
          clear e HL
          go_wp2
          refine show _ = [] ∧ _ from ⟨rfl, .tuple #[], by simp [results, Tryd.results159, go_sem], ?_⟩
          exact ⟨rfl, Kr.out, A', c', hs', by rw [HE.out]; exact Foundr.out⟩
set_option maxHeartbeats 1000000 in
set_option maxRecDepth 100000 in
theorem grGroups_any (n : Nat) (hn : n ≤ 12) (t : Nat → Nat → Bool) (hsym : ∀ i j, t i j = t j i) (At : Option Addr) (ct : Nat) (G : Nat → Nat) (B0 : Nat) (w : World) (tab : TabG w B0 (.slice At n ct) n n G t) :
    Calls Tryd.prog 127 #[.slice At n ct] w (GotLL w ([] :: subsC t [] (List.range n))) := by
  have hc : candR t n [] 0 = List.range n := by
    unfold candR
    rw [List.filter_eq_self.2 (by simp), Nat.sub_zero, List.range_eq_range']
  have hfew := subsC_few t [] (List.range n)
  have h12 : 2 ^ (List.range n).length ≤ 2 ^ 12 := Nat.pow_le_pow_right (by omega) (by simp; omega)
  obtain ⟨X, hX⟩ : ∃ X, w.alloc (Obj.cells #[.slice none 0 0] 114) = X := ⟨_, rfl⟩
  have kX : Below w.heap.size w X := by rw [← hX]; go_grown
  have fX : Found X w.heap.size [] none 0 [] := ⟨by rw [← hX]; exact heap_alloc_new w _, LRows.none _ _⟩
  have g := grLook_any n hn t hsym At ct G B0 w tab w.heap.size (Nat.le_refl _) n 0 [] none 0 X [] none 0 [] (by omega) (by omega) (by simp) kX (by simp) (World.ownsRow_nil _ _ _ _) (fun _ => ⟨rfl, rfl⟩) fX (by rw [hc]; simp; omega)
  rw [hc] at g
  simp only [List.nil_append, List.length_nil] at g
  obtain ⟨R, hR⟩ : ∃ R, [] :: subsC t [] (List.range n) = R := ⟨_, rfl⟩
  rw [hR] at g ⊢
  have Gg := Lib.hid g
  have HX := Lib.hid hX
  have KX := Lib.hid kX
  clear g hX kX fX hfew h12 hR hc
  go_enter Tryd.func127, Tryd.ntmps127
  go_wp2_with fail
  rw [HX.out]
  refine Gg.out.mono ?_
  rintro e w4 ⟨rfl, kept, A4, c4, hs4, found4⟩
  have cell4 := found4.cell
  have k4 := KX.out.trans kept.low
  have rows4 := found4.rows.lower (B' := w.heap.size) (by omega)
  clear found4 kept Gg
  go_wp2
  go_ret
  exact ⟨A4, c4, hs4, rfl, rows4, k4⟩
theorem subsC_longer (t : Nat → Nat → Bool) : ∀ (told : List Int) (cs : List Nat), ∀ l ∈ subsC t told cs, told.length < l.length := by
  intro told cs
  induction h : cs.length using Nat.strongRecOn generalizing told cs with
  | _ n ih =>
    match cs with
    | [] => rw [subsC_nil]; simp
    | a :: cs =>
      simp only [List.length_cons] at h
      have h0 : (cs.filter (t a)).length ≤ cs.length := List.length_filter_le _ _
      rw [subsC_cons]
      intro l hl
      rcases List.mem_cons.1 hl with rfl | hl
      · simp
      · rcases List.mem_append.1 hl with hl | hl
        · have := ih _ (by omega) (told ++ [(a : Int)]) _ rfl l hl
          simp at this
          omega
        · exact ih _ (by omega) told cs rfl l hl
theorem subsC_size (t : Nat → Nat → Bool) : ∀ (k : Nat) (told : List Int) (cs : List Nat), (told :: subsC t told cs).filter (fun l => l.length == told.length + k) = listsC t k told cs := by
  intro k told cs
  induction h : cs.length using Nat.strongRecOn generalizing k told cs with
  | _ n ih =>
    match k with
    | 0 =>
      rw [listsC_zero, List.filter_cons_of_pos (by simp), List.filter_eq_nil_iff.2 (fun l hl => by have := subsC_longer t told cs l hl; simp; omega)]
    | k + 1 =>
      rw [List.filter_cons_of_neg (by simp)]
      match cs with
      | [] => rw [subsC_nil, listsC_nil]; rfl
      | a :: cs =>
        simp only [List.length_cons] at h
        have h0 : (cs.filter (t a)).length ≤ cs.length := List.length_filter_le _ _
        have h1 := ih (cs.filter (t a)).length (by omega) k (told ++ [(a : Int)]) _ rfl
        have h2 := ih cs.length (by omega) (k + 1) told cs rfl
        rw [List.filter_cons_of_neg (by simp)] at h2
        rw [show (told ++ [(a : Int)]).length + k = told.length + (k + 1) from by simp; omega] at h1
        rw [subsC_cons, ← List.cons_append, List.filter_append, h1, h2, listsC_cons]
theorem subsC_has {t : Nat → Nat → Bool} {cs : List Nat} {k : Nat} : (listsC t k [] cs).isEmpty = false ↔ ∃ l ∈ ([] :: subsC t [] cs), l.length = k := by
  rw [← subsC_size t k [] cs]
  simp only [List.isEmpty_eq_false_iff_exists_mem, List.mem_filter, beq_iff_eq, List.length_nil, Nat.zero_add]
theorem subsC_short (t : Nat → Nat → Bool) : ∀ (told : List Int) (cs : List Nat), ∀ l ∈ subsC t told cs, l.length ≤ told.length + cs.length := by
  intro told cs
  induction h : cs.length using Nat.strongRecOn generalizing told cs with
  | _ n ih =>
    match cs with
    | [] => rw [subsC_nil]; simp
    | a :: cs =>
      simp only [List.length_cons] at h
      have h0 : (cs.filter (t a)).length ≤ cs.length := List.length_filter_le _ _
      rw [subsC_cons]
      intro l hl
      rcases List.mem_cons.1 hl with rfl | hl
      · simp; omega
      · rcases List.mem_append.1 hl with hl | hl
        · have := ih _ (by omega) (told ++ [(a : Int)]) _ rfl l hl
          simp at this
          omega
        · have := ih _ (by omega) told cs rfl l hl
          omega
end Go.Proofs.YtefkcfkicmfhlaaDoor
/-
  LISTS OF NUMBERS OF FRIENDS AS PLAIN LISTS: what numbers are; sorted so that they are falling; sums; where they fail. Nothing here speaks of the program.
-/
namespace Go.Proofs.YtefkcfkicmfhlaaDoor

def isNums (q : List Int) : Bool := decide (q.length ≤ 12) && q.all fun x => decide (0 ≤ x ∧ x < q.length)
theorem isNums_len {q : List Int} (h : isNums q = true) : q.length ≤ 12 := by
  simp only [isNums, Bool.and_eq_true, decide_eq_true_eq] at h
  exact h.1
theorem isNums_mem {q : List Int} (h : isNums q = true) : ∀ x ∈ q, 0 ≤ x ∧ x < q.length := by
  simp only [isNums, Bool.and_eq_true, List.all_eq_true, decide_eq_true_eq] at h
  exact h.2
theorem isNums_at {q : List Int} (h : isNums q = true) {k : Nat} {x : Int} (hx : q[k]? = some x) : 0 ≤ x ∧ x < q.length := isNums_mem h x (List.mem_of_getElem? hx)
theorem isNums_of {q : List Int} (h : q.length ≤ 12) (h2 : ∀ (k : Nat) (x : Int), k < q.length → q[k]? = some x → 0 ≤ x ∧ x < q.length) : isNums q = true := by
  simp only [isNums, Bool.and_eq_true, List.all_eq_true, decide_eq_true_eq]
  refine ⟨h, fun x hx => ?_⟩
  obtain ⟨i, hi, rfl⟩ := List.getElem_of_mem hx
  exact h2 i _ hi (List.getElem?_eq_getElem hi)
theorem isNums_bad {q : List Int} {k : Nat} {x : Int} (hx : q[k]? = some x) (h : ¬ (0 ≤ x ∧ x < q.length)) : isNums q = false := by
  cases he : isNums q with
  | false => rfl
  | true => exact absurd (isNums_at he hx) h
theorem isNums_many {q : List Int} (h : 12 < q.length) : isNums q = false := by
  cases he : isNums q with
  | false => rfl
  | true => have := isNums_len he; omega

/-! ## Falling -/
def fall (q : List Int) : List Int := q.mergeSort fun x y => decide (y ≤ x)
theorem fall_perm (q : List Int) : (fall q).Perm q := List.mergeSort_perm _ _
theorem fall_length (q : List Int) : (fall q).length = q.length := (fall_perm q).length_eq
theorem fall_mem {q : List Int} {x : Int} : x ∈ fall q ↔ x ∈ q := (fall_perm q).mem_iff
theorem fall_sorted (q : List Int) : (fall q).Pairwise fun x y => y ≤ x := by
  have h := List.pairwise_mergeSort (le := fun x y : Int => decide (y ≤ x)) (by intro a b c; simp; omega) (by intro a b; simp; omega) q
  exact h.imp (by simp)
theorem fall_unique {l q : List Int} (hs : l.Pairwise fun x y => y ≤ x) (hp : l.Perm q) : l = fall q :=
  List.Perm.eq_of_pairwise (le := fun x y : Int => y ≤ x) (fun a b _ _ h1 h2 => by omega) hs (fall_sorted q) (hp.trans (fall_perm q).symm)
theorem fall_nums {q : List Int} (h : isNums q = true) : isNums (fall q) = true := by
  refine isNums_of (by rw [fall_length]; exact isNums_len h) fun k x _ hx => ?_
  have := isNums_mem h x (fall_mem.1 (List.mem_of_getElem? hx))
  rw [fall_length]
  exact this

/-- the numbers from n down, j of them, each as often as it is in the list -/
def blockI (q : List Int) (x : Int) : List Int := q.filter fun y => decide (x = y)
def descI (q : List Int) (n j : Nat) : List Int := (List.range j).flatMap fun i : Nat => blockI q ((n : Int) - (i : Int))
theorem descI_zero (q : List Int) (n : Nat) : descI q n 0 = [] := rfl
theorem descI_next (q : List Int) (n j : Nat) : descI q n (j + 1) = descI q n j ++ blockI q ((n : Int) - j) := by
  unfold descI
  rw [List.range_succ, List.flatMap_append]
  simp
theorem blockI_snoc (q : List Int) (x y : Int) : blockI (q ++ [y]) x = blockI q x ++ if x = y then [y] else [] := by
  unfold blockI
  rw [List.filter_append]
  congr 1
  by_cases h : x = y
  · rw [if_pos h, List.filter_cons_of_pos (by simpa using h)]; rfl
  · rw [if_neg h, List.filter_cons_of_neg (by simpa using h)]; rfl
theorem mem_blockI {q : List Int} {x y : Int} : y ∈ blockI q x ↔ y ∈ q ∧ x = y := by simp [blockI]
theorem mem_descI {q : List Int} {n j : Nat} {y : Int} : y ∈ descI q n j ↔ y ∈ q ∧ (n : Int) - j < y ∧ y ≤ n := by
  simp only [descI, List.mem_flatMap, List.mem_range, mem_blockI]
  constructor
  · rintro ⟨i, hi, hy, rfl⟩; exact ⟨hy, by omega, by omega⟩
  · rintro ⟨hy, h1, h2⟩; exact ⟨((n : Int) - y).toNat, by omega, hy, by omega⟩
theorem descI_sorted (q : List Int) (n j : Nat) : (descI q n j).Pairwise fun x y => y ≤ x := by
  induction j with
  | zero => exact List.Pairwise.nil
  | succ j ih =>
    rw [descI_next, List.pairwise_append]
    refine ⟨ih, ?_, fun a ha b hb => ?_⟩
    · rw [List.pairwise_iff_getElem]
      intro a b ha hb _
      have h1 := (mem_blockI.1 (List.getElem_mem ha)).2
      have h2 := (mem_blockI.1 (List.getElem_mem hb)).2
      omega
    · have h1 := mem_descI.1 ha
      have h2 := (mem_blockI.1 hb).2
      omega
theorem count_blockI (q : List Int) (x y : Int) : (blockI q x).count y = if x = y then q.count y else 0 := by
  unfold blockI
  by_cases h : x = y
  · subst h
    rw [if_pos rfl, List.count_filter (by simp)]
  · rw [if_neg h, List.count_eq_zero]
    intro hm
    exact h (by simpa using (List.mem_filter.1 hm).2)
theorem count_descI (q : List Int) (n j : Nat) (y : Int) : (descI q n j).count y = if (n : Int) - j < y ∧ y ≤ n then q.count y else 0 := by
  induction j with
  | zero => rw [descI_zero, if_neg (by omega)]; rfl
  | succ j ih =>
    rw [descI_next, List.count_append, ih, count_blockI]
    by_cases h1 : (n : Int) - j = y
    · rw [if_pos h1, if_neg (by omega), if_pos (by omega), Nat.zero_add]
    · rw [if_neg h1, Nat.add_zero]
      by_cases h2 : (n : Int) - j < y ∧ y ≤ n
      · rw [if_pos h2, if_pos (by omega)]
      · rw [if_neg h2, if_neg (by omega)]
theorem descI_fall {q : List Int} (h : isNums q = true) : descI q q.length (q.length + 1) = fall q := by
  refine fall_unique (descI_sorted _ _ _) (List.perm_iff_count.2 fun y => ?_)
  rw [count_descI]
  split
  · rfl
  · rename_i hn
    symm
    rw [List.count_eq_zero]
    intro hy
    have := isNums_mem h y hy
    omega
theorem descI_le (q : List Int) (n j : Nat) : (descI q n j).length ≤ j * q.length := by
  induction j with
  | zero => simp [descI_zero]
  | succ j ih =>
    rw [descI_next, List.length_append, Nat.add_mul, Nat.one_mul]
    have : (blockI q ((n : Int) - j)).length ≤ q.length := List.length_filter_le _ _
    omega
theorem blockI_le (q : List Int) (x : Int) : (blockI q x).length ≤ q.length := List.length_filter_le _ _

/-! ## Sums -/
def sumI (q : List Int) : Int := q.foldl (· + ·) 0
theorem sumI_snoc (q : List Int) (x : Int) : sumI (q ++ [x]) = sumI q + x := by simp [sumI, List.foldl_append]
theorem sumI_nil : sumI [] = 0 := rfl
/-- a bound of the sum of a beginning -/
theorem sumI_take_bound {q : List Int} {m : Int} (hm : 0 ≤ m) (h : ∀ x ∈ q, 0 ≤ x ∧ x ≤ m) : ∀ k, 0 ≤ sumI (q.take k) ∧ sumI (q.take k) ≤ k * m := by
  intro k
  induction k with
  | zero => simp [sumI_nil]
  | succ k ih =>
    rw [List.take_add_one]
    have e : ((k + 1 : Nat) : Int) * m = k * m + m := by rw [Int.natCast_add, Int.add_mul]; simp
    rw [e]
    cases hx : q[k]? with
    | none => simp; omega
    | some x =>
      have := h x (List.mem_of_getElem? hx)
      rw [Option.toList_some, sumI_snoc]
      omega
theorem sumI_perm {q l : List Int} (h : q.Perm l) : sumI q = sumI l := by
  unfold sumI
  exact h.foldl_eq' (fun x _ y _ z => by omega) 0

/-! ## Where numbers fail -/
def minsI (k : Int) (q : List Int) : List Int := q.map fun x => if k < x then k else x
theorem minsI_snoc (k : Int) (q : List Int) (x : Int) : minsI k (q ++ [x]) = minsI k q ++ [if k < x then k else x] := by simp [minsI]
def mostI (s : List Int) (k : Nat) : Int := (k : Int) * (k - 1) + sumI (minsI k (s.drop k))
def failAt (s : List Int) (k : Nat) : Bool := decide (mostI s k < sumI (s.take k))
def failsI (s : List Int) : Int := match (List.range s.length).find? fun i => failAt s (i + 1) with | none => 0 | some i => (i : Int) + 1
theorem failsI_at {s : List Int} {k : Nat} (hk : k < s.length) (h : ∀ j, j < k → failAt s (j + 1) = false) (hf : failAt s (k + 1) = true) : failsI s = k + 1 := by
  have : (List.range s.length).find? (fun i => failAt s (i + 1)) = some k := by
    rw [List.find?_range_eq_some]
    exact ⟨hf, by simpa using hk, fun j hj => by simp [h j hj]⟩
  unfold failsI
  rw [this]
theorem failsI_none {s : List Int} (h : ∀ j, j < s.length → failAt s (j + 1) = false) : failsI s = 0 := by
  have : (List.range s.length).find? (fun i => failAt s (i + 1)) = none := by
    rw [List.find?_range_eq_none]
    intro j hj
    simp [h j hj]
  unfold failsI
  rw [this]
theorem failsI_range (s : List Int) : 0 ≤ failsI s ∧ failsI s ≤ s.length := by
  unfold failsI
  split
  · omega
  · rename_i i hi
    have := List.mem_of_find?_eq_some hi
    rw [List.mem_range] at this
    omega
theorem minsI_bound {s : List Int} {m k : Int} (hk : 0 ≤ k) (h : ∀ x ∈ s, 0 ≤ x ∧ x ≤ m) : ∀ x ∈ minsI k s, 0 ≤ x ∧ x ≤ m := by
  intro x hx
  obtain ⟨y, hy, rfl⟩ := List.mem_map.1 hx
  have := h y hy
  split <;> omega
/-- they can be -/
def canI (q : List Int) : Bool := decide (sumI q % 2 = 0) && decide (failsI (fall q) = 0)
end Go.Proofs.YtefkcfkicmfhlaaDoor
/-
  NUMBERS OF FRIENDS: what they are, by the model's and the program's contracts.
-/
namespace Go.Proofs.YtefkcfkicmfhlaaDoor
open Go.RowKit

def l1AllB (q : List Int) (lo hi : Int) : Bool := q.all fun x => decide (lo ≤ x ∧ x ≤ hi)
theorem l1AllB_yes {q : List Int} {lo hi : Int} (h : ∀ (j : Nat) (x : Int), j < q.length → q[j]? = some x → lo ≤ x ∧ x ≤ hi) : l1AllB q lo hi = true := by
  simp only [l1AllB, List.all_eq_true, decide_eq_true_eq]
  intro x hx
  obtain ⟨i, hi, rfl⟩ := List.getElem_of_mem hx
  exact h i _ hi (List.getElem?_eq_getElem hi)
theorem l1AllB_no {q : List Int} {lo hi : Int} {k : Nat} {x : Int} (hx : q[k]? = some x) (h : ¬ (lo ≤ x ∧ x ≤ hi)) : l1AllB q lo hi = false := by
  cases he : l1AllB q lo hi with
  | false => rfl
  | true =>
    simp only [l1AllB, List.all_eq_true, decide_eq_true_eq] at he
    exact absurd (he x (List.mem_of_getElem? hx)) h

theorem isNums_all {q : List Int} (h : q.length ≤ 12) : l1AllB q 0 ((q.length : Int) - 1) = isNums q := by
  unfold l1AllB isNums
  rw [decide_eq_true h, Bool.true_and]
  congr 1
  funext x
  congr 1
  apply propext
  omega

def resIsNumbers (q : List Int) : Bool := isNums q
/-! ## Sums -/
/-! ## Sorted so that they are falling: the model's -/
end Go.Proofs.YtefkcfkicmfhlaaDoor
/-
  'numbersOfTied' by its contract; 'sumOf' of greater numbers. Written by wip/tools/gen_numst.py.
-/
namespace Go.Proofs.YtefkcfkicmfhlaaDoor
open Go.RowKit

theorem listsC_over (t : Nat → Nat → Bool) (cs : List Nat) {k : Nat} (h : cs.length < k) : listsC t k [] cs = [] := by
  rw [← subsC_size t k [] cs, List.filter_eq_nil_iff]
  intro l hl
  rcases List.mem_cons.1 hl with rfl | hl
  · simp; omega
  · have := subsC_short t [] cs l hl
    simp at this ⊢
    omega
theorem listsC_less (t : Nat → Nat → Bool) : ∀ (k : Nat) (told : List Int) (cs : List Nat), listsC t k told cs = [] → listsC t (k + 1) told cs = [] := by
  intro k told cs
  induction h : k + cs.length using Nat.strongRecOn generalizing k told cs with
  | _ n ih =>
    intro he
    match k, cs with
    | 0, cs => rw [listsC_zero] at he; simp at he
    | k + 1, [] => rw [listsC_nil]
    | k + 1, a :: cs =>
      simp only [List.length_cons] at h
      have h0 : (cs.filter (t a)).length ≤ cs.length := List.length_filter_le _ _
      rw [listsC_cons, List.append_eq_nil_iff] at he
      rw [listsC_cons, ih (k + (cs.filter (t a)).length) (by omega) k _ _ rfl he.1, ih (k + 1 + cs.length) (by omega) (k + 1) _ _ rfl he.2]
      rfl
/-- how many lists there are of 0, 1, .. people -/
def numsK (t : Nat → Nat → Bool) (cs : List Nat) (K : Nat) : List Int := (List.range K).map fun k => ((listsC t k [] cs).length : Int)
theorem numsK_length (t : Nat → Nat → Bool) (cs : List Nat) (K : Nat) : (numsK t cs K).length = K := by simp [numsK]
theorem numsK_succ (t : Nat → Nat → Bool) (cs : List Nat) (K : Nat) : numsK t cs (K + 1) = numsK t cs K ++ [((listsC t K [] cs).length : Int)] := by simp [numsK, List.range_succ]
/-- the least size of which there are none -/
def topK (t : Nat → Nat → Bool) (cs : List Nat) : Nat := (List.range (cs.length + 2)).findIdx fun k => (listsC t k [] cs).isEmpty
theorem topK_lt (t : Nat → Nat → Bool) (cs : List Nat) : topK t cs < (List.range (cs.length + 2)).length :=
  List.findIdx_lt_length_of_exists ⟨cs.length + 1, by simp, by rw [listsC_over t cs (by omega)]; rfl⟩
theorem topK_le (t : Nat → Nat → Bool) (cs : List Nat) : topK t cs ≤ cs.length + 1 := by have := topK_lt t cs; simp at this; omega
theorem topK_none (t : Nat → Nat → Bool) (cs : List Nat) : listsC t (topK t cs) [] cs = [] := by
  have h : (listsC t ((List.range (cs.length + 2))[topK t cs]'(topK_lt t cs)) [] cs).isEmpty = true := List.findIdx_getElem (w := topK_lt t cs)
  rw [List.getElem_range] at h
  simpa using h
theorem topK_some {t : Nat → Nat → Bool} {cs : List Nat} {k : Nat} (h : k < topK t cs) : (listsC t k [] cs).isEmpty = false := by
  have h2 := List.not_of_lt_findIdx h
  simpa using h2
theorem topK_over {t : Nat → Nat → Bool} {cs : List Nat} : ∀ {k : Nat}, topK t cs ≤ k → listsC t k [] cs = [] := by
  intro k
  induction k with
  | zero => intro h; have := topK_none t cs; rwa [show topK t cs = 0 from by omega] at this
  | succ k ih =>
    intro h
    by_cases hk : topK t cs ≤ k
    · exact listsC_less t k [] cs (ih hk)
    · have := topK_none t cs
      rwa [show topK t cs = k + 1 from by omega] at this

def smallI (q : List Int) : Prop := q.length ≤ 100 ∧ ∀ x ∈ q, 0 ≤ x ∧ x ≤ 100000
end Go.Proofs.YtefkcfkicmfhlaaDoor
