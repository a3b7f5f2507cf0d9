/-
  Texts put together for the claim of 'CommonTable' (pack 5): TableS, SzI, FameH, TableI, LawCommonTable, Head, Facts.
-/
import Derived.Test.YthpapkfpcijpoaaCommonTableP1
import Derived.Test.YthpapkfpcijpoaaCommonTableP3
import Derived.Test.YthpapkfpcijpoaaCommonTableP4
import Derived.Deep.RegionLaw
import Derived.Deep.RegionHeld3
import Derived.Test.YthpapkfpcijpoaaRows
/-
  'CommonTable': the model's, by its contracts.
-/
namespace Go.Proofs.Ythpapkfpcijpoaa
open Go.RowKit

set_option maxHeartbeats 4000000 in
set_option maxRecDepth 100000 in
theorem specCommonTable_any (p : Int) (l : PL) (A : Option Addr) (c : Nat) (w : World) (hl : l.length ≤ 1048576) (hA : CRead w w.heap.size A (pcells l)) :
    Calls Try.prog 15 #[.agg #[.int .i64 p, .slice A l.length c]] w (ReadRowsOk w (resCommonTable p l).1 (resCommonTable p l).2) := by
  have hr : CRead (w.alloc (Obj.cells #[.int .i64 p, .slice A l.length c] 31)) (w.alloc (Obj.cells #[.int .i64 p, .slice A l.length c] 31)).heap.size A (pcells l) := (hA.below (B' := w.heap.size) (by go_grown) (Nat.le_refl _)).more (by go_size)
  have call := paGood_any p l A c _ hl hr
  cases hs : isP p l with
  | false =>
    have e : resCommonTable p l = ([], false) := by unfold resCommonTable; rw [hs]; rfl
    rw [e]
    rw [hs] at call
    have Call := Lib.hid call
    clear call hs e
    go_enter Try.func15, Try.ntmps15
    go_wp2_with fail
    refine Call.out.mono ?_
    rintro e w2 ⟨rfl, hb2⟩
    simp only [World.size_alloc] at hb2
    go_wp2
    go_ret2
    exact ⟨none, 0, rfl, SRead.nil _ _ _, Below.trans (b := _) (by go_grown) (hb2.mono (by omega))⟩
  | true =>
    have hn := isP_range hs
    obtain ⟨n, rfl⟩ : ∃ n : Nat, p = n := ⟨p.toNat, by omega⟩
    have hn12 : n ≤ 12 := by omega
    have e : resCommonTable n l = (tabRows n (adj l) n, true) := by unfold resCommonTable; rw [if_pos hs, Int.toNat_natCast]
    rw [e]
    rw [hs] at call
    obtain ⟨i0, hi, hz0, hz1, hz2⟩ := info_parts Try.infoInt
    obtain ⟨i1, hi1, hy0, hy1, hy2⟩ := info_parts Try.infoRowT
    have Call := Lib.hid call
    have Hp := Lib.hid hs
    clear call hs e
    go_enter Try.func15, Try.ntmps15
    go_wp2_with fail
    refine Call.out.mono ?_
    rintro e w2 ⟨rfl, hb2⟩
    have s2 := hb2.size
    have k2 : Below w.heap.size w w2 := Below.trans (b := _) (by go_grown) (hb2.mono (by simp))
    have c0 : w2.cell? ⟨w.heap.size, 0, none⟩ = some (.int .i64 n) := carry hb2 (by simp) (by simp)
    have c1 : w2.cell? ⟨w.heap.size, 1, none⟩ = some (.slice A l.length c) := carry hb2 (by simp) (by simp)
    simp only [World.size_alloc] at s2
    go_wp2_with fail
    refine (paTable_any _ _ _ _ _ Hp.out ((hA.below k2 (Nat.le_refl _)).more k2.size)).mono ?_
    rw [Int.toNat_natCast]
    rintro e w4 ⟨A4, c4, G, rfl, tab, hb4⟩
    have k4 := k2.trans (hb4.mono k2.size)
    have Tab := Lib.hid tab
    have K4 := Lib.hid k4
    clear tab hb2 hb4 c0 c1 k2 s2 k4 hr
    go_wp2
    go_loopw [5, 16] (fun v i wr => ∃ (k : Nat) (R : Nat → Option Addr) (C : Nat → Nat), k ≤ n ∧ i = .int .i64 k ∧ RowsL wr w4.heap.size v (tabRows n (adj l) k) R C ∧ Below w4.heap.size w4 wr) (fun _ i _ => n - (intOf i).toNat)
    case atStart => exact ⟨0, _, _, Nat.zero_le _, rfl, RowsL.none _ _, Below.refl _ _⟩
    case round =>
      obtain ⟨k, R, C, hk, rfl, hG, hb⟩ := hrel
      obtain ⟨wk, hwk⟩ : ∃ x, x = wr := ⟨_, rfl⟩
      subst hwk
      have hsz := hb.size
      by_cases hlt : k < n
      · have hki : (k : Int) < (n : Int) := by omega
        have HG := Lib.hid hG
        clear hG
        go_wp2
        go_loopw [7, 21] (fun v i wx => ∃ j : Nat, j ≤ n ∧ i = .int .i64 j ∧ wx.ownsRow wk.heap.size 3 1 v (tabRow n (adj l) k j).length (icells (tabRow n (adj l) k j)) ∧ Below wk.heap.size wk wx) (fun _ i _ => n - (intOf i).toNat)
        case atStart => exact ⟨0, Nat.zero_le _, rfl, World.ownsRow_nil _ _ _ _, Below.refl _ _⟩
        case round =>
          obtain ⟨j, hj, rfl, hown, hbx⟩ := hrel
          have sx := hbx.size
          by_cases hlt2 : j < n
          · have hji : (j : Int) < (n : Int) := by omega
            have kx := hb.trans (hbx.mono hsz)
            have call := cfCommon_any n k j (adj l) A4 c4 G _ wr hn12 hlt hlt2 (Tab.out.below kx (Nat.le_refl _))
            have hlen := commonL_len n (adj l) k j
            have hsc := tabRow_succ n (adj l) k j
            have hrl := tabRow_len n (adj l) k j
            rw [hlen] at call
            obtain ⟨M, hM⟩ : ∃ M, commonN n (adj l) k j = M := ⟨_, rfl⟩
            rw [hM] at call hsc
            have Hsc := Lib.hid hsc
            have Call := Lib.hid call
            clear call hM hlen hsc kx
            go_wp2_with fail
            refine Call.out.mono ?_
            rintro e w5 ⟨A5, c5, rfl, _, hb5⟩
            have own5 := own_below hown hb5 (Nat.le_refl _)
            have k5 := hbx.trans (hb5.mono sx)
            have s5 := k5.size
            clear hown
            go_wp2_with (at_builtin; refine wpList_append_own _ rfl _ _ 45 rfl wk.heap.size 3 i0 _ 1 8 Try.underlying45 hi hz0 hz1 hz2 rfl (by decide) _ _ _ rfl (own5.alloc _) ⟨w5.heap.size, 0, none⟩ 1 1 [.int .i64 M] rfl rfl (one_cell (by simp)) (one_one rfl) (by unfold maxLen; omega) (by omega) (by simp; omega) ?_; intro v1 w6 hown6 hg6 _)
            have K6 := Lib.hid ((k5.alloc s5 (Obj.cells #[.int .i64 M] 3)).grown hg6 (by simp; omega) (fun k hk => (own5.lt k hk).1))
            go_roundw
            case rel =>
              refine ⟨j + 1, by omega, by go_num, ?_, K6.out⟩
              rw [Hsc.out, icells_append, List.length_append]
              exact hown6
            case measure => simp [intOf]; omega
          · have hjn : j = n := by omega
            subst hjn
            have hge : ¬ ((j : Int) < (j : Int)) := by omega
            have hlen := tabRows_len j (adj l) k
            have hsc := tabRows_succ j (adj l) k
            obtain ⟨L, hL⟩ : ∃ L, tabRow j (adj l) k j = L := ⟨_, rfl⟩
            rw [hL] at hown hsc
            obtain ⟨A5, c5, rfl, _⟩ := own_shape hown
            have hGW := HG.out.below hbx
            have hoW := hGW.own
            have kW : Below w4.heap.size w4 wr := hb.trans (hbx.mono hsz)
            have sW := kW.size
            have hap := HG.out.fresh (own_lies hown) (Nat.le_refl _)
            have HGW := Lib.hid hGW
            have HAp := Lib.hid hap
            have Own2 := Lib.hid hown
            have Hsc := Lib.hid hsc
            clear hGW hap hown hsc hL
            go_wp2_with (at_builtin; refine wpList_append_own _ rfl _ _ 26 rfl w4.heap.size 45 i1 (.slice none 0 0) 1 24 Try.underlying26 hi1 hy0 hy1 hy2 rfl (by decide) _ _ _ rfl (hoW.alloc _) ⟨wr.heap.size, 0, none⟩ 1 1 [.slice A5 L.length c5] rfl rfl (one_cell (by simp)) (one_one rfl) (by unfold maxLen; omega) (by omega) (by simp; omega) ?_; intro v1 w3 hown3 hg3 _)
            have hb3 : Below w4.heap.size w4 w3 := (kW.alloc (by omega) _).grown hg3 (by simp; omega) (fun b hb => (hoW.lt b hb).1)
            have ch3 := RowsL.push (l := L) (HGW.out.below ((Below.refl wr.heap.size wr).alloc (Nat.le_refl _) _)) (own_below (own_lower Own2.out hsz) ((Below.refl wr.heap.size wr).alloc (Nat.le_refl _) _) (Nat.le_refl _)) HAp.out hg3 hown3
            rw [← Hsc.out] at ch3
            have Ch3 := Lib.hid ch3
            have Hb3 := Lib.hid hb3
            clear ch3 hb3 hown3 hg3 hoW
            go_roundw
            case rel => exact ⟨k + 1, _, _, by omega, by go_num, Ch3.out, Hb3.out⟩
            case measure => simp [intOf]; omega
      · have hkl : k = n := by omega
        have hge : ¬ ((k : Int) < (n : Int)) := by omega
        subst hkl
        have hsh := hG.own
        obtain ⟨Av, cv, rfl, _⟩ := own_shape hsh
        have rd := hG.read
        have Rd := Lib.hid rd
        have Kz := Lib.hid (K4.out.trans (hb.mono K4.out.size))
        clear rd hG hsh
        go_wp2
        go_ret2
        exact ⟨Av, cv, rfl, Rd.out, Kz.out⟩
end Go.Proofs.Ythpapkfpcijpoaa
/-
  THE SIZE OF A LIST OF NUMBERS, by the contract of the laws' helper.
-/
namespace Go.Proofs.Ythpapkfpcijpoaa
open Go.RowKit

end Go.Proofs.Ythpapkfpcijpoaa
/-
  LISTS OF LISTS OF NUMBERS AS ARGUMENTS: their size, a copy of one's own (its rows in blocks apart), by contracts of the laws' helpers.
-/
namespace Go.Proofs.Ythpapkfpcijpoaa
open Go.RowKit

def foldSz (l : Int) : List Nat → Int
  | [] => l
  | n :: ns => if szI l n < 0 then -1 else foldSz (szI l n) ns
def szLL (left : Int) (ns : List Nat) : Int := if szI left ns.length < 0 then -1 else foldSz (szI left ns.length) ns
theorem foldSz_ok {ns : List Nat} : ∀ {l : Int}, 0 ≤ l → ¬ foldSz l ns < 0 → (ns.sum : Int) ≤ l := by
  induction ns with
  | nil => intro l h _; simpa using h
  | cons n ns ih =>
    intro l h h2
    unfold foldSz at h2
    split at h2
    · exact absurd (by omega) h2
    · rename_i h3
      have h4 := ih (by omega) h2
      have h5 := szI_len l n h3
      have h6 : szI l n = l - n := by unfold szI; rw [if_neg (by omega)]
      simp only [List.sum_cons]
      omega
theorem szLL_ok {ns : List Nat} (h : ¬ szLL 1048576 ns < 0) : ns.length ≤ 1048576 ∧ ns.sum ≤ 1048576 := by
  unfold szLL at h
  split at h
  · exact absurd (by omega) h
  · rename_i h3
    have h5 := szI_len 1048576 ns.length h3
    have h6 := foldSz_ok (by omega) h
    have h7 := szI_hi 1048576 ns.length (by omega)
    omega
theorem foldSz_hi {ns : List Nat} : ∀ {l : Int}, 0 ≤ l → foldSz l ns ≤ l ∧ -1 ≤ foldSz l ns := by
  induction ns with
  | nil => intro l h; unfold foldSz; omega
  | cons n ns ih =>
    intro l h
    unfold foldSz
    split
    · omega
    · rename_i h3
      have := ih (l := szI l n) (by omega)
      have := szI_hi l n h
      omega
/-! ## A row put under a header that was nil -/
section
variable {w : World} {B n : Nat} {R : Nat → Option Addr} {C N : Nat → Nat} {F : Nat → List Int}
theorem RowsG.put {g c : Nat} (h : RowsG w B (.slice (some ⟨g, 0, none⟩) n c) n R C N F) {k : Nat} (hk : k < n) {l : List Int} {A : Option Addr} {d : Nat}
    (hr : w.ownsRow B 3 1 (.slice A l.length d) l.length (icells l))
    (hap : ∀ i, i < n → i ≠ k → (Value.slice (R i) (N i) (C i)).ownBlock = none ∨ (Value.slice (R i) (N i) (C i)).ownBlock ≠ (Value.slice A l.length d).ownBlock) :
    RowsG (w.setCell ⟨g, k, none⟩ (.slice A l.length d)) B (.slice (some ⟨g, 0, none⟩) n c) n (upN R k A) (upN C k d) (upN N k l.length) (upN F k l) := by
  have hst := h.own.stored k (.slice A l.length d)
  have hob : (Value.slice (some ⟨g, 0, none⟩) n c).ownBlock = some g := by simp [Value.ownBlock]
  refine ⟨?_, fun i hi => ?_, fun i j hi hj hij => ?_⟩
  · have h1 := hst.1
    rw [map_range_set] at h1
    rw [List.map_congr_left (g := upN (fun i => Value.slice (R i) (N i) (C i)) k (.slice A l.length d)) fun i _ => by
      by_cases e : i = k
      · subst e; simp only [upN_self]
      · simp only [upN_ne _ _ e]]
    exact h1
  · by_cases e : i = k
    · subst e
      simp only [upN_self]
      refine ⟨trivial, World.ownsRow.kept hr hst.2 ?_⟩
      rw [← hob]
      exact own_apart hr h.own (by decide)
    · simp only [upN_ne _ _ e]
      refine ⟨(h.row i hi).1, (h.row i hi).2.kept hst.2 ?_⟩
      rw [← hob]
      exact own_apart (h.row i hi).2 h.own (by decide)
  · by_cases e : i = k
    · subst e
      simp only [upN_self, upN_ne _ _ (fun h => hij h.symm)]
      rcases hap j hj (fun h => hij h.symm) with h2 | h2
      · cases hq : (Value.slice A l.length d).ownBlock with
        | none => exact .inl rfl
        | some m => right; rw [h2]; intro e3; cases e3
      · cases hq : (Value.slice A l.length d).ownBlock with
        | none => exact .inl rfl
        | some m => right; intro e3; exact h2 (e3.symm.trans hq.symm)
    · by_cases e2 : j = k
      · subst e2
        simp only [upN_self, upN_ne _ _ e]
        exact hap i hi e
      · simp only [upN_ne _ _ e, upN_ne _ _ e2]
        exact h.apart i j hi hj hij
theorem RowsG.congrN {N' : Nat → Nat} {v : Value} (h : RowsG w B v n R C N F) (e : ∀ i, i < n → N i = N' i) : RowsG w B v n R C N' F := by
  refine ⟨?_, fun i hi => by rw [← e i hi]; exact h.row i hi, fun i j hi hj hij => by rw [← e i hi, ← e j hj]; exact h.apart i j hi hj hij⟩
  rw [List.map_congr_left (g := fun i => Value.slice (R i) (N i) (C i)) fun i hi => by rw [e i (List.mem_range.1 hi)]]
  exact h.own
/-- a row made behind a world is apart from its rows -/
theorem RowsG.fresh {v : Value} (h : RowsG w B v n R C N F) {x : Value} {lo hi : Nat} (hx : Lies x lo hi) (hlo : w.heap.size ≤ lo) : ∀ i, i < n → (Value.slice (R i) (N i) (C i)).ownBlock = none ∨ (Value.slice (R i) (N i) (C i)).ownBlock ≠ x.ownBlock := by
  intro i hi
  cases e1 : (Value.slice (R i) (N i) (C i)).ownBlock with
  | none => exact .inl rfl
  | some k =>
    right
    intro e2
    have h1 := ((h.row i hi).2.lt k e1).2
    have h2 := (hx k e2.symm).1
    omega
theorem RowsG.headAt {g c : Nat} (h : RowsG w B (.slice (some ⟨g, 0, none⟩) n c) n R C N F) {k : Nat} (hk : k < n) : w.cell? ⟨g, k, none⟩ = some (.slice (R k) (N k) (C k)) := by
  rw [h.own.cellAt k (by omega)]
  simp [hk]
end
theorem Try.infoRowI : (Try.prog.info? 45).map (fun i => (i.zero, i.size, i.bytes)) = some (some (.slice none 0 0), 1, 24) := by kernel_rfl
theorem made_rows (n : Nat) : (madeCells #[.slice none 0 0] (n * 1)).toList = (List.range n).map fun _ => Value.slice none 0 0 := by
  rw [Nat.mul_one, toList_madeCells_one]
  apply List.ext_getElem (by simp)
  intro j h1 h2
  simp
/-- the first k rows are those of the list, the others nil -/
def upTo2 (LL : List (List Int)) (k : Nat) : Nat → List Int := fun i => if i < k then LL.getD i [] else []
end Go.Proofs.Ythpapkfpcijpoaa
/-
  'CommonTable': the program's, by its contracts.
-/
namespace Go.Proofs.Ythpapkfpcijpoaa
open Go.RowKit

theorem RowsG.store {w : World} {B n : Nat} {v : Value} {R : Nat → Option Addr} {C N : Nat → Nat} {F : Nat → List Int} (h : RowsG w B v n R C N F) {k : Nat} (hk : k < n) {gk : Nat} (hR : R k = some ⟨gk, 0, none⟩) (j : Nat) (x : Int) :
    RowsG (w.setCell ⟨gk, j, none⟩ (.int .i64 x)) B v n R C N (fun i => if i = k then (F k).set j x else F i) := by
  obtain ⟨hl, ho⟩ := h.row k hk
  have ho' := ho
  rw [hR] at ho'
  have hst := ho'.stored j (.int .i64 x)
  refine h.set hk (by simp [hl]) (by rw [hR]; exact hst.2) ?_
  rw [hR, show icells ((F k).set j x) = (icells (F k)).set j (.int .i64 x) from by simp [icells, List.map_set]]
  exact hst.1
def upRows (n : Nat) (t : Nat → Nat → Bool) (k : Nat) : Nat → List Int := fun i => if i < k then tabRow n t i n else []
def upTab (n : Nat) (t : Nat → Nat → Bool) (k j : Nat) : Nat → List Int := fun i => if i < k then tabRow n t i n else if i = k then tabRow n t k j ++ List.replicate (n - j) 0 else []
theorem tabRow_set {n : Nat} (t : Nat → Nat → Bool) (k j : Nat) (hj : j < n) : (tabRow n t k j ++ List.replicate (n - j) 0).set j (commonN n t k j : Int) = tabRow n t k (j + 1) ++ List.replicate (n - (j + 1)) 0 := by
  rw [List.set_append_right _ _ (by rw [tabRow_len]; exact Nat.le_refl _), tabRow_len, Nat.sub_self, tabRow_succ, List.append_assoc]
  obtain ⟨m, hm⟩ : ∃ m, n - j = m + 1 := ⟨n - j - 1, by omega⟩
  rw [hm, List.replicate_succ, show n - (j + 1) = m by omega]
  rfl
set_option maxHeartbeats 4000000 in
set_option maxRecDepth 100000 in
theorem implCommonTable_any (p : Int) (l : PL) (A : Option Addr) (c : Nat) (w : World) (hl : l.length ≤ 1048576) (hA : CRead w w.heap.size A (pcells l)) :
    Calls Try.prog 17 #[.agg #[.int .i64 p, .slice A l.length c]] w (GotRowsOk w (resCommonTable p l).1 (resCommonTable p l).2) := by
  have hr : CRead (w.alloc (Obj.cells #[.int .i64 p, .slice A l.length c] 31)) (w.alloc (Obj.cells #[.int .i64 p, .slice A l.length c] 31)).heap.size A (pcells l) := (hA.below (B' := w.heap.size) (by go_grown) (Nat.le_refl _)).more (by go_size)
  cases hp : isP p l with
  | false =>
    have e : resCommonTable p l = ([], false) := by unfold resCommonTable; rw [hp]; rfl
    rw [e]
    have Hp := Lib.hid hp
    clear hp e
    go_enter Try.func17, Try.ntmps17
    go_wp2_with fail
    refine (isParty_any _ _ _ _ _ hl hr).mono ?_
    rw [Hp.out]
    rintro e w2 ⟨rfl, hb2⟩
    simp only [World.size_alloc] at hb2
    go_wp2
    go_ret2
    exact ⟨none, 0, _, _, rfl, RowsL.none _ _, Below.trans (b := _) (by go_grown) (hb2.mono (by omega))⟩
  | true =>
    have hn := isP_range hp
    obtain ⟨n, rfl⟩ : ∃ n : Nat, p = n := ⟨p.toNat, by omega⟩
    have hn12 : n ≤ 12 := by omega
    have e : resCommonTable n l = (tabRows n (adj l) n, true) := by unfold resCommonTable; rw [if_pos hp, Int.toNat_natCast]
    rw [e]
    obtain ⟨i0, hi, hz0, hz1, hz2⟩ := info_parts Try.infoInt
    obtain ⟨i1, hi1, hy0, hy1, hy2⟩ := info_parts Try.infoRowT
    have call : ∀ (a b : Nat) (Y : World), a < n → b < n → Calls Try.prog 55 #[.agg (tcells (friendsT l)), .int .i64 a, .int .i64 b] Y fun e w' => e = .returned (.int .i64 (commonN n (adj l) a b)) ∧ Below Y.heap.size Y w' := fun a b Y ha hb =>
      countCommon_any (friendsT_of hp).lt (show a < 12 by omega) (show b < 12 by omega) (common_set hp ha hb) Y
    unfold tcells at call
    have Call := Lib.hid call
    have Hp := Lib.hid hp
    clear call hp e
    go_enter Try.func17, Try.ntmps17
    go_wp2_with fail
    refine (isParty_any _ _ _ _ _ hl hr).mono ?_
    rw [Hp.out]
    rintro e w2 ⟨rfl, hb2⟩
    have s2 := hb2.size
    have k2 : Below w.heap.size w w2 := Below.trans (b := _) (by go_grown) (hb2.mono (by simp))
    have c0 : w2.cell? ⟨w.heap.size, 0, none⟩ = some (.int .i64 n) := carry hb2 (by simp) (by simp)
    have c1 : w2.cell? ⟨w.heap.size, 1, none⟩ = some (.slice A l.length c) := carry hb2 (by simp) (by simp)
    simp only [World.size_alloc] at s2
    go_wp2_with fail
    refine (friendsIn_any _ l A c _ Hp.out ((hA.below k2 (Nat.le_refl _)).more k2.size)).mono ?_
    rintro e w3 ⟨rfl, _, hb3⟩
    have k3 := k2.trans (hb3.mono k2.size)
    have d0 : w3.cell? ⟨w.heap.size, 0, none⟩ = some (.int .i64 n) := carry hb3 c0 (by omega)
    have s3 : w.heap.size < w3.heap.size := by have := hb3.size; omega
    obtain ⟨X, hX⟩ : ∃ X, w3.alloc (Obj.cells (tcells (friendsT l)) 65) = X := ⟨_, rfl⟩
    have row0 : X.rowIs w3.heap.size 65 12 (fun j => .int .u16 (friendsT l j)) := by rw [← hX]; exact rowIs_u16 w3 _ _
    have zX : w3.heap.size < X.heap.size := by rw [← hX]; simp
    have kX : Below w.heap.size w X := by rw [← hX]; exact k3.alloc k3.size _
    have x0 : X.cell? ⟨w.heap.size, 0, none⟩ = some (.int .i64 n) := by rw [← hX]; exact (World.cell?_alloc_lt _ _ _ s3).trans d0
    unfold tcells at hX ⊢
    have HX := Lib.hid hX
    have Row := Lib.hid row0
    have KX := Lib.hid kX
    clear hX row0 kX c0 c1 hb2 hb3 k2 k3 s2 hr
    go_wp2_with (at_make; rw [HX.out]; refine wpList_make_full _ rfl _ _ 26 rfl X.heap.size 45 i1 _ 1 Try.underlying26 hi1 hy0 hy1 _ _ _ _ n rfl rfl (by omega) (by omega) (by rw [hy2]; omega) (by unfold maxLen; omega) (Nat.le_refl _) ?_; intro w4 hown4 hgr4)
    have hb4 : Below X.heap.size X w4 := (Below.refl _ _).grown hgr4 (Nat.le_refl _) (by simp)
    rw [show Value.cells (.slice none 0 0) = #[.slice none 0 0] from rfl, made_rows] at hown4
    have G4 : RowsG w4 X.heap.size (.slice (some ⟨X.heap.size, 0, none⟩) n n) n (fun _ => none) (fun _ => 0) (fun _ => 0) (upRows n (adj l) 0) :=
      ⟨hown4, fun i _ => by rw [show upRows n (adj l) 0 i = [] from if_neg (Nat.not_lt_zero i)]; exact ⟨rfl, World.ownsRow_nil _ _ _ _⟩, fun i j _ _ _ => .inl rfl⟩
    have H4 := Lib.hid G4
    have HB4 := Lib.hid hb4
    clear hown4 hgr4 G4 hb4
    go_wp2_with fail
    go_loopw [18] (fun i wr => ∃ (k : Nat) (R : Nat → Option Addr) (C N : Nat → Nat), k ≤ n ∧ i = .int .i64 k ∧ RowsG wr X.heap.size (.slice (some ⟨X.heap.size, 0, none⟩) n n) n R C N (upRows n (adj l) k) ∧ Below X.heap.size X wr) (fun i _ => n - (intOf i).toNat)
    case atStart => exact ⟨0, _, _, _, Nat.zero_le _, rfl, H4.out, HB4.out⟩
    case round =>
      clear H4 HB4
      obtain ⟨k, R, C, N, hk, rfl, hG, hb⟩ := hrel
      have hs := hb.size
      by_cases hlt : k < n
      · have hki : (k : Int) < (n : Int) := by omega
        have y0 : wr.cell? ⟨w.heap.size, 0, none⟩ = some (.int .i64 n) := carry hb x0 (by omega)
        obtain ⟨wk, hwk⟩ : ∃ x, x = wr := ⟨_, rfl⟩
        subst hwk
        have HG := Lib.hid hG
        clear hG
        go_wp2_with (at_make; refine wpList_make_full _ rfl _ _ 45 rfl wk.heap.size 3 i0 _ 1 Try.underlying45 hi hz0 hz1 _ _ _ _ n rfl rfl (by omega) (by omega) (by rw [hz2]; omega) (by unfold maxLen; omega) (Nat.le_refl _) ?_; intro w5 hown5 hgr5; have kM : Below wk.heap.size wk w5 := (Below.refl _ _).grown hgr5 (Nat.le_refl _) (by simp); have G5 := HG.out.below kM; have cd := G5.headAt hlt; have cf := G5.own.frozenAt k)
        rw [show Value.cells (.int .i64 0) = #[.int .i64 0] from rfl, made_ints] at hown5
        have hap := HG.out.fresh (own_lies hown5) (Nat.le_refl _)
        have G6 := G5.put (l := List.replicate n 0) (A := some ⟨wk.heap.size, 0, none⟩) (d := n) hlt (by rw [List.length_replicate]; exact own_lower hown5 hs) (by rw [List.length_replicate]; exact fun i hi _ => hap i hi)
        rw [List.length_replicate] at G6
        have G7 := Lib.hid (G6.congr (F' := upTab n (adj l) k 0) fun i _ => by
          by_cases e : i = k
          · subst e; rw [upN_self]; unfold upTab; rw [if_neg (Nat.lt_irrefl i), if_pos rfl]; simp [tabRow]
          · rw [upN_ne _ _ e]; unfold upTab upRows
            by_cases h3 : i < k
            · rw [if_pos h3, if_pos h3]
            · rw [if_neg h3, if_neg h3, if_neg e])
        have K7 := Lib.hid ((hb.trans (kM.mono hs)).setCell (p := ⟨X.heap.size, k, none⟩) (Nat.le_refl _) (.slice (some ⟨wk.heap.size, 0, none⟩) n n))
        clear hap G6 G5 hown5 hgr5 kM
        go_wp2_with fail
        go_loopw [32] (fun i wx => ∃ (j : Nat) (R' : Nat → Option Addr) (C' N' : Nat → Nat), j ≤ n ∧ i = .int .i64 j ∧ RowsG wx X.heap.size (.slice (some ⟨X.heap.size, 0, none⟩) n n) n R' C' N' (upTab n (adj l) k j) ∧ R' k = some ⟨wk.heap.size, 0, none⟩ ∧ N' k = n ∧ C' k = n ∧ Below X.heap.size X wx) (fun i _ => n - (intOf i).toNat)
        case atStart => exact ⟨0, _, _, _, Nat.zero_le _, rfl, G7.out, upN_self _ _ _, upN_self _ _ _, upN_self _ _ _, K7.out⟩
        case round =>
          clear G7 K7 cd cf
          obtain ⟨j, R2, C2, N2, hj, rfl, hG2, hR2, hN2, hC2, hb2⟩ := hrel
          by_cases hlt2 : j < n
          · have hji : (j : Int) < (n : Int) := by omega
            have cd := hG2.headAt hlt
            rw [hR2, hN2, hC2] at cd
            obtain ⟨hrl, hro⟩ := hG2.row k hlt
            rw [hR2, hN2, hC2] at hro
            have hlz : (icells (upTab n (adj l) k j k)).length = n := by rw [icells_length, hrl, hN2]
            obtain ⟨z, hz⟩ := getSome (icells (upTab n (adj l) k j k)) j (by omega)
            have Hz := Lib.hid hz
            clear hlz hz
            have row4 : wr.rowIs w3.heap.size 65 12 (fun j => .int .u16 (friendsT l j)) := by obtain ⟨cc, h1, h2⟩ := Row.out; exact ⟨cc, (hb2.block _ zX).trans h1, h2⟩
            have T0 := row4.cell (i := 0) (by omega)
            have T1 := row4.cell (i := 1) (by omega)
            have T2 := row4.cell (i := 2) (by omega)
            have T3 := row4.cell (i := 3) (by omega)
            have T4 := row4.cell (i := 4) (by omega)
            have T5 := row4.cell (i := 5) (by omega)
            have T6 := row4.cell (i := 6) (by omega)
            have T7 := row4.cell (i := 7) (by omega)
            have T8 := row4.cell (i := 8) (by omega)
            have T9 := row4.cell (i := 9) (by omega)
            have T10 := row4.cell (i := 10) (by omega)
            have T11 := row4.cell (i := 11) (by omega)
            have call := fun Y => Call.out k j Y hlt hlt2
            have hset := tabRow_set (adj l) k j hlt2
            obtain ⟨M, hM⟩ : ∃ M : Nat, commonN n (adj l) k j = M := ⟨_, rfl⟩
            simp only [hM] at call hset
            have Call2 := Lib.hid call
            have HG2 := Lib.hid hG2
            have HR2 := Lib.hid hR2
            have HN2 := Lib.hid hN2
            have HC2 := Lib.hid hC2
            have Hset := Lib.hid hset
            have HRo := Lib.hid hro
            clear call hG2 hR2 hN2 hC2 hset hM hrl row4 hro
            go_wp2_with fail
            go_region_law (first
              | (go_simp; go_at_call 55; refine (Call2.out wr.drew).mono ?_; rintro e w6 ⟨rfl, hb6⟩; have kY : Below wr.heap.size wr w6 := (Below.refl _ _).drew.trans hb6; have cd6 : w6.cell? ⟨X.heap.size, k, none⟩ = some (.slice (some ⟨wk.heap.size, 0, none⟩) n n) := carry kY cd (by exact World.block_lt_of_cell? _ _ cd); have own6 := own_below HRo.out kY (Nat.le_refl _); have ce6 := (own6.cellAt j (by omega)).trans Hz.out; have cf6 := own6.frozenAt j)
              | fail)
            all_goals
              have G3 := (HG2.out.below kY).store hlt HR2.out j (M : Int)
              have G8 := Lib.hid (G3.congr (F' := upTab n (adj l) k (j + 1)) fun i _ => by
                by_cases e : i = k
                · rw [if_pos e]
                  unfold upTab
                  rw [if_neg (Nat.lt_irrefl k), if_pos rfl, if_neg (by omega), if_pos e]
                  exact Hset.out
                · rw [if_neg e]
                  unfold upTab
                  rw [if_neg e, if_neg e])
              have K8 := Lib.hid ((hb2.trans (kY.mono hb2.size)).setCell (p := ⟨wk.heap.size, j, none⟩) (show X.heap.size ≤ wk.heap.size from hs) (.int .i64 M))
              clear G3 own6 kY hb6
              go_wp2
              go_roundw
              case rel => exact ⟨j + 1, _, _, _, by omega, by go_num, G8.out, HR2.out, HN2.out, HC2.out, K8.out⟩
              case measure => simp [intOf]; omega
          · have hjn : j = n := by omega
            subst hjn
            have hge : ¬ ((j : Int) < (j : Int)) := by omega
            have G9 := Lib.hid (hG2.congr (F' := upRows j (adj l) (k + 1)) fun i _ => by
              unfold upTab upRows
              by_cases h3 : i < k
              · rw [if_pos h3, if_pos (by omega)]
              · rw [if_neg h3]
                by_cases e : i = k
                · rw [if_pos e, if_pos (by omega), Nat.sub_self, e]; simp
                · rw [if_neg e, if_neg (by omega)])
            clear hG2 hR2 hN2 hC2
            go_wp2
            go_roundw
            case rel => exact ⟨k + 1, _, _, _, by omega, by go_num, G9.out, hb2⟩
            case measure => simp [intOf]; omega
      · have hkl : k = n := by omega
        have hge : ¬ ((k : Int) < (n : Int)) := by omega
        have hgd : ∀ i, i < n → (tabRows n (adj l) n).getD i [] = tabRow n (adj l) i n := fun i hi => by simp [tabRows, List.getD_eq_getElem?_getD, hi]
        have hN : ∀ i, i < n → N i = ((tabRows n (adj l) n).getD i []).length := fun i hi => by rw [← (hG.row i hi).1, hgd i hi]; unfold upRows; rw [if_pos (by omega)]
        have G2 := Lib.hid ((hG.congr (F' := fun i => (tabRows n (adj l) n).getD i []) fun i hi => by rw [hgd i hi]; unfold upRows; rw [if_pos (by omega)]).congrN hN)
        have Hln := Lib.hid (tabRows_len n (adj l) n)
        have Kz := Lib.hid (KX.out.trans (hb.mono (show w.heap.size ≤ X.heap.size by omega)))
        have sX : w.heap.size ≤ X.heap.size := by omega
        clear hG hN hgd
        go_wp2
        go_ret2
        refine ⟨some ⟨X.heap.size, 0, none⟩, n, R, C, by rw [Hln.out]; rfl, ?_, Kz.out⟩
        refine RowsL.lower ?_ sX
        unfold RowsL
        rw [Hln.out]
        exact G2.out
end Go.Proofs.Ythpapkfpcijpoaa
/-
  'laws.FnExactCommonTable' returns true, whatever its arguments: out of the contracts of the model's function and of the program's.
-/
namespace Go.Proofs.Ythpapkfpcijpoaa
open Go.RowKit

set_option maxHeartbeats 4000000 in
set_option maxRecDepth 100000 in
theorem lawCommonTable_any (p0 : Int) (l0 : PL) (A0 : Option Addr) (c0 : Nat) (W : World) (hl0 : l0.length ≤ maxLen) (hA0 : CRead W W.heap.size A0 (pcells l0)) :
    Calls Try.prog 3 #[.agg #[.int .i64 p0, .slice A0 l0.length c0]] W fun e w' => e = .returned (.bool true) ∧ Below W.heap.size W w' := by
  have hone : (0 : Int) ≤ 1 ∧ (1 : Int) ≤ 16777216 := by omega
  by_cases hz0 : szI (1048576) l0.length < 0
  · go_enter Try.func3, Try.ntmps3
    go_wp2_with fail
    refine (szParty_any _ _ _ _ _ hl0 (by omega) (by omega) _).mono ?_
    rintro e w1 ⟨rfl, hb1⟩
    simp only [World.size_alloc] at hb1
    have g1 : Below W.heap.size W w1 := Below.trans (b := _) (by go_grown) (hb1.mono (by omega))
    have s1 := hb1.size
    simp only [World.size_alloc] at s1
    have f1_0 : w1.cell? ⟨W.heap.size, 0, none⟩ = some (.int .i64 p0) := carry hb1 (by simp) (by omega)
    have f1_1 : w1.cell? ⟨W.heap.size, 1, none⟩ = some (.slice A0 l0.length c0) := carry hb1 (by simp) (by omega)
    have k1 : Below W.heap.size W w1 := g1
    go_wp2
    go_ret
    exact ⟨rfl, k1⟩
  have hn0 : l0.length ≤ 1048576 := by have h1 := szI_len _ _ hz0; have h2 := szI_hi (1048576) l0.length (by omega); omega
  have hz0' : 0 ≤ szI (1048576) l0.length := by omega
  have hz0'' : szI (1048576) l0.length ≤ 1048576 := by have h2 := szI_hi (1048576) l0.length (by omega); omega
  obtain ⟨⟨rm, rok⟩, hres⟩ : ∃ r, resCommonTable p0 l0 = r := ⟨_, rfl⟩
  have hrn : rm.length ≤ 1048576 := by have h := (resCommonTable_len p0 l0).1; rw [hres] at h; exact h
  have hrs : sumL rm ≤ 1048576 := by have h := (resCommonTable_len p0 l0).2; rw [hres] at h; exact h
  have hrl : rm.length ≤ maxLen := by unfold maxLen; omega
  have hrr : ∀ l ∈ rm, l.length ≤ maxLen := fun l h => by have := sumL_row h; unfold maxLen; omega
  have hone2 : (0 : Int) ≤ 1 ∧ (1 : Int) ≤ 8388608 := by omega
  have Hres := Lib.hid hres
  clear hres
  go_enter Try.func3, Try.ntmps3
  go_wp2_with fail
  refine (szParty_any _ _ _ _ _ hl0 (by omega) (by omega) _).mono ?_
  rintro e w1 ⟨rfl, hb1⟩
  simp only [World.size_alloc] at hb1
  have g1 : Below W.heap.size W w1 := Below.trans (b := _) (by go_grown) (hb1.mono (by omega))
  have s1 := hb1.size
  simp only [World.size_alloc] at s1
  have f1_0 : w1.cell? ⟨W.heap.size, 0, none⟩ = some (.int .i64 p0) := carry hb1 (by simp) (by omega)
  have f1_1 : w1.cell? ⟨W.heap.size, 1, none⟩ = some (.slice A0 l0.length c0) := carry hb1 (by simp) (by omega)
  have k1 : Below W.heap.size W w1 := g1
  go_wp2_with fail
  refine (toParty_any p0 l0 A0 c0 _ hn0 ((hA0.below k1 (Nat.le_refl _)).more k1.size)).mono ?_
  rintro e w2 ⟨T2, d2, rfl, n2, hb2⟩
  have g2 : Below w1.heap.size w1 w2 := hb2
  have s2 := hb2.size
  have f2_0 := carry g2 f1_0 (by omega)
  have f2_1 := carry g2 f1_1 (by omega)
  have k2 := k1.trans (g2.mono k1.size)
  clear f1_0 f1_1
  have r2 : Lies (.slice T2 l0.length d2) (w1.heap.size) w2.heap.size := own_lies n2
  go_wp2_with fail
  refine (specCommonTable_any p0 l0 _ _ _ hn0 (CRead.of_own n2)).mono ?_
  rw [Hres.out]
  rintro e w3 ⟨T3, d3, rfl, n3, hb3⟩
  have g3 : Below w2.heap.size w2 w3 := hb3
  have s3 := hb3.size
  have f3_0 := carry g3 f2_0 (by omega)
  have f3_1 := carry g3 f2_1 (by omega)
  have o3_0 := own_below n2 g3 (Nat.le_refl _)
  have k3 := k2.trans (g3.mono k2.size)
  clear f2_0 f2_1 n2
  clear o3_0 r2
  go_wp2_with fail
  refine (toParty_any p0 l0 A0 c0 _ hn0 ((hA0.below k3 (Nat.le_refl _)).more k3.size)).mono ?_
  rintro e w4 ⟨T4, d4, rfl, n4, hb4⟩
  have g4 : Below w3.heap.size w3 w4 := hb4
  have s4 := hb4.size
  have f4_0 := carry g4 f3_0 (by omega)
  have f4_1 := carry g4 f3_1 (by omega)
  have m4_0 := n3.below (g4.mono (by omega)) (Nat.le_refl _)
  have k4 := k3.trans (g4.mono k3.size)
  clear f3_0 f3_1 n3
  have r4 : Lies (.slice T4 l0.length d4) (w3.heap.size) w4.heap.size := own_lies n4
  have q5_0 : (w4.alloc (Obj.cells #[.int .i64 p0, .slice T4 l0.length d4] 31)).cell? ⟨W.heap.size, 0, none⟩ = some (.int .i64 p0) := (World.cell?_alloc_lt _ _ _ (show W.heap.size < w4.heap.size by omega)).trans f4_0
  have q5_1 : (w4.alloc (Obj.cells #[.int .i64 p0, .slice T4 l0.length d4] 31)).cell? ⟨W.heap.size, 1, none⟩ = some (.slice A0 l0.length c0) := (World.cell?_alloc_lt _ _ _ (show W.heap.size < w4.heap.size by omega)).trans f4_1
  go_wp2_with fail
  refine (implCommonTable_any p0 l0 _ _ _ hn0 (((CRead.of_own n4).below (B' := w4.heap.size) (by go_grown) (Nat.le_refl _)).more (by go_size))).mono ?_
  rw [Hres.out]
  rintro e w6 ⟨T6, d6, R6, C6, rfl, n6, hb6⟩
  simp only [World.size_alloc] at n6
  simp only [World.size_alloc] at hb6
  have g6 : Below w4.heap.size w4 w6 := Below.trans (b := _) (by go_grown) (hb6.mono (by omega))
  have s6 := hb6.size
  simp only [World.size_alloc] at s6
  have f6_0 := carry g6 f4_0 (by omega)
  have f6_1 := carry g6 f4_1 (by omega)
  have f6_2 : w6.cell? ⟨w4.heap.size, 0, none⟩ = some (.int .i64 p0) := carry hb6 (by simp) (by omega)
  have f6_3 : w6.cell? ⟨w4.heap.size, 1, none⟩ = some (.slice T4 l0.length d4) := carry hb6 (by simp) (by omega)
  have o6_0 := own_below n4 g6 (Nat.le_refl _)
  have m6_0 := m4_0.below (g6.mono (by omega)) (Nat.le_refl _)
  have k6 := k4.trans (g6.mono k4.size)
  clear f4_0 f4_1 n4 m4_0 q5_0 q5_1
  go_wp2_with fail
  refine (eqIntSS_same rm _ _ _ _ _ hrl hrr (RowsL.read n6) (SRead.more m6_0 (by omega))).mono ?_
  rintro e w7 ⟨rfl, hb7⟩
  have g7 : Below w6.heap.size w6 w7 := hb7
  have s7 := hb7.size
  have f7_0 := carry g7 f6_0 (by omega)
  have f7_1 := carry g7 f6_1 (by omega)
  have f7_2 := carry g7 f6_2 (by omega)
  have f7_3 := carry g7 f6_3 (by omega)
  have o7_0 := own_below o6_0 g7 (Nat.le_refl _)
  have m7_0 := m6_0.below (g7.mono (by omega)) (Nat.le_refl _)
  have m7_1 := RowsL.below n6 g7
  have k7 := k6.trans (g7.mono k6.size)
  clear f6_0 f6_1 f6_2 f6_3 o6_0 m6_0 n6
  go_wp2
  go_region_held3 (fun w' => w'.cell? ⟨W.heap.size, 0, none⟩ = some (.int .i64 p0) ∧ w'.cell? ⟨W.heap.size, 1, none⟩ = some (.slice A0 l0.length c0) ∧ w'.cell? ⟨w4.heap.size, 0, none⟩ = some (.int .i64 p0) ∧ w'.cell? ⟨w4.heap.size, 1, none⟩ = some (.slice T4 l0.length d4)) (first | exact ⟨f7_0, f7_1, f7_2, f7_3⟩ | exact ⟨f8_0, f8_1, f8_2, f8_3⟩ | exact ⟨f9_0, f9_1, f9_2, f9_3⟩) ((first | (go_at_call 16; refine (toParty_any p0 l0 A0 c0 _ hn0 ((hA0.below k7.drew (Nat.le_refl _)).more k7.size)).mono ?_; rintro e w8 ⟨T8, d8, rfl, n8, hb8⟩; have g8 : Below w7.heap.size w7 w8 := (Below.refl _ _).drew.trans hb8; have s8 := g8.size; have f8_0 := carry g8 f7_0 (by omega); have f8_1 := carry g8 f7_1 (by omega); have f8_2 := carry g8 f7_2 (by omega); have f8_3 := carry g8 f7_3 (by omega); have o8_0 := own_below o7_0 g8 (Nat.le_refl _); have m8_0 := m7_0.below (g8.mono (by omega)) (Nat.le_refl _); have m8_1 := RowsL.below m7_1 g8; have k8 := k7.trans (g8.mono k7.size)) | (go_at_call 19; refine (eqParty_any p0 p0 l0 l0 _ _ _ _ _ hl0 hl0 (CRead.of_own o8_0) (CRead.of_own n8)).mono ?_; rw [decide_eq_true ⟨rfl, rfl⟩]; rintro e w9 ⟨rfl, hb9⟩; have g9 : Below w8.heap.size w8 w9 := hb9; have s9 := g9.size; have f9_0 := carry g9 f8_0 (by omega); have f9_1 := carry g9 f8_1 (by omega); have f9_2 := carry g9 f8_2 (by omega); have f9_3 := carry g9 f8_3 (by omega); have o9_0 := own_below o8_0 g9 (Nat.le_refl _); have m9_0 := m8_0.below (g9.mono (by omega)) (Nat.le_refl _); have m9_1 := RowsL.below m8_1 g9; have k9 := k8.trans (g9.mono k8.size))))
  clear f7_0 f7_1 f7_2 f7_3 o7_0 f8_0 f8_1 f8_2 f8_3 o8_0 n8 m7_0 m7_1 m8_0 m8_1
  go_wp2_with fail
  refine (markParty_any p0 l0 _ _ _ (1) _ _ rfl hn0 (by omega) o9_0).mono ?_
  rintro e w10 ⟨rfl, n10, hg10⟩
  have s10 := hg10.size
  have f10_0 := carryG hg10 r4 f9_0 (by omega)
  have f10_1 := carryG hg10 r4 f9_1 (by omega)
  have f10_2 := carryG hg10 r4 f9_2 (by omega)
  have f10_3 := carryG hg10 r4 f9_3 (by omega)
  have k10 := belowG k9 hg10 r4 k9.size (by omega)
  have m10_0 := m9_0.below (belowG (Below.refl _ _) hg10 r4 (by omega) (by omega)) (Nat.le_refl _)
  have m10_1 := RowsL.keptG m9_1 hg10 r4 (by omega)
  clear f9_0 f9_1 f9_2 f9_3 o9_0 m9_0 m9_1
  have hmk : ¬ (1 + 2 * (l0.length : Int) < 0) := by omega
  go_wp2_with fail
  refine (eqIntSS_same rm _ _ _ _ _ hrl hrr (RowsL.read m10_1) (SRead.more m10_0 (by omega))).mono ?_
  rintro e w11 ⟨rfl, hb11⟩
  have g11 : Below w10.heap.size w10 w11 := hb11
  have s11 := hb11.size
  have f11_0 := carry g11 f10_0 (by omega)
  have f11_1 := carry g11 f10_1 (by omega)
  have f11_2 := carry g11 f10_2 (by omega)
  have f11_3 := carry g11 f10_3 (by omega)
  have o11_0 := own_below n10 g11 (Nat.le_refl _)
  have m11_0 := m10_0.below (g11.mono (by omega)) (Nat.le_refl _)
  have m11_1 := RowsL.below m10_1 g11
  have k11 := k10.trans (g11.mono k10.size)
  clear f10_0 f10_1 f10_2 f10_3 n10 m10_0 m10_1
  clear o11_0 r4
  go_wp2_with fail
  refine (markIntSS_rows rm _ _ 1 _ _ _ _ hrn hrs hone2 (by omega) m11_1).mono ?_
  rintro e w12 ⟨rfl, n12, hb12⟩
  have s12 := hb12.size
  have f12_0 := carry hb12 f11_0 (by omega)
  have f12_1 := carry hb12 f11_1 (by omega)
  have f12_2 := carry hb12 f11_2 (by omega)
  have f12_3 := carry hb12 f11_3 (by omega)
  have k12 := k11.trans (hb12.mono (by have := k11.size; omega))
  have m12_0 := m11_0.below (hb12.mono (by omega)) (Nat.le_refl _)
  clear f11_0 f11_1 f11_2 f11_3 m11_0 m11_1
  have hmr : ¬ (1 + (sumL rm : Int) < 0) := by omega
  go_wp2_with fail
  refine (heldIntSS_rows rm _ _ 1 _ _ _ _ hrn hrs hone2 n12).mono ?_
  rintro e w13 ⟨rfl, h13⟩
  subst h13
  go_wp2_with fail
  refine (toParty_any p0 l0 A0 c0 _ hn0 ((hA0.below k12 (Nat.le_refl _)).more k12.size)).mono ?_
  rintro e w14 ⟨T14, d14, rfl, n14, hb14⟩
  have g14 : Below w12.heap.size w12 w14 := hb14
  have s14 := hb14.size
  have f14_0 := carry g14 f12_0 (by omega)
  have f14_1 := carry g14 f12_1 (by omega)
  have f14_2 := carry g14 f12_2 (by omega)
  have f14_3 := carry g14 f12_3 (by omega)
  have m14_0 := m12_0.below (g14.mono (by omega)) (Nat.le_refl _)
  have m14_1 := MarkedL.below n12 g14
  have k14 := k12.trans (g14.mono k12.size)
  clear f12_0 f12_1 f12_2 f12_3 m12_0 n12
  have r14 : Lies (.slice T14 l0.length d14) (w12.heap.size) w14.heap.size := own_lies n14
  go_wp2_with fail
  refine (implCommonTable_any p0 l0 _ _ _ hn0 (CRead.of_own n14)).mono ?_
  rw [Hres.out]
  rintro e w15 ⟨T15, d15, R15, C15, rfl, n15, hb15⟩
  have g15 : Below w14.heap.size w14 w15 := hb15
  have s15 := hb15.size
  have f15_0 := carry g15 f14_0 (by omega)
  have f15_1 := carry g15 f14_1 (by omega)
  have f15_2 := carry g15 f14_2 (by omega)
  have f15_3 := carry g15 f14_3 (by omega)
  have o15_0 := own_below n14 g15 (Nat.le_refl _)
  have m15_0 := m14_0.below (g15.mono (by omega)) (Nat.le_refl _)
  have m15_1 := MarkedL.below m14_1 g15
  have k15 := k14.trans (g15.mono k14.size)
  clear f14_0 f14_1 f14_2 f14_3 n14 m14_0 m14_1
  have p15 := RowsL.read n15
  clear o15_0 r14
  go_wp2_with fail
  refine (eqIntSS_same rm _ _ _ _ _ hrl hrr (SRead.more p15 (by omega)) (SRead.more m15_0 (by omega))).mono ?_
  rintro e w16 ⟨rfl, hb16⟩
  have g16 : Below w15.heap.size w15 w16 := hb16
  have s16 := hb16.size
  have f16_0 := carry g16 f15_0 (by omega)
  have f16_1 := carry g16 f15_1 (by omega)
  have f16_2 := carry g16 f15_2 (by omega)
  have f16_3 := carry g16 f15_3 (by omega)
  have m16_0 := m15_0.below (g16.mono (by omega)) (Nat.le_refl _)
  have m16_1 := MarkedL.below m15_1 g16
  have m16_2 := p15.below (g16.mono (by omega)) (Nat.le_refl _)
  have k16 := k15.trans (g16.mono k15.size)
  clear f15_0 f15_1 f15_2 f15_3 m15_0 m15_1 p15
  go_wp2_with fail
  refine (heldIntSS_rows rm _ _ 1 _ _ _ _ hrn hrs hone2 m16_1).mono ?_
  rintro e w17 ⟨rfl, h17⟩
  subst h17
  go_wp2
  go_ret
  exact ⟨rfl, k16⟩
end Go.Proofs.Ythpapkfpcijpoaa
/-
  THE PROGRAM's HEAD, LOOKED AT ONCE: which make it is, and that a call may enter it. (The head's text is long: the kernel must not read it twice.)
-/
namespace Go.Proofs.Ythpapkfpcijpoaa

theorem make_of {P : Program} {rest : List (List Char)} (h : behindMainWord (wordsSigns P.initOrder.toList) = "cut".toList :: rest) : P.make = some .cut := by
  unfold Program.make
  rw [h]
  rfl
theorem strip_cut (rest : List (List Char)) : stripLifts liftWords ("cut".toList :: rest) = ([], "cut".toList :: rest) := rfl
theorem lifts_of {P : Program} {rest : List (List Char)} (h : behindMainWord (wordsSigns P.initOrder.toList) = "cut".toList :: rest) : P.headLifts = [] := by
  unfold Program.headLifts
  rw [h, strip_cut]
  rfl
theorem final_of {P : Program} {rest : List (List Char)} (h : behindMainWord (wordsSigns P.initOrder.toList) = "cut".toList :: rest) : P.liftsFinal = false := by
  unfold Program.liftsFinal
  rw [lifts_of h, h]
  rfl
theorem enter_of {P : Program} {rest : List (List Char)} (h : behindMainWord (wordsSigns P.initOrder.toList) = "cut".toList :: rest) (h1 : P.laysLater = false) (h2 : P.bearsReflect = false) (h3 : P.doorFits [] = true) : P.mayEnter = true := by
  unfold Program.mayEnter
  rw [h]
  show (_ || _ || _) = true
  rw [strip_cut, h1, h2, h3]
  rfl
end Go.Proofs.Ythpapkfpcijpoaa
/-
  THE PROGRAM's CLOSED FACTS, EACH ONCE; and how a row's facts are put together out of them.
-/
namespace Go.Proofs.Ythpapkfpcijpoaa
open Go.ChangeShapes Go.WideShapes Go.ChangeAt Go.RowKit

def headSigns : List Char := ([104, 97, 114, 110, 101, 115, 115, 32, 52, 101, 57, 49, 97, 50, 49, 55, 98, 99, 56, 49, 48, 49, 57, 55, 99, 98, 54, 48, 98, 51, 50, 53, 53, 55, 99, 100, 51, 57, 53, 50, 48, 54, 98, 49, 54, 102, 57, 51, 99, 101, 50, 56, 56, 101, 49, 97, 50, 100, 101, 49, 101, 98, 56, 97, 100, 53, 49, 54, 102, 56, 99, 101, 32, 99, 117, 116, 32, 97, 116, 32, 108, 111, 111, 112, 46, 101, 120, 97, 109, 112, 108, 101, 47, 103, 48, 49, 50, 53, 55, 47, 108, 97, 119, 115, 46, 70, 110, 69, 120, 97, 99, 116, 67, 111, 109, 109, 111, 110, 84, 97, 98, 108, 101, 32, 108, 111, 111, 112, 46, 101, 120, 97, 109, 112, 108, 101, 47, 103, 48, 49, 50, 53, 55, 47, 108, 97, 119, 115, 46, 70, 110, 69, 120, 97, 99, 116, 73, 115, 70, 114, 105, 101, 110, 100, 108, 121, 32, 108, 111, 111, 112, 46, 101, 120, 97, 109, 112, 108, 101, 47, 103, 48, 49, 50, 53, 55, 47, 108, 97, 119, 115, 46, 70, 110, 69, 120, 97, 99, 116, 87, 105, 110, 100, 109, 105, 108, 108, 80, 97, 114, 116, 121, 32, 108, 111, 111, 112, 46, 101, 120, 97, 109, 112, 108, 101, 47, 103, 48, 49, 50, 53, 55, 47, 108, 97, 119, 115, 46, 70, 110, 69, 120, 97, 99, 116, 73, 115, 87, 105, 110, 100, 109, 105, 108, 108, 32, 108, 111, 111, 112, 46, 101, 120, 97, 109, 112, 108, 101, 47, 103, 48, 49, 50, 53, 55, 47, 108, 97, 119, 115, 46, 70, 110, 69, 120, 97, 99, 116, 80, 111, 108, 105, 116, 105, 99, 105, 97, 110, 79, 102, 32, 108, 111, 111, 112, 46, 101, 120, 97, 109, 112, 108, 101, 47, 103, 48, 49, 50, 53, 55, 47, 108, 97, 119, 115, 46, 70, 110, 69, 120, 97, 99, 116, 69, 113, 117, 97, 108, 78, 117, 109, 98, 101, 114, 32, 108, 111, 111, 112, 46, 101, 120, 97, 109, 112, 108, 101, 47, 103, 48, 49, 50, 53, 55, 47, 108, 97, 119, 115, 46, 70, 110, 69, 120, 97, 99, 116, 83, 116, 114, 111, 110, 103, 78, 117, 109, 98, 101, 114, 115, 32, 108, 111, 111, 112, 46, 101, 120, 97, 109, 112, 108, 101, 47, 103, 48, 49, 50, 53, 55, 47, 108, 97, 119, 115, 46, 70, 110, 69, 120, 97, 99, 116, 67, 105, 114, 99, 108, 101, 80, 97, 114, 116, 121, 32, 108, 111, 111, 112, 46, 101, 120, 97, 109, 112, 108, 101, 47, 103, 48, 49, 50, 53, 55, 47, 108, 97, 119, 115, 46, 70, 110, 69, 120, 97, 99, 116, 80, 97, 105, 114, 80, 97, 114, 116, 121, 32, 108, 111, 111, 112, 46, 101, 120, 97, 109, 112, 108, 101, 47, 103, 48, 49, 50, 53, 55, 47, 108, 97, 119, 115, 46, 70, 110, 69, 120, 97, 99, 116, 76, 105, 110, 101, 115, 79, 102, 32, 108, 111, 111, 112, 46, 101, 120, 97, 109, 112, 108, 101, 47, 103, 48, 49, 50, 53, 55, 47, 108, 97, 119, 115, 46, 70, 110, 69, 120, 97, 99, 116, 77, 111, 115, 116, 80, 101, 111, 112, 108, 101] : List Nat).map Char.ofNat
set_option maxRecDepth 100000 in
theorem Try.initOrder_is : Try.prog.initOrder = String.ofList headSigns := by kernel_rfl
theorem Try.initOrder_signs : Try.prog.initOrder.toList = headSigns := by rw [Try.initOrder_is]; exact String.toList_ofList
set_option maxRecDepth 100000 in
theorem head_words : (behindMainWord (wordsSigns headSigns)).take 1 = ["cut".toList] := by kernel_rfl
theorem Try.words : ∃ rest, behindMainWord (wordsSigns Try.prog.initOrder.toList) = "cut".toList :: rest := by
  rw [Try.initOrder_signs]
  have h := List.take_append_drop 1 (behindMainWord (wordsSigns headSigns))
  rw [head_words] at h
  exact ⟨_, h.symm⟩
theorem Try.make : Try.prog.make = some .cut := by obtain ⟨_, h⟩ := Try.words; exact make_of h
theorem Try.liftsFinal : Try.prog.liftsFinal = false := by obtain ⟨_, h⟩ := Try.words; exact final_of h
theorem Try.laysLater : Try.prog.laysLater = false := by kernel_rfl
theorem Try.bearsReflect : Try.prog.bearsReflect = false := by kernel_rfl
theorem Try.doorFits : Try.prog.doorFits [] = true := by kernel_rfl
theorem Try.mayEnter : Try.prog.mayEnter = true := by obtain ⟨_, h⟩ := Try.words; exact enter_of h Try.laysLater Try.bearsReflect Try.doorFits
theorem Try.mapsRowed : mapsRowed Try.prog = true := by kernel_rfl
theorem Try.stops : (Try.prog.stops == []) = true := by kernel_rfl
theorem Try.stopKnobs : (Try.prog.stopKnobs == []) = true := by kernel_rfl
theorem Try.plainKeys : Try.prog.plainKeys = true := by kernel_rfl
theorem Try.stopsHeard : Try.prog.stopsHeard = true := by kernel_rfl

/-- What the types of one law give: closed facts on its parameters and its result. -/
def typeFacts (P : Program) (fn : Func) (s : ChangeSpec) (c : OpenClaim) : Bool :=
  fn.params.all (P.readableRec ·) && namedTie P c.named s.vars && (c.stops == []) && (c.knobs == []) &&
  (c.maps == (fn.params.toList ++ s.plain.varTypes P).any (P.mapsRec ·)) && (c.ifaces == (fn.params.toList ++ s.plain.varTypes P).any (P.ifacesRec ·)) && (c.mapsOut == P.mapsAmong fn.resultTypes.toList) &&
  (c.loops == (fn.params.toList ++ s.plain.varTypes P).any (P.loopsFrom ·)) && (c.wideKeys == (fn.params.toList ++ s.plain.varTypes P ++ fn.resultTypes.toList).any (P.wideKeysFrom ·)) &&
  s.vars.all (P.varReadable ·) && fn.resultTypes.all (fun t => P.readableRec t && decide (t < P.types.size)) && (c.ifacesOut == fn.resultTypes.toList.any (P.ifacesRec ·)) && (c.loopsOut == fn.resultTypes.toList.any (P.loopsFrom ·)) && c.shortTexts.isNone &&
  (c.kinds == (if c.domain.isEmpty then [] else fn.params.toList.map fun t => match P.underlying t with | some (.int k) => some k | _ => none)) && (c.pinned == c.pinnedBy) &&
  (c.veiled == (fn.params.toList ++ s.plain.varTypes P ++ fn.resultTypes.toList).any (P.veiledRec ·)) && c.veiledFits P fn.params.toList (fn.params.toList ++ s.plain.varTypes P ++ fn.resultTypes.toList)
theorem joined_all {P : Program} {f : FuncId} {fn : Func} {s : ChangeSpec} {c : OpenClaim} (k1 : c.wf (OpenSpec.ofChange s) = true) (kt : typeFacts P fn s c = true)
    (k10 : (c.inPlace == P.inPlace f) = true) (k11 : (c.unfollowed == P.unfollowed f) = true) (k12 : (c.recurses == P.recurses f) = true) (k13 : (c.named == P.varsNamed f) = true)
    (e2 : laidOutB P = true) (e3 : mapsRowed P = true) (e7 : (P.stops == []) = true) (e9 : (P.stopKnobs == []) = true) (e22 : (c.plainKeys == P.plainKeys) = true) (e23 : P.stopsHeard = true) (e24 : P.mayEnter = true)
    (e24b : (c.lifted == P.liftsFinal) = true) (e24c : (P.make == some c.make) = true) : joinedFacts P f fn s c = true := by
  unfold typeFacts at kt
  unfold joinedFacts
  simp only [Bool.and_eq_true] at kt ⊢
  obtain ⟨⟨⟨⟨⟨⟨⟨⟨⟨⟨⟨⟨⟨⟨⟨⟨⟨t1, t2⟩, t3⟩, t4⟩, t5⟩, t6⟩, t7⟩, t8⟩, t9⟩, t10⟩, t11⟩, t12⟩, t13⟩, t14⟩, t15⟩, t16⟩, t17⟩, t18⟩ := kt
  exact ⟨⟨⟨⟨⟨⟨⟨⟨⟨⟨⟨⟨⟨⟨⟨⟨⟨⟨⟨⟨⟨⟨⟨⟨⟨⟨⟨⟨⟨⟨⟨k1, e2⟩, e3⟩, t1⟩, t2⟩, t3⟩, e7⟩, t4⟩, e9⟩, k10⟩, k11⟩, k12⟩, k13⟩, t5⟩, t6⟩, t7⟩, t8⟩, t9⟩, t10⟩, t11⟩, t12⟩, t13⟩, e22⟩, t14⟩, e23⟩, e24⟩, e24b⟩, e24c⟩, t15⟩, t16⟩, t17⟩, t18⟩
theorem joined_of {f : FuncId} {fn : Func} {s : ChangeSpec} {c : OpenClaim} (k1 : c.wf (OpenSpec.ofChange s) = true) (kt : typeFacts Try.prog fn s c = true)
    (k10 : (c.inPlace == Try.prog.inPlace f) = true) (k11 : (c.unfollowed == Try.prog.unfollowed f) = true) (k12 : (c.recurses == Try.prog.recurses f) = true) (k13 : (c.named == Try.prog.varsNamed f) = true)
    (k22 : c.plainKeys = true) (k24b : c.lifted = false) (k24c : c.make = .cut) : joinedFacts Try.prog f fn s c = true :=
  joined_all k1 kt k10 k11 k12 k13 Try.laidOut Try.mapsRowed Try.stops Try.stopKnobs (by rw [k22, Try.plainKeys]; rfl) Try.stopsHeard Try.mayEnter (by rw [k24b, Try.liftsFinal]; rfl) (by rw [k24c, Try.make]; rfl)
end Go.Proofs.Ythpapkfpcijpoaa
