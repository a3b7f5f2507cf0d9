/-
  Texts put together for the claim of 'QuestionsForStar' (pack 3): FameH, Of, Other, Meet, MeetW, PairsOf, OtherP, Friends, ChooseP, Choice, Shelf, ContI.
-/
import Derived.Test.YtgkedgfbncljbaaQuestionsForStarP2
import Derived.Deep.RegionHeld3
import Derived.Deep.RegionWith
import Derived.Shelf.Small.Bits
import Derived.Shelf.Spec.SlicesGrow
import Derived.Ground.Names8Prog
import Derived.Shelf.SortG.Plain
import Derived.Shelf.SlicesG.CompactI
import Derived.Shelf.SlicesG.SearchI
import Derived.Shelf.SlicesG.Turned
import Derived.Shelf.SlGeneric
import Derived.Ground.SlgnProg
import Derived.Ground.NamesProg
import Derived.Test.YtgkedgfbncljbaaProg
/-
  LISTS OF LISTS OF NUMBERS AS ARGUMENTS: their size, a copy of one's own (its rows in blocks apart), by contracts of the laws' helpers.
-/
namespace Go.Proofs.Ytgkedgfbncljbaa
open Go.RowKit

def foldSz (l : Int) : List Nat → Int
  | [] => l
  | n :: ns => if szI l n < 0 then -1 else foldSz (szI l n) ns
def szLL (left : Int) (ns : List Nat) : Int := if szI left ns.length < 0 then -1 else foldSz (szI left ns.length) ns
theorem foldSz_ok {ns : List Nat} : ∀ {l : Int}, 0 ≤ l → ¬ foldSz l ns < 0 → (ns.sum : Int) ≤ l := by
  induction ns with
  | nil => intro l h _; simpa using h
  | cons n ns ih =>
    intro l h h2
    unfold foldSz at h2
    split at h2
    · exact absurd (by omega) h2
    · rename_i h3
      have h4 := ih (by omega) h2
      have h5 := szI_len l n h3
      have h6 : szI l n = l - n := by unfold szI; rw [if_neg (by omega)]
      simp only [List.sum_cons]
      omega
theorem szLL_ok {ns : List Nat} (h : ¬ szLL 1048576 ns < 0) : ns.length ≤ 1048576 ∧ ns.sum ≤ 1048576 := by
  unfold szLL at h
  split at h
  · exact absurd (by omega) h
  · rename_i h3
    have h5 := szI_len 1048576 ns.length h3
    have h6 := foldSz_ok (by omega) h
    have h7 := szI_hi 1048576 ns.length (by omega)
    omega
theorem foldSz_hi {ns : List Nat} : ∀ {l : Int}, 0 ≤ l → foldSz l ns ≤ l ∧ -1 ≤ foldSz l ns := by
  induction ns with
  | nil => intro l h; unfold foldSz; omega
  | cons n ns ih =>
    intro l h
    unfold foldSz
    split
    · omega
    · rename_i h3
      have := ih (l := szI l n) (by omega)
      have := szI_hi l n h
      omega
set_option maxHeartbeats 400000 in
theorem szIntS_any (ad : Option Addr) (n cap : Nat) (left : Int) (hn : n ≤ maxLen) (h0 : 0 ≤ left) (h1 : left ≤ 1048576) (w : World) :
    Calls Try.prog 82 #[.slice ad n cap, .int .i64 left] w fun e w' => e = .returned (.int .i64 (szI left n)) ∧ w = w' := by
  unfold maxLen at hn
  by_cases h : left - n < 0
  · have e : szI left n = -1 := if_pos h
    rw [e]
    go_enter Try.func82, Try.ntmps82
    go_wp2
    go_ret
    exact ⟨rfl, rfl⟩
  · have e : szI left n = left - n := if_neg h
    rw [e]
    go_enter Try.func82, Try.ntmps82
    go_wp2
    go_ret
    exact ⟨rfl, rfl⟩
set_option maxHeartbeats 2000000 in
set_option maxRecDepth 100000 in
theorem szIntSS_any (LL : List (List Int)) (A : Option Addr) (c : Nat) (w : World) (hl : LL.length ≤ maxLen) (hr : ∀ l ∈ LL, l.length ≤ maxLen) (hA : SRead w w.heap.size A LL) :
    Calls Try.prog 34 #[.slice A LL.length c, .int .i64 1048576] w fun e w' => e = .returned (.int .i64 (szLL 1048576 (LL.map List.length))) ∧ w = w' := by
  unfold maxLen at hl
  obtain ⟨R, hR⟩ : ∃ R, szLL 1048576 (LL.map List.length) = R := ⟨_, rfl⟩
  rw [hR]
  by_cases h : (1048576 : Int) - LL.length < 0
  · have e : R = -1 := by
      rw [← hR]
      unfold szLL
      rw [List.length_map, if_pos (by unfold szI; rw [if_pos h]; omega)]
    subst e
    clear hR
    go_enter Try.func34, Try.ntmps34
    go_wp2
    go_ret
    exact ⟨rfl, rfl⟩
  · have e : foldSz (1048576 - (LL.length : Int)) (LL.map List.length) = R := by
      rw [← hR]
      unfold szLL
      have h2 : szI 1048576 LL.length = 1048576 - (LL.length : Int) := if_neg h
      rw [List.length_map, h2, if_neg h]
    have HR := Lib.hid e
    have HL := Lib.hid hr
    clear hR e hr
    go_enter Try.func34, Try.ntmps34
    go_wp2
    go_loop [1, 5] (fun q i => ∃ (k : Nat) (cur : Int), k ≤ LL.length ∧ i = .int .i64 k ∧ q = .int .i64 cur ∧ 0 ≤ cur ∧ cur ≤ 1048576 ∧ foldSz cur ((LL.drop k).map List.length) = R) (fun _ i => LL.length - (intOf i).toNat)
    case atStart => exact ⟨0, _, Nat.zero_le _, rfl, rfl, by omega, by omega, by rw [List.drop_zero]; exact HR.out⟩
    case round =>
      obtain ⟨k, cur, hk, rfl, rfl, hc0, hc1, hf⟩ := hrel
      have Hf := Lib.hid hf
      clear hf
      by_cases hlt : k < LL.length
      · obtain ⟨l, hx⟩ := getSome LL k hlt
        obtain ⟨b, off, A1, c1, rfl, hb1, d1, _⟩ := hA k l hx
        have hll := HL.out l (List.mem_of_getElem? hx)
        have hki : (k : Int) < (LL.length : Int) := by omega
        have hd : (LL.drop k).map List.length = l.length :: (LL.drop (k + 1)).map List.length := by
          rw [List.drop_eq_getElem_cons hlt, List.map_cons]
          congr 2
          have := (List.getElem?_eq_some_iff.1 hx).2
          exact this
        have Hd := Lib.hid hd
        clear hd hx
        by_cases hneg : szI cur l.length < 0
        · have e2 : R = -1 := by rw [← Hf.out, Hd.out]; unfold foldSz; rw [if_pos hneg]
          have e3 : szI cur l.length = -1 := by unfold szI at hneg ⊢; split <;> simp_all
          subst e2
          have call := szIntS_any A1 l.length c1 cur hll hc0 hc1 w
          rw [e3] at call
          have Call := Lib.hid call
          clear call e3 hneg
          go_wp2_with fail
          refine Call.out.mono ?_
          rintro e w2 ⟨rfl, rfl⟩
          go_wp2
          go_ret
          exact ⟨rfl, rfl⟩
        · have e2 : foldSz (szI cur l.length) ((LL.drop (k + 1)).map List.length) = R := by rw [← Hf.out, Hd.out, foldSz, if_neg hneg]
          have h5 := szI_hi cur l.length hc0
          have call := szIntS_any A1 l.length c1 cur hll hc0 hc1 w
          obtain ⟨nx, hnx⟩ : ∃ nx, szI cur l.length = nx := ⟨_, rfl⟩
          rw [hnx] at call e2 h5 hneg
          have Call := Lib.hid call
          have E2 := Lib.hid e2
          clear call e2 hnx
          go_wp2_with fail
          refine Call.out.mono ?_
          rintro e w2 ⟨rfl, rfl⟩
          go_wp2
          go_round
          case rel => exact ⟨k + 1, nx, by omega, by go_num, rfl, by omega, by omega, E2.out⟩
          case measure => simp [intOf]; omega
      · have hkl : k = LL.length := by omega
        have hge : ¬ ((k : Int) < (LL.length : Int)) := by omega
        have e2 : cur = R := by rw [← Hf.out, hkl, List.drop_length]; rfl
        subst e2
        go_wp2
        go_ret
        exact ⟨rfl, rfl⟩
/-! ## A row put under a header that was nil -/
section
variable {w : World} {B n : Nat} {R : Nat → Option Addr} {C N : Nat → Nat} {F : Nat → List Int}
theorem RowsG.put {g c : Nat} (h : RowsG w B (.slice (some ⟨g, 0, none⟩) n c) n R C N F) {k : Nat} (hk : k < n) {l : List Int} {A : Option Addr} {d : Nat}
    (hr : w.ownsRow B 3 1 (.slice A l.length d) l.length (icells l))
    (hap : ∀ i, i < n → i ≠ k → (Value.slice (R i) (N i) (C i)).ownBlock = none ∨ (Value.slice (R i) (N i) (C i)).ownBlock ≠ (Value.slice A l.length d).ownBlock) :
    RowsG (w.setCell ⟨g, k, none⟩ (.slice A l.length d)) B (.slice (some ⟨g, 0, none⟩) n c) n (upN R k A) (upN C k d) (upN N k l.length) (upN F k l) := by
  have hst := h.own.stored k (.slice A l.length d)
  have hob : (Value.slice (some ⟨g, 0, none⟩) n c).ownBlock = some g := by simp [Value.ownBlock]
  refine ⟨?_, fun i hi => ?_, fun i j hi hj hij => ?_⟩
  · have h1 := hst.1
    rw [map_range_set] at h1
    rw [List.map_congr_left (g := upN (fun i => Value.slice (R i) (N i) (C i)) k (.slice A l.length d)) fun i _ => by
      by_cases e : i = k
      · subst e; simp only [upN_self]
      · simp only [upN_ne _ _ e]]
    exact h1
  · by_cases e : i = k
    · subst e
      simp only [upN_self]
      refine ⟨trivial, World.ownsRow.kept hr hst.2 ?_⟩
      rw [← hob]
      exact own_apart hr h.own (by decide)
    · simp only [upN_ne _ _ e]
      refine ⟨(h.row i hi).1, (h.row i hi).2.kept hst.2 ?_⟩
      rw [← hob]
      exact own_apart (h.row i hi).2 h.own (by decide)
  · by_cases e : i = k
    · subst e
      simp only [upN_self, upN_ne _ _ (fun h => hij h.symm)]
      rcases hap j hj (fun h => hij h.symm) with h2 | h2
      · cases hq : (Value.slice A l.length d).ownBlock with
        | none => exact .inl rfl
        | some m => right; rw [h2]; intro e3; cases e3
      · cases hq : (Value.slice A l.length d).ownBlock with
        | none => exact .inl rfl
        | some m => right; intro e3; exact h2 (e3.symm.trans hq.symm)
    · by_cases e2 : j = k
      · subst e2
        simp only [upN_self, upN_ne _ _ e]
        exact hap i hi e
      · simp only [upN_ne _ _ e, upN_ne _ _ e2]
        exact h.apart i j hi hj hij
theorem RowsG.congrN {N' : Nat → Nat} {v : Value} (h : RowsG w B v n R C N F) (e : ∀ i, i < n → N i = N' i) : RowsG w B v n R C N' F := by
  refine ⟨?_, fun i hi => by rw [← e i hi]; exact h.row i hi, fun i j hi hj hij => by rw [← e i hi, ← e j hj]; exact h.apart i j hi hj hij⟩
  rw [List.map_congr_left (g := fun i => Value.slice (R i) (N i) (C i)) fun i hi => by rw [e i (List.mem_range.1 hi)]]
  exact h.own
/-- a row made behind a world is apart from its rows -/
theorem RowsG.fresh {v : Value} (h : RowsG w B v n R C N F) {x : Value} {lo hi : Nat} (hx : Lies x lo hi) (hlo : w.heap.size ≤ lo) : ∀ i, i < n → (Value.slice (R i) (N i) (C i)).ownBlock = none ∨ (Value.slice (R i) (N i) (C i)).ownBlock ≠ x.ownBlock := by
  intro i hi
  cases e1 : (Value.slice (R i) (N i) (C i)).ownBlock with
  | none => exact .inl rfl
  | some k =>
    right
    intro e2
    have h1 := ((h.row i hi).2.lt k e1).2
    have h2 := (hx k e2.symm).1
    omega
theorem RowsG.headAt {g c : Nat} (h : RowsG w B (.slice (some ⟨g, 0, none⟩) n c) n R C N F) {k : Nat} (hk : k < n) : w.cell? ⟨g, k, none⟩ = some (.slice (R k) (N k) (C k)) := by
  rw [h.own.cellAt k (by omega)]
  simp [hk]
end
theorem Try.infoRowI : (Try.prog.info? 38).map (fun i => (i.zero, i.size, i.bytes)) = some (some (.slice none 0 0), 1, 24) := by kernel_rfl
theorem made_rows (n : Nat) : (madeCells #[.slice none 0 0] (n * 1)).toList = (List.range n).map fun _ => Value.slice none 0 0 := by
  rw [Nat.mul_one, toList_madeCells_one]
  apply List.ext_getElem (by simp)
  intro j h1 h2
  simp
/-- the first k rows are those of the list, the others nil -/
def upTo2 (LL : List (List Int)) (k : Nat) : Nat → List Int := fun i => if i < k then LL.getD i [] else []
set_option maxHeartbeats 4000000 in
set_option maxRecDepth 100000 in
theorem toIntSS_any (LL : List (List Int)) (A : Option Addr) (c : Nat) (w : World) (hl : LL.length ≤ 1048576) (hr : ∀ l ∈ LL, l.length ≤ 1048576) (hA : SRead w w.heap.size A LL) :
    Calls Try.prog 36 #[.slice A LL.length c] w fun e w' => ∃ A' c' R C, e = .returned (.slice A' LL.length c') ∧ RowsL w' w.heap.size (.slice A' LL.length c') LL R C ∧ Below w.heap.size w w' := by
  obtain ⟨i0, hi, hz0, hz1, hz2⟩ := info_parts Try.infoRowI
  obtain ⟨n, hn⟩ : ∃ n, LL.length = n := ⟨_, rfl⟩
  have Hn := Lib.hid hn
  have Hr := Lib.hid hr
  rw [hn] at hl ⊢
  clear hr hn
  go_enter Try.func36, Try.ntmps36
  go_wp2_with (at_make; refine wpList_make_full _ rfl _ _ 45 rfl w.heap.size 38 i0 _ 1 Try.underlying45 hi hz0 hz1 _ _ _ _ n rfl rfl (by omega) (by omega) (by rw [hz2]; omega) (by unfold maxLen; omega) (Nat.le_refl _) ?_; intro w1 hown1 hgr1)
  have hb1 : Below w.heap.size w w1 := (Below.refl _ _).grown hgr1 (Nat.le_refl _) (by simp)
  rw [show Value.cells (.slice none 0 0) = #[.slice none 0 0] from rfl, made_rows] at hown1
  have G1 : RowsG w1 w.heap.size (.slice (some ⟨w.heap.size, 0, none⟩) n n) n (fun _ => none) (fun _ => 0) (fun _ => 0) (upTo2 LL 0) :=
    ⟨hown1, fun i _ => by rw [show upTo2 LL 0 i = [] from if_neg (Nat.not_lt_zero i)]; exact ⟨rfl, World.ownsRow_nil _ _ _ _⟩, fun i j _ _ _ => .inl rfl⟩
  have H1 := Lib.hid G1
  have HB1 := Lib.hid hb1
  clear hown1 hgr1 G1 hb1
  go_loopw [4] (fun i wr => ∃ (k : Nat) (R : Nat → Option Addr) (C N : Nat → Nat), k ≤ n ∧ i = .int .i64 k ∧ RowsG wr w.heap.size (.slice (some ⟨w.heap.size, 0, none⟩) n n) n R C N (upTo2 LL k) ∧ Below w.heap.size w wr ∧ (∀ i, i < n → k ≤ i → R i = none)) (fun i _ => n - (intOf i).toNat)
  case atStart => exact ⟨0, _, _, _, Nat.zero_le _, rfl, H1.out, HB1.out, fun _ _ _ => rfl⟩
  case round =>
    clear H1 HB1
    obtain ⟨k, R, C, N, hk, rfl, hG, hb, hnil⟩ := hrel
    have hs := hb.size
    have hgl := (own_lt hG.own).2
    by_cases hlt : k < n
    · obtain ⟨l, hx⟩ := getSome LL k (by rw [Hn.out]; exact hlt)
      obtain ⟨b, off, A1, c1, rfl, hb1, d1, R1⟩ := (hA.below hb hs) k l hx
      have hll := Hr.out l (List.mem_of_getElem? hx)
      have hki : (k : Int) < (n : Int) := by omega
      have hgd : LL.getD k [] = l := getD_of hx
      have HG := Lib.hid hG
      have Hnil := Lib.hid hnil
      have Hgd := Lib.hid hgd
      have HB := Lib.hid hb
      clear hx hG hnil hgd hb
      go_wp2_with fail
      refine (toIntS_got l A1 c1 _ hll R1).mono ?_
      rintro e w2 ⟨A2, c2, rfl, own2, hb2⟩
      have G2 := HG.out.below hb2
      have hap' : ∀ i, i < n → i ≠ k → (Value.slice (R i) (N i) (C i)).ownBlock = none ∨ (Value.slice (R i) (N i) (C i)).ownBlock ≠ (Value.slice A2 l.length c2).ownBlock := fun i hi _ => HG.out.fresh (own_lies own2) (Nat.le_refl _) i hi
      have G3 := G2.put hlt (own_lower own2 hs) hap'
      have cd := G2.headAt hlt
      have cf := G2.own.frozenAt k
      have k2 := HB.out.trans (hb2.mono hs)
      have k3 := k2.setCell (p := ⟨w.heap.size, k, none⟩) (Nat.le_refl _) (.slice A2 l.length c2)
      have G4 := Lib.hid (G3.congr (F' := upTo2 LL (k + 1)) fun i _ => by
        by_cases e : i = k
        · subst e; rw [upN_self]; unfold upTo2; rw [if_pos (Nat.lt_succ_self i), Hgd.out]
        · rw [upN_ne _ _ e]; unfold upTo2
          by_cases h3 : i < k
          · rw [if_pos h3, if_pos (by omega)]
          · rw [if_neg h3, if_neg (by omega)])
      have K3 := Lib.hid k3
      clear own2 hb2 G2 hap' G3 k2 k3 d1 R1 HG HB
      go_wp2
      go_roundw
      case rel => exact ⟨k + 1, _, _, _, by omega, by go_num, G4.out, K3.out, fun i hi hki => by rw [upN_ne _ _ (by omega)]; exact Hnil.out i hi (by omega)⟩
      case measure => simp [intOf]; omega
    · have hkl : k = n := by omega
      have hge : ¬ ((k : Int) < (n : Int)) := by omega
      have hN : ∀ i, i < n → N i = (LL.getD i []).length := fun i hi => by rw [← (hG.row i hi).1]; unfold upTo2; rw [if_pos (by omega)]
      have G2 := Lib.hid ((hG.congr (F' := fun i => LL.getD i []) fun i hi => by unfold upTo2; rw [if_pos (by omega)]).congrN hN)
      clear hG hN hnil
      go_wp2
      go_ret
      refine ⟨_, _, rfl, ⟨R, C, ?_⟩, hb⟩
      unfold RowsL
      rw [Hn.out]
      exact G2.out
end Go.Proofs.Ytgkedgfbncljbaa
/-
  THE MODEL's PARTY OF A TABLE, by its contract.
-/
namespace Go.Proofs.Ytgkedgfbncljbaa
open Go.RowKit

def tabP (n : Nat) (t : Nat → Nat → Bool) : PL := (allP n).filter fun q => t q.1.toNat q.2.toNat

/-- 'paOf' in the middle of its loops: the result's box is as it was made, the party's box holds the pairs so far. -/
structure OfRel (w wr : World) (n : Nat) (v : Value) (L : PL) : Prop where
  below : Below w.heap.size w wr
  res : wr.heap[w.heap.size]? = some (.cells #[.int .i64 0, .slice none 0 0] 24 (0, 0))
  box : wr.heap[w.heap.size + 1]? = some (.cells #[.int .i64 n, v] 24 (0, 0))
  own : wr.ownsRow (w.heap.size + 2) 71 2 v L.length (pcells L)
theorem lt_of_heap {w : World} {b : Nat} {o : Obj} (h : w.heap[b]? = some o) : b < w.heap.size := (Array.getElem?_eq_some_iff.1 h).1
theorem OfRel.start (w : World) (n : Nat) : OfRel w ((w.alloc (.cells #[.int .i64 0, .slice none 0 0] 24)).alloc (.cells #[.int .i64 n, .slice none 0 0] 24)) n (.slice none 0 0) [] := by
  refine ⟨by go_grown, ?_, ?_, World.ownsRow_nil _ _ _ _⟩
  · rw [Below.heap_alloc _ _ _ (by simp)]
    exact heap_alloc_new w _
  · have := heap_alloc_new (w.alloc (.cells #[.int .i64 0, .slice none 0 0] 24)) (.cells #[.int .i64 n, .slice none 0 0] 24)
    simpa using this
/-- one pair more -/
theorem OfRel.push {w wr w1 : World} {n : Nat} {v v' : Value} {L : PL} {x y : Int} {o : Obj} (h : OfRel w wr n v L) (hown : w1.ownsRow (w.heap.size + 2) 71 2 v' (L.length + 1) (pcells L ++ [.int .i64 x, .int .i64 y])) (hg : (wr.alloc o).grownBy w1 v.ownBlock) :
    OfRel w (w1.setCell ⟨w.heap.size + 1, 1, none⟩ v') n v' (L ++ [(x, y)]) := by
  have hs := lt_of_heap h.box
  have hb : ∀ k, k < w.heap.size + 2 → w1.heap[k]? = wr.heap[k]? := fun k hk => by
    rw [hg.block k (by simp; omega) (fun e => by have := (h.own.lt k e.symm).1; omega), Below.heap_alloc _ _ _ (by omega)]
  have e1 := (hb (w.heap.size + 1) (by omega)).trans h.box
  refine ⟨?_, ?_, ?_, ?_⟩
  · exact ((h.below.alloc (by omega) o).grown hg (by simp; omega) (fun k hk => by have := (h.own.lt k hk).1; omega)).setCell (p := ⟨w.heap.size + 1, 1, none⟩) (by simp) _
  · rw [heap_setCell_other _ _ _ _ (by simp)]
    exact (hb _ (by omega)).trans h.res
  · exact heap_setCell_same w1 (w.heap.size + 1) 1 _ _ v' e1
  · have e : (L ++ [(x, y)]).length = L.length + 1 := by simp
    rw [e, pcells_append]
    refine hown.kept (row := some (w.heap.size + 1)) ⟨rfl, rfl, rfl, by simp, fun k _ hk => heap_setCell_other _ _ _ _ (fun e => hk (by rw [e]))⟩ ?_
    right
    intro e
    have := (hown.lt _ e).1
    omega
/-- what the walk reads behind an append -/
theorem OfRel.kept {w wr w1 : World} {n : Nat} {v : Value} {L : PL} {o : Obj} (h : OfRel w wr n v L) (hg : (wr.alloc o).grownBy w1 v.ownBlock) :
    w1.cell? ⟨w.heap.size + 1, 1, none⟩ = some v ∧ w1.frozen? ⟨w.heap.size + 1, 1, none⟩ = false ∧ wr.heap.size < w1.heap.size ∧ w.heap.size + 1 < w1.heap.size ∧ w.heap.size < w1.heap.size := by
  have hs := lt_of_heap h.box
  have e1 : w1.heap[w.heap.size + 1]? = some (.cells #[.int .i64 n, v] 24 (0, 0)) := by
    rw [hg.block _ (by simp; omega) (fun e => by have := (h.own.lt _ e.symm).1; omega), Below.heap_alloc _ _ _ (by omega)]
    exact h.box
  have := hg.size
  simp only [World.size_alloc] at this
  exact ⟨by rw [cell_of_row _ _ _ _ _ _ e1]; rfl, frozen_of_row _ _ _ _ _ e1, by omega, by omega, by omega⟩
theorem two_cells {w : World} {g : Nat} {u v : Value} (h : w.cell? ⟨g, 0, none⟩ = some u) (h' : w.cell? ⟨g, 1, none⟩ = some v) : ∀ j x, [u, v][j]? = some x → w.cell? ((⟨g, 0, none⟩ : Addr).add j) = some x := by
  intro j x hx
  match j, hx with
  | 0, hx => simp at hx; subst hx; simpa [Addr.add] using h
  | 1, hx => simp at hx; subst hx; simpa [Addr.add] using h'
theorem two_one {u v : Value} (h : u.oneCell' = true) (h' : v.oneCell' = true) : ∀ x ∈ [u, v], x.oneCell' = true := by
  intro x hx
  simp at hx
  rcases hx with rfl | rfl
  · exact h
  · exact h'
theorem OfRel.cells {w wr : World} {n : Nat} {v : Value} {L : PL} (h : OfRel w wr n v L) : wr.cell? ⟨w.heap.size, 0, none⟩ = some (.int .i64 0) ∧ wr.cell? ⟨w.heap.size, 1, none⟩ = some (.slice none 0 0) ∧
    wr.cell? ⟨w.heap.size + 1, 0, none⟩ = some (.int .i64 n) ∧ wr.cell? ⟨w.heap.size + 1, 1, none⟩ = some v ∧ (∀ j, wr.frozen? ⟨w.heap.size, j, none⟩ = false) ∧ (∀ j, wr.frozen? ⟨w.heap.size + 1, j, none⟩ = false) :=
  ⟨by rw [cell_of_row _ _ _ _ _ _ h.res]; rfl, by rw [cell_of_row _ _ _ _ _ _ h.res]; rfl, by rw [cell_of_row _ _ _ _ _ _ h.box]; rfl, by rw [cell_of_row _ _ _ _ _ _ h.box]; rfl,
    fun j => frozen_of_row _ _ j _ _ h.res, fun j => frozen_of_row _ _ j _ _ h.box⟩

theorem filter_upTo_yes {n a b : Nat} {t : Nat → Nat → Bool} (h : a < b) (ht : t a b = true) : (upTo n a (b + 1)).filter (fun q => t q.1.toNat q.2.toNat) = (upTo n a b).filter (fun q => t q.1.toNat q.2.toNat) ++ [((a : Int), (b : Int))] := by
  rw [upTo_next h, List.filter_append]
  simp [ht]
theorem filter_upTo_no {n a b : Nat} {t : Nat → Nat → Bool} (h : a < b) (ht : t a b = false) : (upTo n a (b + 1)).filter (fun q => t q.1.toNat q.2.toNat) = (upTo n a b).filter (fun q => t q.1.toNat q.2.toNat) := by
  rw [upTo_next h, List.filter_append]
  simp [ht]
theorem upTo_length {n a b : Nat} (ha : a ≤ 12) (hb : b ≤ 13) (hn : n ≤ 12) : (upTo n a b).length ≤ 1000 := by
  unfold upTo rowP
  simp only [List.length_append, List.length_flatMap, List.length_map, List.length_range']
  have h : ∀ l : List Nat, (l.map fun a => n - (a + 1)).sum ≤ l.length * n := by
    intro l
    induction l with
    | nil => simp
    | cons x l ih => simp only [List.map_cons, List.sum_cons, List.length_cons, Nat.add_mul, Nat.one_mul]; omega
  have h1 := h (List.range a)
  rw [List.length_range] at h1
  have h2 : a * n ≤ 12 * 12 := Nat.mul_le_mul ha hn
  omega

set_option maxHeartbeats 2000000 in
set_option maxRecDepth 100000 in
theorem paOf_any (n : Nat) (t : Nat → Nat → Bool) (A : Option Addr) (c : Nat) (G : Nat → Nat) (B : Nat) (w : World) (hn : n ≤ 12) (htab0 : TabG w B (.slice A n c) n n G t) :
    Calls Try.prog 67 #[.slice A n c] w (GotParty w n (tabP n t)) := by
  obtain ⟨i0, hi, hz0, hz1, hz2⟩ := info_parts Try.infoPair
  have hn' : (n : Int) ≤ 12 := by omega
  go_enter Try.func67, Try.ntmps67
  go_wp2
  go_loopw [11] (fun i wr => ∃ a : Nat, ∃ v, a ≤ n ∧ i = .int .i64 a ∧ OfRel w wr n v ((upTo n a (a + 1)).filter fun q => t q.1.toNat q.2.toNat)) (fun i _ => n - (intOf i).toNat)
  case atStart => exact ⟨0, _, Nat.zero_le _, rfl, by simpa [upTo_start] using OfRel.start w n⟩
  case round =>
    obtain ⟨a, v, ha, rfl, hrel⟩ := hrel
    by_cases hlt : a < n
    · have hai : (a : Int) < n := by omega
      have Hrel := Lib.hid hrel
      clear hrel
      go_wp2
      go_loopw [5] (fun i wx => ∃ b : Nat, ∃ v, a < b ∧ b ≤ n ∧ i = .int .i64 b ∧ OfRel w wx n v ((upTo n a b).filter fun q => t q.1.toNat q.2.toNat)) (fun i _ => n - (intOf i).toNat)
      case atStart => exact ⟨a + 1, v, by omega, by omega, by go_num, Hrel.out⟩
      case round =>
        clear Hrel
        obtain ⟨b, v, hab, hb, rfl, hrel⟩ := hrel
        by_cases hbt : b < n
        · have hbi : (b : Int) < n := by omega
          obtain ⟨r0, r1, r2, r3, r4, r5⟩ := hrel.cells
          have hsz := lt_of_heap hrel.box
          have htab := htab0.below hrel.below (Nat.le_refl _)
          obtain ⟨g, rfl⟩ := own_form htab.own (by omega)
          have d0 := htab.outer hlt
          have d1 := htab.cell hlt hbt
          have q5 := r5 1
          have hlen : ((upTo n a b).filter fun q => t q.1.toNat q.2.toNat).length ≤ 1000 := Nat.le_trans (List.length_filter_le _ _) (upTo_length (by omega) (by omega) hn)
          cases ht : t a b with
          | false =>
            rw [ht] at d1
            have Ht := Lib.hid ht
            clear ht r4 r5
            go_wp2
            go_roundw
            case rel => exact ⟨b + 1, v, by omega, by omega, by go_num, by rw [filter_upTo_no hab Ht.out]; exact hrel⟩
            case measure => simp [intOf]; omega
          | true =>
            rw [ht] at d1
            have Ht := Lib.hid ht
            clear ht r4 r5
            go_wp2_with (at_builtin; refine wpList_append_own _ rfl _ _ 22 rfl (w.heap.size + 2) 71 i0 _ 2 16 Try.underlying22 hi hz0 hz1 hz2 rfl (by decide) _ _ _ rfl (hrel.own.alloc _) ⟨wr.heap.size, 0, none⟩ 1 1 [.int .i64 a, .int .i64 b] rfl rfl (two_cells (by simp) (by simp)) (two_one rfl rfl) (by unfold maxLen; omega) (by omega) (by simp; omega) ?_; intro v1 w1 hown1 hg1 _; obtain ⟨A1, d1', rfl, _⟩ := own_shape hown1; have hr1 := hrel.push hown1 hg1; obtain ⟨z0, z1, z2, z3, z4⟩ := hrel.kept hg1)
            go_roundw
            case rel => exact ⟨b + 1, _, by omega, by omega, by go_num, by rw [filter_upTo_yes hab Ht.out]; exact hr1⟩
            case measure => simp [intOf]; omega
        · have hbn : b = n := by omega
          subst hbn
          have hge : ¬ ((b : Int) < b) := by omega
          go_wp2
          go_roundw
          case rel => exact ⟨a + 1, v, by omega, by go_num, by rw [← upTo_row]; exact hrel⟩
          case measure => simp [intOf]; omega
    · have hal : n = a := by omega
      subst hal
      have hge : ¬ ((n : Int) < n) := by omega
      obtain ⟨r0, r1, r2, r3, r4, r5⟩ := hrel.cells
      have q40 := r4 0
      have q41 := r4 1
      rw [upTo_all] at hrel
      obtain ⟨A', c', rfl, _⟩ := own_shape hrel.own
      have hs := lt_of_heap hrel.box
      have Hrel := Lib.hid hrel
      clear hrel r4 r5
      go_wp2
      refine bodyPost_ret (v := .agg #[.int .i64 n, .slice A' (tabP n t).length c']) (by simp [results, Try.results67, go_sem, tabP, r0, r1]) rfl ?_
      exact ⟨A', c', rfl, ownsRow_setCell_below (ownsRow_setCell_below (own_lower Hrel.out.own (Nat.le_succ _)) (a := ⟨w.heap.size, 0, none⟩) (by simp) _) (a := ⟨w.heap.size, 1, none⟩) (by simp) _ |> fun h => own_lower h (Nat.le_succ _), (Hrel.out.below.setCell (p := ⟨w.heap.size, 0, none⟩) (Nat.le_refl _) _).setCell (p := ⟨w.heap.size, 1, none⟩) (Nat.le_refl _) _⟩
end Go.Proofs.Ytgkedgfbncljbaa
/-
  THE MODEL's PARTY WITH FRIENDS AND STRANGERS EXCHANGED, by its contract.
-/
namespace Go.Proofs.Ytgkedgfbncljbaa
open Go.RowKit

def otherP (n : Nat) (l : PL) : PL := (allP n).filter fun q => !l.contains q
theorem tabP_congr {n : Nat} {t t' : Nat → Nat → Bool} (h : ∀ i j, i < j → j < n → t i j = t' i j) : tabP n t = tabP n t' := by
  unfold tabP
  refine List.filter_congr fun q hq => ?_
  have := mem_allP.1 hq
  exact h _ _ (by omega) (by omega)
theorem tabP_contains {n : Nat} {l : PL} (f : Bool → Bool) (h : isP n l = true) : tabP n (fun i j => f (adj l i j)) = (allP n).filter fun q => f (l.contains q) := by
  unfold tabP
  refine List.filter_congr fun q hq => ?_
  have hm := mem_allP.1 hq
  show f (adj l q.1.toNat q.2.toNat) = _
  rw [adj_pair h (i := q.1.toNat) (j := q.2.toNat) (by omega)]
  have e : (((q.1.toNat : Nat) : Int), ((q.2.toNat : Nat) : Int)) = q := by
    obtain ⟨x, y⟩ := q
    simp only [Prod.mk.injEq]
    simp at hm
    omega
  rw [e]
theorem tabP_other {n : Nat} {l : PL} (h : isP n l = true) : tabP n (fun i j => !adj l i j) = otherP n l := tabP_contains (fun b => !b) h
theorem tabP_same {n : Nat} {l : PL} (h : isP n l = true) : tabP n (adj l) = l := (tabP_contains (fun b => b) h).trans (isP_filter h)

/-- the table in the middle of being turned -/
def turnT (t : Nat → Nat → Bool) (a b : Nat) : Nat → Nat → Bool := fun i j => if i < a ∨ i = a ∧ j < b then !t i j else t i j
theorem turnT_start (t : Nat → Nat → Bool) : turnT t 0 0 = t := by funext i j; simp [turnT]
theorem turnT_next (t : Nat → Nat → Bool) (a b : Nat) : upd (turnT t a b) a b (!t a b) = turnT t a (b + 1) := by
  funext i j
  unfold upd turnT
  by_cases h : i = a ∧ j = b
  · obtain ⟨rfl, rfl⟩ := h
    simp
  · rw [if_neg h]
    have : (i < a ∨ i = a ∧ j < b) ↔ (i < a ∨ i = a ∧ j < b + 1) := by omega
    simp only [this]
theorem turnT_row {n : Nat} (t : Nat → Nat → Bool) (a : Nat) : ∀ i j, i < n → j < n → turnT t a n i j = turnT t (a + 1) 0 i j := by
  intro i j hi hj
  unfold turnT
  have : (i < a ∨ i = a ∧ j < n) ↔ (i < a + 1 ∨ i = a + 1 ∧ j < 0) := by omega
  simp only [this]
theorem turnT_all {n : Nat} (t : Nat → Nat → Bool) : ∀ i j, i < n → j < n → turnT t n 0 i j = !t i j := by
  intro i j hi hj
  unfold turnT
  rw [if_pos (.inl hi)]
theorem turnT_at (t : Nat → Nat → Bool) (a b : Nat) : turnT t a b a b = t a b := by unfold turnT; rw [if_neg (by omega)]

end Go.Proofs.Ytgkedgfbncljbaa
/-
  THE PROGRAM's MEETINGS OF A PARTY (each pair of people, and whether they are friends), by its contract.
-/
namespace Go.Proofs.Ytgkedgfbncljbaa
open Go.RowKit

abbrev ML := List (Int × Int × Bool)
def mcells : ML → List Value
  | [] => []
  | m :: l => .int .i64 m.1 :: .int .i64 m.2.1 :: .bool m.2.2 :: mcells l
theorem mcells_length (l : ML) : (mcells l).length = l.length * 3 := by
  induction l with
  | nil => rfl
  | cons p l ih => simp only [mcells, List.length_cons, ih]; omega
theorem mcells_append (l m : ML) : mcells (l ++ m) = mcells l ++ mcells m := by
  induction l with
  | nil => rfl
  | cons p l ih => simp [mcells, ih]
theorem mcells_at {l : ML} {k : Nat} {x y : Int} {f : Bool} (h : l[k]? = some (x, y, f)) : (mcells l)[k * 3]? = some (.int .i64 x) ∧ (mcells l)[k * 3 + 1]? = some (.int .i64 y) ∧ (mcells l)[k * 3 + 2]? = some (.bool f) := by
  induction l generalizing k with
  | nil => simp at h
  | cons p l ih =>
    cases k with
    | zero => simp at h; subst h; exact ⟨rfl, rfl, rfl⟩
    | succ k =>
      have := ih (k := k) (by simpa using h)
      rw [show (k + 1) * 3 = k * 3 + 3 from by omega, show k * 3 + 3 + 1 = k * 3 + 1 + 3 from by omega, show k * 3 + 3 + 2 = k * 3 + 2 + 3 from by omega]
      simpa [mcells] using this
theorem CRead.meet {w : World} {B : Nat} {ad : Option Addr} {l : ML} (h : CRead w B ad (mcells l)) {k : Nat} {x y : Int} {f : Bool} (hk : l[k]? = some (x, y, f)) :
    ∃ b off, ad = some ⟨b, off, none⟩ ∧ b < B ∧ w.cell? ⟨b, off + k * 3, none⟩ = some (.int .i64 x) ∧ w.cell? ⟨b, off + k * 3 + 1, none⟩ = some (.int .i64 y) ∧ w.cell? ⟨b, off + k * 3 + 2, none⟩ = some (.bool f) := by
  obtain ⟨e0, e1, e2⟩ := mcells_at hk
  obtain ⟨b, off, rfl, hb, h0⟩ := h _ _ e0
  obtain ⟨b', off', e, _, h1⟩ := h _ _ e1
  simp only [Option.some.injEq, Addr.mk.injEq, and_true] at e
  obtain ⟨rfl, rfl⟩ := e
  obtain ⟨b', off', e, _, h2⟩ := h _ _ e2
  simp only [Option.some.injEq, Addr.mk.injEq, and_true] at e
  obtain ⟨rfl, rfl⟩ := e
  exact ⟨b, off, rfl, hb, h0, h1, h2⟩

/-- the meetings of pairs -/
def meets (l : PL) (qs : PL) : ML := qs.map fun q => (q.1, q.2, l.contains q)
theorem meets_snoc (l qs : PL) (a b : Int) : meets l (qs ++ [(a, b)]) = meets l qs ++ [(a, b, l.contains (a, b))] := by simp [meets]
theorem meets_length (l qs : PL) : (meets l qs).length = qs.length := by simp [meets]

theorem upTo_prefix {n a b : Nat} (ha : a < n) (hab : a < b) (hb : b ≤ n) : ∃ rest, allP n = upTo n a b ++ rest := by
  have e1 : List.range n = List.range (a + 1) ++ (List.range (n - (a + 1))).map (a + 1 + ·) := by
    rw [← List.range_add]; congr 1; omega
  have e2 : rowP a n = (List.range' (a + 1) (b - (a + 1))).map (fun b : Nat => ((a : Int), (b : Int))) ++ (List.range' b (n - b)).map (fun b : Nat => ((a : Int), (b : Int))) := by
    unfold rowP
    rw [← List.map_append]
    congr 1
    have := List.range'_append_1 (s := a + 1) (m := b - (a + 1)) (n := n - b)
    rw [show a + 1 + (b - (a + 1)) = b from by omega] at this
    rw [this]
    congr 1
    omega
  unfold allP
  rw [e1, List.flatMap_append, List.range_succ, List.flatMap_append]
  simp only [List.flatMap_cons, List.flatMap_nil, List.append_nil]
  rw [e2]
  unfold upTo
  exact ⟨_, by simp only [List.append_assoc]; rfl⟩
/-- how many of the pairs so far are friends -/
def toldTo (n : Nat) (l : PL) (a b : Nat) : Nat := ((upTo n a b).filter fun q => l.contains q).length
theorem toldTo_le {n : Nat} {l : PL} (h : isP n l = true) {a b : Nat} (ha : a < n) (hab : a < b) (hb : b ≤ n) : toldTo n l a b ≤ l.length := by
  obtain ⟨rest, hr⟩ := upTo_prefix ha hab hb
  have hl := isP_filter h
  rw [hr, List.filter_append] at hl
  unfold toldTo
  rw [← congrArg List.length hl, List.length_append]
  omega
theorem told_at {n : Nat} {l : PL} (h : isP n l = true) {a b : Nat} (hab : a < b) (hb : b < n) (hc : l.contains ((a : Int), (b : Int)) = true) : l[toldTo n l a b]? = some ((a : Int), (b : Int)) := by
  obtain ⟨rest, hr⟩ := upTo_prefix (n := n) (a := a) (b := b + 1) (by omega) (by omega) (by omega)
  have hl := isP_filter h
  rw [hr, upTo_next hab, List.append_assoc, List.filter_append] at hl
  simp only [List.singleton_append, List.filter_cons, hc, if_true] at hl
  unfold toldTo
  generalize (upTo n a b).filter (fun q => l.contains q) = F at hl ⊢
  rw [← hl]
  simp
theorem told_not {l : PL} {k : Nat} {x y : Int} (hx : l[k]? = some (x, y)) (a b : Int) (hc : l.contains (a, b) = false) : ¬ (x = a ∧ y = b) := by
  rintro ⟨rfl, rfl⟩
  rw [Bool.eq_false_iff] at hc
  exact hc (List.contains_iff_mem.2 (List.mem_of_getElem? hx))
theorem toldTo_yes {n : Nat} {l : PL} {a b : Nat} (hab : a < b) (hc : l.contains ((a : Int), (b : Int)) = true) : toldTo n l a (b + 1) = toldTo n l a b + 1 := by
  unfold toldTo; rw [upTo_next hab, List.filter_append]; simp only [List.filter_cons, hc, if_true, List.filter_nil, List.length_append, List.length_singleton]
theorem toldTo_no {n : Nat} {l : PL} {a b : Nat} (hab : a < b) (hc : l.contains ((a : Int), (b : Int)) = false) : toldTo n l a (b + 1) = toldTo n l a b := by
  unfold toldTo; rw [upTo_next hab, List.filter_append]; simp only [List.filter_cons, hc, Bool.false_eq_true, if_false, List.filter_nil, List.append_nil]
theorem toldTo_row (n : Nat) (l : PL) (a : Nat) : toldTo n l a n = toldTo n l (a + 1) (a + 1 + 1) := by unfold toldTo; rw [upTo_row]
theorem three_cells {w : World} {g : Nat} {u v x : Value} (h : w.cell? ⟨g, 0, none⟩ = some u) (h' : w.cell? ⟨g, 1, none⟩ = some v) (h'' : w.cell? ⟨g, 2, none⟩ = some x) : ∀ j y, [u, v, x][j]? = some y → w.cell? ((⟨g, 0, none⟩ : Addr).add j) = some y := by
  intro j y hy
  match j, hy with
  | 0, hy => simp at hy; subst hy; simpa [Addr.add] using h
  | 1, hy => simp at hy; subst hy; simpa [Addr.add] using h'
  | 2, hy => simp at hy; subst hy; simpa [Addr.add] using h''
theorem three_one {u v x : Value} (h : u.oneCell' = true) (h' : v.oneCell' = true) (h'' : x.oneCell' = true) : ∀ y ∈ [u, v, x], y.oneCell' = true := by
  intro y hy
  simp at hy
  rcases hy with rfl | rfl | rfl
  · exact h
  · exact h'
  · exact h''
theorem Try.infoMeet : (Try.prog.info? 73).map (fun i => (i.zero, i.size, i.bytes)) = some (some (.agg #[.int .i64 0, .int .i64 0, .bool false]), 3, 24) := by kernel_rfl
end Go.Proofs.Ytgkedgfbncljbaa
/-
  'impl.meetingsOf', by its contract.
-/
namespace Go.Proofs.Ytgkedgfbncljbaa
open Go.RowKit

theorem below_drewN {B : Nat} {a w : World} (h : Below B a w) (k : Nat) : Below B a (w.drewN k) := ⟨h.os, h.tape, h.output, h.size, h.block⟩

set_option maxHeartbeats 2000000 in
set_option maxRecDepth 100000 in
theorem meetingsOf_any (p : Int) (l : PL) (A : Option Addr) (c : Nat) (w : World) (hp : isP p l = true) (hA : CRead w w.heap.size A (pcells l)) :
    Calls Try.prog 71 #[.agg #[.int .i64 p, .slice A l.length c]] w fun e w' => ∃ A' c', e = .returned (.slice A' (meets l (allP p.toNat)).length c') ∧
      w'.ownsRow w.heap.size 73 3 (.slice A' (meets l (allP p.toNat)).length c') (meets l (allP p.toNat)).length (mcells (meets l (allP p.toNat))) ∧ Below w.heap.size w w' := by
  obtain ⟨i0, hi, hz0, hz1, hz2⟩ := info_parts Try.infoMeet
  obtain ⟨n, rfl⟩ : ∃ n : Nat, p = n := ⟨p.toNat, by have := isP_range hp; omega⟩
  have hn := isP_range hp
  have hn12 : n ≤ 12 := by omega
  have hlen : l.length ≤ 66 := by have h1 := isP_length hp; have h2 := people_sq hn.1 hn.2; omega
  simp only [Int.toNat_natCast]
  have Hp := Lib.hid hp
  clear hp
  go_enter Try.func71, Try.ntmps71
  go_wp2
  go_loopw [3, 4, 11] (fun v q i wr => ∃ a : Nat, a ≤ n ∧ i = .int .i64 a ∧ q = .int .i64 (toldTo n l a (a + 1)) ∧ wr.ownsRow (w.heap.size + 1) 73 3 v (meets l (upTo n a (a + 1))).length (mcells (meets l (upTo n a (a + 1)))) ∧ Below (w.heap.size + 1) (w.alloc (Obj.cells #[.int .i64 (n : Int), .slice A l.length c] 24)) wr) (fun _ _ i _ => n - (intOf i).toNat)
  case atStart => exact ⟨0, Nat.zero_le _, rfl, by simp [toldTo, upTo_start], World.ownsRow_nil _ _ _ _, Below.refl _ _⟩
  case round =>
    obtain ⟨a, ha, rfl, rfl, hown, hb⟩ := hrel
    have hs := hb.size
    simp only [World.size_alloc] at hs
    have v0 : wr.cell? ⟨w.heap.size, 0, none⟩ = some (.int .i64 n) := carry hb (by simp) (by omega)
    have v1 : wr.cell? ⟨w.heap.size, 1, none⟩ = some (.slice A l.length c) := carry hb (by simp) (by omega)
    by_cases hlt : a < n
    · have hai : (a : Int) < n := by omega
      have Hown := Lib.hid hown
      have Hb := Lib.hid hb
      clear hown hb
      go_wp2
      go_loopw [3, 4, 6] (fun v q i wx => ∃ b : Nat, a < b ∧ b ≤ n ∧ i = .int .i64 b ∧ q = .int .i64 (toldTo n l a b) ∧ wx.ownsRow (w.heap.size + 1) 73 3 v (meets l (upTo n a b)).length (mcells (meets l (upTo n a b))) ∧ Below (w.heap.size + 1) (w.alloc (Obj.cells #[.int .i64 (n : Int), .slice A l.length c] 24)) wx) (fun _ _ i _ => n - (intOf i).toNat)
      case atStart => exact ⟨a + 1, by omega, by omega, by go_num, rfl, Hown.out, Hb.out⟩
      case round =>
        clear Hown Hb v0 v1 hs
        obtain ⟨b, hab, hbn, rfl, rfl, hown, hb⟩ := hrel
        have hs := hb.size
        simp only [World.size_alloc] at hs
        have hbw : Below w.heap.size w wr := Below.trans (b := _) (by go_grown) (hb.mono (by omega))
        have v0 : wr.cell? ⟨w.heap.size, 0, none⟩ = some (.int .i64 n) := carry hb (by simp) (by omega)
        have v1 : wr.cell? ⟨w.heap.size, 1, none⟩ = some (.slice A l.length c) := carry hb (by simp) (by omega)
        by_cases hbt : b < n
        · have hbi : (b : Int) < n := by omega
          have htl := toldTo_le Hp.out hlt hab hbn
          have hml : (meets l (upTo n a b)).length ≤ 1000 := by rw [meets_length]; exact upTo_length (by omega) (by omega) hn12
          have e0 : (wr.alloc (Obj.cells #[.int .i64 (a : Int), .int .i64 (b : Int)] 71)).cell? ⟨w.heap.size, 1, none⟩ = some (.slice A l.length c) := (World.cell?_alloc_lt _ _ _ (show w.heap.size < wr.heap.size by omega)).trans v1
          have e1 : (wr.alloc (Obj.cells #[.int .i64 (a : Int), .int .i64 (b : Int)] 71)).cell? ⟨w.heap.size, 0, none⟩ = some (.int .i64 n) := (World.cell?_alloc_lt _ _ _ (show w.heap.size < wr.heap.size by omega)).trans v0
          cases hc : l.contains ((a : Int), (b : Int)) with
          | true =>
            have ht := told_at Hp.out hab hbt hc
            have htlt : toldTo n l a b < l.length := (List.getElem?_eq_some_iff.1 ht).1
            obtain ⟨bb, off, rfl, hbb, c0, c1⟩ := (hA.below hbw (Nat.le_refl _)).pair ht
            have Hc := Lib.hid hc
            have Hyes := Lib.hid (toldTo_yes (n := n) hab hc)
            clear hc ht
            generalize hq : toldTo n l a b = q at *
            have Hq := Lib.hid hq
            clear hq
            have hqi : (q : Int) < (l.length : Int) := by omega
            have hqd : decide ((q : Int) < (l.length : Int)) = true := by simp; omega
            have hqd' : decide (q < l.length) = true := by simp; omega
            have f0 : (wr.alloc (Obj.cells #[.int .i64 (a : Int), .int .i64 (b : Int)] 71)).cell? ⟨bb, off + q * 2, none⟩ = some (.int .i64 a) := (World.cell?_alloc_lt _ _ _ (show bb < wr.heap.size by omega)).trans c0
            have f1 : (wr.alloc (Obj.cells #[.int .i64 (a : Int), .int .i64 (b : Int)] 71)).cell? ⟨bb, off + q * 2 + 1, none⟩ = some (.int .i64 b) := (World.cell?_alloc_lt _ _ _ (show bb < wr.heap.size by omega)).trans c1
            go_wp2
            go_quiet (fail)
            generalize hW : (wr.alloc (Obj.cells #[.int .i64 (a : Int), .int .i64 (b : Int)] 71)).drewN nq = W
            have g0 : W.cell? ⟨wr.heap.size, 0, none⟩ = some (.int .i64 a) := by rw [← hW]; simp
            have g1 : W.cell? ⟨wr.heap.size, 1, none⟩ = some (.int .i64 b) := by rw [← hW]; simp
            have g2 : W.cell? ⟨w.heap.size, 1, none⟩ = some (.slice (some ⟨bb, off, none⟩) l.length c) := by rw [← hW]; exact e0
            have g3 : W.cell? ⟨w.heap.size, 0, none⟩ = some (.int .i64 n) := by rw [← hW]; exact e1
            have ownW : W.ownsRow (w.heap.size + 1) 73 3 u3 (meets l (upTo n a b)).length (mcells (meets l (upTo n a b))) := by rw [← hW]; exact hown.alloc _
            have bW : Below (w.heap.size + 1) (w.alloc (Obj.cells #[.int .i64 (n : Int), .slice (some ⟨bb, off, none⟩) l.length c] 24)) W := by rw [← hW]; exact below_drewN (hb.alloc (by omega) _) _
            have sW : wr.heap.size < W.heap.size := by rw [← hW]; simp
            have sW2 : w.heap.size + 1 ≤ W.heap.size := by omega
            clear hW e0 e1 v0 v1 hown hb hs c0 c1 f0 f1
            go_wp2_with (at_builtin; refine wpList_append_own _ rfl _ _ 77 rfl (w.heap.size + 1) 73 i0 _ 3 24 Try.underlying77 hi hz0 hz1 hz2 rfl (by decide) _ _ _ rfl (ownW.alloc _) ⟨W.heap.size, 0, none⟩ 1 1 [.int .i64 a, .int .i64 b, .bool true] rfl rfl (three_cells (by simp) (by simp) (by simp)) (three_one rfl rfl rfl) (by unfold maxLen; omega) (by omega) (by simp; omega) ?_; intro v1 w1 hown1 hg1 _; obtain ⟨A1, d1', rfl, _⟩ := own_shape hown1; have bW1 : Below (w.heap.size + 1) (w.alloc (Obj.cells #[.int .i64 (n : Int), .slice (some ⟨bb, off, none⟩) l.length c] 24)) w1 := (bW.alloc (by omega) _).grown hg1 (by simp; omega) (fun k hk => (ownW.lt k hk).1); have z0 : w1.cell? ⟨w.heap.size, 0, none⟩ = some (.int .i64 n) := carry bW1 (by simp) (by omega); have z1 : w1.cell? ⟨w.heap.size, 1, none⟩ = some (.slice (some ⟨bb, off, none⟩) l.length c) := carry bW1 (by simp) (by omega))
            go_roundw
            case rel =>
              refine ⟨b + 1, by omega, by omega, by go_num, ?_, ?_, bW1⟩
              · rw [Hyes.out]; go_num
              · rw [upTo_next hab, meets_snoc, Hc.out, mcells_append, List.length_append]
                exact hown1
            case measure => simp [intOf]; omega
          | false =>
            have Hc := Lib.hid hc
            have Hno := Lib.hid (toldTo_no (n := n) hab hc)
            clear hc
            generalize hq : toldTo n l a b = q at *
            have Hq := Lib.hid hq
            clear hq
            by_cases hqt : q < l.length
            · obtain ⟨⟨x, y⟩, hx⟩ := getSome l q hqt
              obtain ⟨bb, off, rfl, hbb, c0, c1⟩ := (hA.below hbw (Nat.le_refl _)).pair hx
              have hne := told_not hx a b Hc.out
              have Hx := Lib.hid hx
              clear hx
              have hqi : (q : Int) < (l.length : Int) := by omega
              have hqd : decide ((q : Int) < (l.length : Int)) = true := by simp; omega
              have hqd' : decide (q < l.length) = true := by simp; omega
              have f0 : (wr.alloc (Obj.cells #[.int .i64 (a : Int), .int .i64 (b : Int)] 71)).cell? ⟨bb, off + q * 2, none⟩ = some (.int .i64 x) := (World.cell?_alloc_lt _ _ _ (show bb < wr.heap.size by omega)).trans c0
              have f1 : (wr.alloc (Obj.cells #[.int .i64 (a : Int), .int .i64 (b : Int)] 71)).cell? ⟨bb, off + q * 2 + 1, none⟩ = some (.int .i64 y) := (World.cell?_alloc_lt _ _ _ (show bb < wr.heap.size by omega)).trans c1
              by_cases hxa : x = (a : Int)
              · have hyb : ¬ y = (b : Int) := fun h => hne ⟨hxa, h⟩
                clear hne
                subst hxa
                go_wp2
                go_quiet (fail)
                generalize hW : (wr.alloc (Obj.cells #[.int .i64 (a : Int), .int .i64 (b : Int)] 71)).drewN nq = W
                have g0 : W.cell? ⟨wr.heap.size, 0, none⟩ = some (.int .i64 a) := by rw [← hW]; simp
                have g1 : W.cell? ⟨wr.heap.size, 1, none⟩ = some (.int .i64 b) := by rw [← hW]; simp
                have g2 : W.cell? ⟨w.heap.size, 1, none⟩ = some (.slice (some ⟨bb, off, none⟩) l.length c) := by rw [← hW]; exact e0
                have g3 : W.cell? ⟨w.heap.size, 0, none⟩ = some (.int .i64 n) := by rw [← hW]; exact e1
                have ownW : W.ownsRow (w.heap.size + 1) 73 3 u3 (meets l (upTo n a b)).length (mcells (meets l (upTo n a b))) := by rw [← hW]; exact hown.alloc _
                have bW : Below (w.heap.size + 1) (w.alloc (Obj.cells #[.int .i64 (n : Int), .slice (some ⟨bb, off, none⟩) l.length c] 24)) W := by rw [← hW]; exact below_drewN (hb.alloc (by omega) _) _
                have sW : wr.heap.size < W.heap.size := by rw [← hW]; simp
                have sW2 : w.heap.size + 1 ≤ W.heap.size := by omega
                clear hW e0 e1 v0 v1 hown hb hs c0 c1 f0 f1
                go_wp2_with (at_builtin; refine wpList_append_own _ rfl _ _ 77 rfl (w.heap.size + 1) 73 i0 _ 3 24 Try.underlying77 hi hz0 hz1 hz2 rfl (by decide) _ _ _ rfl (ownW.alloc _) ⟨W.heap.size, 0, none⟩ 1 1 [.int .i64 a, .int .i64 b, .bool false] rfl rfl (three_cells (by simp) (by simp) (by simp)) (three_one rfl rfl rfl) (by unfold maxLen; omega) (by omega) (by simp; omega) ?_; intro v1 w1 hown1 hg1 _; obtain ⟨A1, d1', rfl, _⟩ := own_shape hown1; have bW1 : Below (w.heap.size + 1) (w.alloc (Obj.cells #[.int .i64 (n : Int), .slice (some ⟨bb, off, none⟩) l.length c] 24)) w1 := (bW.alloc (by omega) _).grown hg1 (by simp; omega) (fun k hk => (ownW.lt k hk).1); have z0 : w1.cell? ⟨w.heap.size, 0, none⟩ = some (.int .i64 n) := carry bW1 (by simp) (by omega); have z1 : w1.cell? ⟨w.heap.size, 1, none⟩ = some (.slice (some ⟨bb, off, none⟩) l.length c) := carry bW1 (by simp) (by omega))
                go_roundw
                case rel =>
                  refine ⟨b + 1, by omega, by omega, by go_num, ?_, ?_, bW1⟩
                  · rw [Hno.out]
                  · rw [upTo_next hab, meets_snoc, Hc.out, mcells_append, List.length_append]
                    exact hown1
                case measure => simp [intOf]; omega
              · clear hne
                go_wp2
                go_quiet (fail)
                generalize hW : (wr.alloc (Obj.cells #[.int .i64 (a : Int), .int .i64 (b : Int)] 71)).drewN nq = W
                have g0 : W.cell? ⟨wr.heap.size, 0, none⟩ = some (.int .i64 a) := by rw [← hW]; simp
                have g1 : W.cell? ⟨wr.heap.size, 1, none⟩ = some (.int .i64 b) := by rw [← hW]; simp
                have g2 : W.cell? ⟨w.heap.size, 1, none⟩ = some (.slice (some ⟨bb, off, none⟩) l.length c) := by rw [← hW]; exact e0
                have g3 : W.cell? ⟨w.heap.size, 0, none⟩ = some (.int .i64 n) := by rw [← hW]; exact e1
                have ownW : W.ownsRow (w.heap.size + 1) 73 3 u3 (meets l (upTo n a b)).length (mcells (meets l (upTo n a b))) := by rw [← hW]; exact hown.alloc _
                have bW : Below (w.heap.size + 1) (w.alloc (Obj.cells #[.int .i64 (n : Int), .slice (some ⟨bb, off, none⟩) l.length c] 24)) W := by rw [← hW]; exact below_drewN (hb.alloc (by omega) _) _
                have sW : wr.heap.size < W.heap.size := by rw [← hW]; simp
                have sW2 : w.heap.size + 1 ≤ W.heap.size := by omega
                clear hW e0 e1 v0 v1 hown hb hs c0 c1 f0 f1
                go_wp2_with (at_builtin; refine wpList_append_own _ rfl _ _ 77 rfl (w.heap.size + 1) 73 i0 _ 3 24 Try.underlying77 hi hz0 hz1 hz2 rfl (by decide) _ _ _ rfl (ownW.alloc _) ⟨W.heap.size, 0, none⟩ 1 1 [.int .i64 a, .int .i64 b, .bool false] rfl rfl (three_cells (by simp) (by simp) (by simp)) (three_one rfl rfl rfl) (by unfold maxLen; omega) (by omega) (by simp; omega) ?_; intro v1 w1 hown1 hg1 _; obtain ⟨A1, d1', rfl, _⟩ := own_shape hown1; have bW1 : Below (w.heap.size + 1) (w.alloc (Obj.cells #[.int .i64 (n : Int), .slice (some ⟨bb, off, none⟩) l.length c] 24)) w1 := (bW.alloc (by omega) _).grown hg1 (by simp; omega) (fun k hk => (ownW.lt k hk).1); have z0 : w1.cell? ⟨w.heap.size, 0, none⟩ = some (.int .i64 n) := carry bW1 (by simp) (by omega); have z1 : w1.cell? ⟨w.heap.size, 1, none⟩ = some (.slice (some ⟨bb, off, none⟩) l.length c) := carry bW1 (by simp) (by omega))
                go_roundw
                case rel =>
                  refine ⟨b + 1, by omega, by omega, by go_num, ?_, ?_, bW1⟩
                  · rw [Hno.out]
                  · rw [upTo_next hab, meets_snoc, Hc.out, mcells_append, List.length_append]
                    exact hown1
                case measure => simp [intOf]; omega
            · have hqd : decide ((q : Int) < (l.length : Int)) = false := by simp; omega
              have hqd' : decide (q < l.length) = false := by simp; omega
              go_wp2
              go_quiet (fail)
              generalize hW : (wr.alloc (Obj.cells #[.int .i64 (a : Int), .int .i64 (b : Int)] 71)).drewN nq = W
              have g0 : W.cell? ⟨wr.heap.size, 0, none⟩ = some (.int .i64 a) := by rw [← hW]; simp
              have g1 : W.cell? ⟨wr.heap.size, 1, none⟩ = some (.int .i64 b) := by rw [← hW]; simp
              have g2 : W.cell? ⟨w.heap.size, 1, none⟩ = some (.slice A l.length c) := by rw [← hW]; exact e0
              have g3 : W.cell? ⟨w.heap.size, 0, none⟩ = some (.int .i64 n) := by rw [← hW]; exact e1
              have ownW : W.ownsRow (w.heap.size + 1) 73 3 u3 (meets l (upTo n a b)).length (mcells (meets l (upTo n a b))) := by rw [← hW]; exact hown.alloc _
              have bW : Below (w.heap.size + 1) (w.alloc (Obj.cells #[.int .i64 (n : Int), .slice A l.length c] 24)) W := by rw [← hW]; exact below_drewN (hb.alloc (by omega) _) _
              have sW : wr.heap.size < W.heap.size := by rw [← hW]; simp
              have sW2 : w.heap.size + 1 ≤ W.heap.size := by omega
              clear hW e0 e1 v0 v1 hown hb hs
              go_wp2_with (at_builtin; refine wpList_append_own _ rfl _ _ 77 rfl (w.heap.size + 1) 73 i0 _ 3 24 Try.underlying77 hi hz0 hz1 hz2 rfl (by decide) _ _ _ rfl (ownW.alloc _) ⟨W.heap.size, 0, none⟩ 1 1 [.int .i64 a, .int .i64 b, .bool false] rfl rfl (three_cells (by simp) (by simp) (by simp)) (three_one rfl rfl rfl) (by unfold maxLen; omega) (by omega) (by simp; omega) ?_; intro v1 w1 hown1 hg1 _; obtain ⟨A1, d1', rfl, _⟩ := own_shape hown1; have bW1 : Below (w.heap.size + 1) (w.alloc (Obj.cells #[.int .i64 (n : Int), .slice A l.length c] 24)) w1 := (bW.alloc (by omega) _).grown hg1 (by simp; omega) (fun k hk => (ownW.lt k hk).1); have z0 : w1.cell? ⟨w.heap.size, 0, none⟩ = some (.int .i64 n) := carry bW1 (by simp) (by omega); have z1 : w1.cell? ⟨w.heap.size, 1, none⟩ = some (.slice A l.length c) := carry bW1 (by simp) (by omega))
              go_roundw
              case rel =>
                refine ⟨b + 1, by omega, by omega, by go_num, ?_, ?_, bW1⟩
                · rw [Hno.out]
                · rw [upTo_next hab, meets_snoc, Hc.out, mcells_append, List.length_append]
                  exact hown1
              case measure => simp [intOf]; omega
        · have hbn' : n = b := by omega
          subst hbn'
          have hge : ¬ ((n : Int) < n) := by omega
          go_wp2
          go_roundw
          case rel => exact ⟨a + 1, by omega, by go_num, by rw [← toldTo_row], by rw [← upTo_row]; exact hown, hb⟩
          case measure => simp [intOf]; omega
    · have hal : n = a := by omega
      subst hal
      have hge : ¬ ((n : Int) < n) := by omega
      rw [upTo_all] at hown
      obtain ⟨A', c', rfl, _⟩ := own_shape hown
      have hbw : Below w.heap.size w wr := Below.trans (b := _) (by go_grown) (hb.mono (by omega))
      have Hown := Lib.hid hown
      clear hown
      go_wp2
      go_ret
      exact ⟨A', c', rfl, own_lower Hown.out (Nat.le_succ _), hbw⟩
end Go.Proofs.Ytgkedgfbncljbaa
/-
  'impl.pairsOf': the pairs of the meetings that are taken, by its contracts: for friends and for strangers.
-/
namespace Go.Proofs.Ytgkedgfbncljbaa
open Go.RowKit

def taken (f : Bool → Bool) (l : ML) : PL := (l.filter fun m => f m.2.2).map fun m => (m.1, m.2.1)
theorem taken_le (f : Bool → Bool) (l : ML) : (taken f l).length ≤ l.length := by unfold taken; rw [List.length_map]; exact List.length_filter_le _ _
theorem taken_snoc (f : Bool → Bool) (l : ML) (x y : Int) (b : Bool) : taken f (l ++ [(x, y, b)]) = taken f l ++ if f b = true then [(x, y)] else [] := by
  unfold taken
  rw [List.filter_append, List.map_append]
  congr 1
  by_cases h : f b = true
  · rw [if_pos h, List.filter_cons_of_pos (by exact h)]; rfl
  · rw [if_neg h, List.filter_cons_of_neg (by exact h)]; rfl
theorem taken_meets (f : Bool → Bool) (l qs : PL) : taken f (meets l qs) = qs.filter fun q => f (l.contains q) := by
  unfold taken meets
  rw [List.filter_map, List.map_map]
  have e : ((fun m : Int × Int × Bool => (m.1, m.2.1)) ∘ fun q : Int × Int => (q.1, q.2, l.contains q)) = id := rfl
  rw [e, List.map_id]
  rfl

end Go.Proofs.Ytgkedgfbncljbaa
/-
  'OtherParty' and 'FullParty': the model's and the program's, by their contracts.
-/
namespace Go.Proofs.Ytgkedgfbncljbaa
open Go.RowKit

def resOtherParty (p : Int) (l : PL) : Int × PL × Bool := if isP p l then (p, otherP p.toNat l, true) else (0, [], false)
theorem resOtherParty_len (p : Int) (l : PL) : (resOtherParty p l).2.1.length ≤ 1048576 := by
  unfold resOtherParty
  split
  · rename_i h
    have := isP_range h
    exact Nat.le_trans (filter_length_le (n := p.toNat) (by omega) _) (by omega)
  · simp

end Go.Proofs.Ytgkedgfbncljbaa
/-
  'AreFriends': the model's and the program's, by their contracts.
-/
namespace Go.Proofs.Ytgkedgfbncljbaa
open Go.RowKit

/-! ## People -/
def isMan (p a : Int) : Bool := decide (0 ≤ a ∧ a < p)
theorem isMan_yes {p a : Int} (h : 0 ≤ a ∧ a < p) : isMan p a = true := decide_eq_true h
theorem isMan_no {p a : Int} (h : ¬ (0 ≤ a ∧ a < p)) : isMan p a = false := decide_eq_false h
set_option maxHeartbeats 400000 in
theorem isPerson_any (p a : Int) (A : Option Addr) (n c : Nat) (w : World) :
    Calls Try.prog 98 #[.agg #[.int .i64 p, .slice A n c], .int .i64 a] w fun e w' => e = .returned (.bool (isMan p a)) ∧ Below w.heap.size w w' := by
  by_cases h0 : 0 ≤ a
  · by_cases h1 : a < p
    · rw [isMan_yes ⟨h0, h1⟩]
      go_enter Try.func98, Try.ntmps98
      go_wp2
      go_ret
      exact ⟨rfl, by go_grown⟩
    · rw [isMan_no (by omega)]
      go_enter Try.func98, Try.ntmps98
      go_wp2
      go_ret
      exact ⟨rfl, by go_grown⟩
  · rw [isMan_no (by omega)]
    go_enter Try.func98, Try.ntmps98
    go_wp2
    go_ret
    exact ⟨rfl, by go_grown⟩

/-- a party and two different people -/
def isTwo (p : Int) (l : PL) (a b : Int) : Bool := isP p l && isMan p a && isMan p b && decide (a ≠ b)
theorem isTwo_parts {p : Int} {l : PL} {a b : Int} (h : isTwo p l a b = true) : isP p l = true ∧ (0 ≤ a ∧ a < p) ∧ (0 ≤ b ∧ b < p) ∧ a ≠ b := by
  simp only [isTwo, isMan, Bool.and_eq_true, decide_eq_true_eq] at h
  exact ⟨h.1.1.1, h.1.1.2, h.1.2, h.2⟩

/-! ## The pair of two people; whether it is among pairs -/
def indexP (x y : Int) (l : PL) : Int := if l.contains (x, y) then (l.idxOf (x, y) : Int) else -1
set_option maxHeartbeats 1000000 in
set_option maxRecDepth 100000 in
theorem index_any (l : PL) (x y : Int) (A : Option Addr) (c : Nat) (w : World) (hl : l.length ≤ 1048576) (hA : CRead w w.heap.size A (pcells l)) :
    Calls Try.prog 136 #[.slice A l.length c, .agg #[.int .i64 x, .int .i64 y]] w fun e w' => e = .returned (.int .i64 (indexP x y l)) ∧ Below w.heap.size w w' := by
  go_enter Try.func136, Try.ntmps136
  go_wp2
  go_loopw [8] (fun i wr => ∃ k : Nat, k ≤ l.length ∧ i = .int .i64 k ∧ (∀ j, j < k → l[j]? ≠ some (x, y)) ∧ Below (w.heap.size + 1) (w.alloc (Obj.cells #[.int .i64 x, .int .i64 y] 71)) wr) (fun i _ => l.length - (intOf i).toNat)
  case atStart => exact ⟨0, Nat.zero_le _, rfl, fun j hj => by omega, Below.refl _ _⟩
  case round =>
    obtain ⟨k, hk, rfl, hno, hb⟩ := hrel
    have hs := hb.size
    simp only [World.size_alloc] at hs
    have hbw : Below w.heap.size w wr := Below.trans (b := _) (by go_grown) (hb.mono (by omega))
    have x0 : wr.cell? ⟨w.heap.size, 0, none⟩ = some (.int .i64 x) := carry hb (by simp) (by omega)
    have x1 : wr.cell? ⟨w.heap.size, 1, none⟩ = some (.int .i64 y) := carry hb (by simp) (by omega)
    have Hno := Lib.hid hno
    clear hno
    by_cases hlt : k < l.length
    · obtain ⟨⟨u, v⟩, hx⟩ := getSome l k hlt
      obtain ⟨bb, off, rfl, hbb, c0, c1⟩ := (hA.below hbw (Nat.le_refl _)).pair hx
      have hki : (k : Int) < (l.length : Int) := by omega
      have Hx := Lib.hid hx
      clear hx
      by_cases h1 : x = u
      · by_cases h2 : y = v
        · have hc : indexP x y l = k := by
            have hxy : l[k]? = some (x, y) := by rw [Hx.out, h1, h2]
            have hm : l.contains (x, y) = true := List.contains_iff_mem.2 (List.mem_of_getElem? hxy)
            unfold indexP
            rw [if_pos hm]
            have : l.idxOf (x, y) = k := by
              have hlt' := List.idxOf_lt_length_iff.2 (List.contains_iff_mem.1 hm)
              have hg : l[l.idxOf (x, y)]? = some (x, y) := by rw [List.getElem?_eq_getElem hlt']; simp
              rcases Nat.lt_trichotomy (l.idxOf (x, y)) k with h | h | h
              · exact absurd hg (Hno.out _ h)
              · exact h
              · exact absurd (List.not_of_lt_findIdx (p := (· == (x, y))) (xs := l) (i := k) h) (by
                  have e : l[k] = (x, y) := by have := hxy; rw [List.getElem?_eq_getElem hlt] at this; simpa using this
                  simp [e])
            rw [this]
          subst h1 h2
          have Hc := Lib.hid hc
          clear hc
          go_wp2
          go_quiet (fail)
          go_wp2
          go_ret
          exact ⟨by rw [Hc.out]; rfl, ⟨hbw.os, hbw.tape, hbw.output, hbw.size, hbw.block⟩⟩
        · subst h1
          go_wp2
          go_quiet (fail)
          go_wp2
          go_roundw
          case rel =>
            refine ⟨k + 1, by omega, by go_num, ?_, ⟨hb.os, hb.tape, hb.output, hb.size, hb.block⟩⟩
            intro j hj
            rcases Nat.lt_succ_iff_lt_or_eq.1 hj with h | rfl
            · exact Hno.out j h
            · rw [Hx.out]; simp; exact fun h => h2 h.symm
          case measure => simp [intOf]; omega
      · go_wp2
        go_quiet (fail)
        go_wp2
        go_roundw
        case rel =>
          refine ⟨k + 1, by omega, by go_num, ?_, ⟨hb.os, hb.tape, hb.output, hb.size, hb.block⟩⟩
          intro j hj
          rcases Nat.lt_succ_iff_lt_or_eq.1 hj with h | rfl
          · exact Hno.out j h
          · rw [Hx.out]; simp; exact fun h _ => h1 h.symm
        case measure => simp [intOf]; omega
    · have hkl : k = l.length := by omega
      subst hkl
      have hge : ¬ ((l.length : Int) < l.length) := by omega
      have hc : indexP x y l = -1 := by
        unfold indexP
        rw [if_neg]
        intro hm
        obtain ⟨j, hj, hg⟩ := List.getElem_of_mem (List.contains_iff_mem.1 hm)
        exact Hno.out j hj (by rw [List.getElem?_eq_getElem hj, hg])
      have Hc := Lib.hid hc
      clear hc
      go_wp2
      go_ret
      exact ⟨by rw [Hc.out]; rfl, hbw⟩
set_option maxHeartbeats 1000000 in
theorem contains_any (l : PL) (x y : Int) (A : Option Addr) (c : Nat) (w : World) (hl : l.length ≤ 1048576) (hA : CRead w w.heap.size A (pcells l)) :
    Calls Try.prog 122 #[.slice A l.length c, .agg #[.int .i64 x, .int .i64 y]] w fun e w' => e = .returned (.bool (l.contains (x, y))) ∧ Below w.heap.size w w' := by
  have hi : decide (0 ≤ indexP x y l) = l.contains (x, y) := by
    unfold indexP
    cases h : l.contains (x, y) with
    | true => rw [if_pos rfl]; simp
    | false => rw [if_neg (by simp)]; rfl
  have Hi := Lib.hid hi
  clear hi
  go_enter Try.func122, Try.ntmps122
  go_wp2_with fail
  refine (index_any l x y A c _ hl ((hA.below (B' := w.heap.size) (by go_grown) (Nat.le_refl _)).more (by go_size))).mono ?_
  rintro e w2 ⟨rfl, hb2⟩
  simp only [World.size_alloc] at hb2
  go_wp2
  go_ret
  exact ⟨by rw [← Hi.out]; rfl, Below.trans (b := _) (by go_grown) (hb2.mono (by omega))⟩
end Go.Proofs.Ytgkedgfbncljbaa
/-
  PEOPLE CHOSEN AND RENAMED, as plain lists and as tables. Nothing here speaks of the program.
-/
namespace Go.Proofs.Ytgkedgfbncljbaa
open Go.RowKit

def choiceAt (p : Int) (q : List Int) (i : Nat) : Bool :=
  match q[i]? with
  | none => true
  | some x => decide (0 ≤ x ∧ x < p) && (i == 0 || match q[i - 1]? with | none => true | some y => decide (y < x))
/-- an increasing list of some of p people -/
def isChoiceI (p : Int) (q : List Int) : Bool := (List.range q.length).all (choiceAt p q)
theorem isChoiceI_of {p : Int} {q : List Int} (h : ∀ i, i < q.length → choiceAt p q i = true) : isChoiceI p q = true := by
  simp only [isChoiceI, List.all_eq_true, List.mem_range]
  exact h
theorem isChoiceI_no {p : Int} {q : List Int} {i : Nat} (hi : i < q.length) (h : choiceAt p q i = false) : isChoiceI p q = false := by
  cases he : isChoiceI p q with
  | false => rfl
  | true =>
    simp only [isChoiceI, List.all_eq_true, List.mem_range] at he
    rw [he i hi] at h
    cases h
theorem isChoiceI_good {p : Int} {q : List Int} (h : isChoiceI p q = true) {i : Nat} (hi : i < q.length) : choiceAt p q i = true := by
  simp only [isChoiceI, List.all_eq_true, List.mem_range] at h
  exact h i hi
theorem choiceAt_man {p : Int} {q : List Int} {i : Nat} {x : Int} (h : choiceAt p q i = true) (hx : q[i]? = some x) : 0 ≤ x ∧ x < p := by
  simp only [choiceAt, hx, Bool.and_eq_true, decide_eq_true_eq] at h
  exact h.1
theorem choiceAt_less {p : Int} {q : List Int} {i : Nat} {x y : Int} (h : choiceAt p q (i + 1) = true) (hx : q[i]? = some x) (hy : q[i + 1]? = some y) : x < y := by
  simp only [choiceAt, hy, Nat.add_sub_cancel, hx, Bool.and_eq_true, Bool.or_eq_true, decide_eq_true_eq] at h
  rcases h.2 with h | h
  · simp at h
  · exact h
theorem choiceAt_zero {p : Int} {q : List Int} {k : Nat} {x : Int} (hk : k = 0) (hx : q[k]? = some x) (h : 0 ≤ x ∧ x < p) : choiceAt p q k = true := by
  subst hk
  simp [choiceAt, hx, h.1, h.2]
theorem choiceAt_later {p : Int} {q : List Int} {k : Nat} {x y : Int} (_hk : 0 < k) (hx : q[k - 1]? = some x) (hy : q[k]? = some y) (h : 0 ≤ y ∧ y < p) (hl : x < y) : choiceAt p q k = true := by
  simp [choiceAt, hx, hy, h.1, h.2, hl]
theorem choiceAt_bad {p : Int} {q : List Int} {k : Nat} {x : Int} (hx : q[k]? = some x) (h : ¬ (0 ≤ x ∧ x < p)) : choiceAt p q k = false := by
  simp only [choiceAt, hx, Bool.and_eq_false_iff, decide_eq_false_iff_not]
  exact .inl h
theorem choiceAt_stale {p : Int} {q : List Int} {k : Nat} {x y : Int} (hk : 0 < k) (hx : q[k - 1]? = some x) (hy : q[k]? = some y) (hl : ¬ x < y) : choiceAt p q k = false := by
  cases h : choiceAt p q k with
  | false => rfl
  | true =>
    obtain ⟨j, rfl⟩ : ∃ j, k = j + 1 := ⟨k - 1, by omega⟩
    exact absurd (choiceAt_less h hx hy) hl
theorem isChoiceI_sorted {p : Int} {q : List Int} (h : isChoiceI p q = true) : q.Pairwise (· < ·) := by
  rw [List.pairwise_iff_getElem]
  have step : ∀ (d i : Nat) (hi : i < q.length) (hj : i + d + 1 < q.length), q[i] < q[i + d + 1] := by
    intro d
    induction d with
    | zero => intro i hi hj; exact choiceAt_less (isChoiceI_good h hj) (List.getElem?_eq_getElem (by omega)) (List.getElem?_eq_getElem hj)
    | succ d ih =>
      intro i hi hj
      have h1 := ih i hi (by omega)
      have h2 := choiceAt_less (p := p) (q := q) (i := i + d + 1) (isChoiceI_good h (by omega)) (List.getElem?_eq_getElem (by omega)) (List.getElem?_eq_getElem (by omega))
      exact Int.lt_trans h1 h2
  intro i j hi hj hij
  have e : j = i + (j - i - 1) + 1 := by omega
  have := step (j - i - 1) i hi (by omega)
  simpa only [← e] using this
theorem isChoiceI_mem {p : Int} {q : List Int} (h : isChoiceI p q = true) : ∀ x ∈ q, 0 ≤ x ∧ x < p := by
  intro x hx
  obtain ⟨i, hi, rfl⟩ := List.getElem_of_mem hx
  exact choiceAt_man (isChoiceI_good h hi) (List.getElem?_eq_getElem hi)
theorem isChoiceI_long {p : Int} {q : List Int} (h : isChoiceI p q = true) : (q.length : Int) ≤ p ∨ q = [] := by
  have hs := isChoiceI_sorted h
  have low : ∀ (i : Nat) (x : Int), q[i]? = some x → (i : Int) ≤ x := by
    intro i
    induction i with
    | zero => intro x hx; exact (isChoiceI_mem h x (List.mem_of_getElem? hx)).1
    | succ i ih =>
      intro x hx
      have hl : i + 1 < q.length := (List.getElem?_eq_some_iff.1 hx).1
      obtain ⟨y, hy⟩ := getSome q i (by omega)
      have h1 := ih y hy
      have h2 := choiceAt_less (isChoiceI_good h hl) hy hx
      omega
  by_cases hl : q.length = 0
  · exact .inr (List.eq_nil_of_length_eq_zero hl)
  · obtain ⟨x, hx⟩ := getSome q (q.length - 1) (by omega)
    have h1 := low _ _ hx
    have h2 := (isChoiceI_mem h x (List.mem_of_getElem? hx)).2
    left
    omega

theorem countP_at : ∀ (q : List Int), q.Pairwise (· < ·) → ∀ (i : Nat) (x : Int), q[i]? = some x → q.countP (fun y => decide (y < x)) = i
  | [], _, i, x, h => by simp at h
  | a :: q, hs, 0, x, h => by
    simp only [List.getElem?_cons_zero, Option.some.injEq] at h
    subst h
    rw [List.pairwise_cons] at hs
    rw [List.countP_eq_zero]
    intro b hb
    rcases List.mem_cons.1 hb with rfl | hb
    · simp
    · have := hs.1 b hb
      simp only [decide_eq_true_eq]
      omega
  | a :: q, hs, i + 1, x, h => by
    rw [List.pairwise_cons] at hs
    have hx : q[i]? = some x := by simpa using h
    have := hs.1 x (List.mem_of_getElem? hx)
    rw [List.countP_cons_of_pos (by simpa using this), countP_at q hs.2 i x hx]

/-- how many of a list are less -/
def ltI (q : List Int) (x : Int) : Int := ((q.countP (· < x) : Nat) : Int)
theorem ltI_at {q : List Int} (hs : q.Pairwise (· < ·)) {i : Nat} {x : Int} (hx : q[i]? = some x) : ltI q x = i := by
  unfold ltI
  rw [countP_at q hs i x hx]
theorem ltI_mem {q : List Int} (hs : q.Pairwise (· < ·)) {x : Int} (hx : x ∈ q) : ∃ i : Nat, ltI q x = i ∧ q[i]? = some x := by
  obtain ⟨i, hi, rfl⟩ := List.getElem_of_mem hx
  exact ⟨i, ltI_at hs (List.getElem?_eq_getElem hi), List.getElem?_eq_getElem hi⟩
theorem ltI_le (q : List Int) (x : Int) : 0 ≤ ltI q x ∧ ltI q x ≤ q.length := by
  unfold ltI
  have := List.countP_le_length (p := fun y => decide (y < x)) (l := q)
  omega
/-- the pairs of the people chosen -/
def chooseP (l : PL) (q : List Int) : PL := l.filterMap fun r => if q.contains r.1 = true ∧ q.contains r.2 = true then some (ltI q r.1, ltI q r.2) else none
theorem chooseP_snoc (l : PL) (q : List Int) (x y : Int) : chooseP (l ++ [(x, y)]) q = chooseP l q ++ if q.contains x = true ∧ q.contains y = true then [(ltI q x, ltI q y)] else [] := by
  unfold chooseP
  rw [List.filterMap_append]
  congr 1
  by_cases h : q.contains x = true ∧ q.contains y = true
  · rw [if_pos h, List.filterMap_cons_some (by rw [if_pos h]), List.filterMap_nil]
  · rw [if_neg h, List.filterMap_cons_none (by rw [if_neg h]), List.filterMap_nil]
theorem chooseP_le (l : PL) (q : List Int) : (chooseP l q).length ≤ l.length := List.length_filterMap_le _ _
def gI (q : List Int) (i : Nat) : Nat := (q.getD i 0).toNat
def chosenT (l : PL) (q : List Int) (i j : Nat) : Bool := adj l (gI q i) (gI q j)
theorem gI_at {q : List Int} {i : Nat} {x : Int} (hx : q[i]? = some x) (h0 : 0 ≤ x) : ((gI q i : Nat) : Int) = x := by
  unfold gI
  rw [List.getD_eq_getElem?_getD, hx]
  simp only [Option.getD_some]
  omega
theorem mem_chooseP {l : PL} {q : List Int} {r : Int × Int} : r ∈ chooseP l q ↔ ∃ s ∈ l, s.1 ∈ q ∧ s.2 ∈ q ∧ r = (ltI q s.1, ltI q s.2) := by
  unfold chooseP
  rw [List.mem_filterMap]
  constructor
  · rintro ⟨s, hs, h⟩
    split at h
    · rename_i hc
      rw [List.contains_iff_mem, List.contains_iff_mem] at hc
      exact ⟨s, hs, hc.1, hc.2, by simpa using h.symm⟩
    · cases h
  · rintro ⟨s, hs, h1, h2, rfl⟩
    refine ⟨s, hs, ?_⟩
    rw [if_pos (by rw [List.contains_iff_mem, List.contains_iff_mem]; exact ⟨h1, h2⟩)]
theorem chooseP_list {p : Int} {l : PL} {q : List Int} (hp : isP p l = true) (hq : isChoiceI p q = true) : IsList q.length (chooseP l q) := by
  have hr := isP_range hp
  obtain ⟨_, _, hm, hs⟩ := isP_list hp
  have hqs := isChoiceI_sorted hq
  have hmono : ∀ x y, x ∈ q → y ∈ q → x < y → ltI q x < ltI q y := by
    intro x y hx hy hxy
    obtain ⟨i, ei, hi⟩ := ltI_mem hqs hx
    obtain ⟨j, ej, hj⟩ := ltI_mem hqs hy
    rw [ei, ej]
    have hil : i < q.length := (List.getElem?_eq_some_iff.1 hi).1
    have hjl : j < q.length := (List.getElem?_eq_some_iff.1 hj).1
    have e1 : q[i] = x := by rw [List.getElem?_eq_getElem hil] at hi; simpa using hi
    have e2 : q[j] = y := by rw [List.getElem?_eq_getElem hjl] at hj; simpa using hj
    rcases Nat.lt_trichotomy i j with h | h | h
    · omega
    · subst h; omega
    · have := (List.pairwise_iff_getElem.1 hqs) j i hjl hil h
      omega
  have hlen : (q.length : Int) ≤ 12 := by
    rcases isChoiceI_long hq with h | h
    · omega
    · simp [h]
  refine ⟨by omega, hlen, fun r hr => ?_, ?_⟩
  · obtain ⟨s, hsl, h1, h2, rfl⟩ := mem_chooseP.1 hr
    have h3 := hmono _ _ h1 h2 (hm s hsl).2.1
    obtain ⟨j, ej, hj⟩ := ltI_mem hqs h2
    have hjl : j < q.length := (List.getElem?_eq_some_iff.1 hj).1
    have := ltI_le q s.1
    simp only
    omega
  · unfold chooseP
    rw [List.pairwise_filterMap]
    refine List.Pairwise.imp (fun {a b} hlt u hu v hv => ?_) hs
    split at hu
    · split at hv
      · rename_i h1 h2
        rw [List.contains_iff_mem, List.contains_iff_mem] at h1 h2
        simp only [Option.some.injEq] at hu hv
        subst hu
        subst hv
        unfold plt at hlt ⊢
        rcases hlt with hlt | ⟨e, hlt⟩
        · exact .inl (hmono _ _ h1.1 h2.1 hlt)
        · exact .inr ⟨by simp only; rw [e], hmono _ _ h1.2 h2.2 hlt⟩
      · cases hv
    · cases hu
theorem tabP_choose {p : Int} {l : PL} {q : List Int} (hp : isP p l = true) (hq : isChoiceI p q = true) : tabP q.length (chosenT l q) = chooseP l q := by
  have hc := chooseP_list hp hq
  have hqs := isChoiceI_sorted hq
  obtain ⟨_, _, hm, hs⟩ := isP_list hp
  have hlen : q.length ≤ 12 := by have := hc.2.1; omega
  refine sorted_ext (filter_list hlen _).2.2.2 hc.2.2.2 fun r => ?_
  unfold tabP
  rw [List.mem_filter, mem_allP, mem_chooseP]
  constructor
  · rintro ⟨⟨h0, h1, h2⟩, ht⟩
    obtain ⟨x, hx⟩ := getSome q r.1.toNat (by omega)
    obtain ⟨y, hy⟩ := getSome q r.2.toNat (by omega)
    have hx0 := isChoiceI_mem hq x (List.mem_of_getElem? hx)
    have hy0 := isChoiceI_mem hq y (List.mem_of_getElem? hy)
    have ex := gI_at hx hx0.1
    have ey := gI_at hy hy0.1
    have hxy : x < y := by
      have hil : r.1.toNat < q.length := (List.getElem?_eq_some_iff.1 hx).1
      have hjl : r.2.toNat < q.length := (List.getElem?_eq_some_iff.1 hy).1
      have := (List.pairwise_iff_getElem.1 hqs) _ _ hil hjl (by omega)
      rw [List.getElem?_eq_getElem hil] at hx
      rw [List.getElem?_eq_getElem hjl] at hy
      simp only [Option.some.injEq] at hx hy
      rwa [hx, hy] at this
    have hmem : (x, y) ∈ l := by
      unfold chosenT adj at ht
      rw [ex, ey, Bool.or_eq_true, List.contains_iff_mem, List.contains_iff_mem] at ht
      rcases ht with ht | ht
      · exact ht
      · have := hm _ ht
        simp only at this
        omega
    refine ⟨(x, y), hmem, List.mem_of_getElem? hx, List.mem_of_getElem? hy, ?_⟩
    rw [ltI_at hqs hx, ltI_at hqs hy]
    exact Prod.ext (by simp; omega) (by simp; omega)
  · rintro ⟨s, hsl, h1, h2, rfl⟩
    have hin := hc.2.2.1 _ (mem_chooseP.2 ⟨s, hsl, h1, h2, rfl⟩)
    refine ⟨hin, ?_⟩
    obtain ⟨i, ei, hi⟩ := ltI_mem hqs h1
    obtain ⟨j, ej, hj⟩ := ltI_mem hqs h2
    have hs0 := hm s hsl
    simp only [ei, ej, Int.toNat_natCast]
    unfold chosenT adj
    rw [gI_at hi (by omega), gI_at hj (by omega), Bool.or_eq_true, List.contains_iff_mem]
    left
    exact hsl
end Go.Proofs.Ytgkedgfbncljbaa
/-
  'impl.isChoice' and the search in a list of people, by their contracts.
-/
namespace Go.Proofs.Ytgkedgfbncljbaa
open Go.RowKit

set_option maxHeartbeats 1000000 in
set_option maxRecDepth 100000 in
theorem isChoice_any (p : Int) (q : List Int) (A B : Option Addr) (n c d : Nat) (w : World) (hq : q.length ≤ 1048576) (hB : CRead w w.heap.size B (icells q)) :
    Calls Try.prog 85 #[.agg #[.int .i64 p, .slice A n c], .slice B q.length d] w fun e w' => e = .returned (.bool (isChoiceI p q)) ∧ Below w.heap.size w w' := by
  go_enter Try.func85, Try.ntmps85
  go_wp2
  go_loopw [9] (fun i wr => ∃ k : Nat, k ≤ q.length ∧ i = .int .i64 k ∧ (∀ j, j < k → choiceAt p q j = true) ∧ Below (w.heap.size + 1) (w.alloc (Obj.cells #[.int .i64 p, .slice A n c] 24)) wr) (fun i _ => q.length - (intOf i).toNat)
  case atStart => exact ⟨0, Nat.zero_le _, rfl, fun j hj => by omega, Below.refl _ _⟩
  case round =>
    obtain ⟨k, hk, rfl, hg, hb⟩ := hrel
    have Hg := Lib.hid hg
    have hs := hb.size
    simp only [World.size_alloc] at hs
    have hbw : Below w.heap.size w wr := Below.trans (b := _) (by go_grown) (hb.mono (by omega))
    have u0 : wr.cell? ⟨w.heap.size, 0, none⟩ = some (.int .i64 p) := carry hb (by simp) (by omega)
    have u1 : wr.cell? ⟨w.heap.size, 1, none⟩ = some (.slice A n c) := carry hb (by simp) (by omega)
    clear hg
    by_cases hlt : k < q.length
    · obtain ⟨x, hx⟩ := getSome q k hlt
      obtain ⟨b, off, rfl, hbb, c0⟩ := (hB.below hbw (Nat.le_refl _)).int hx
      have hki : (k : Int) < (q.length : Int) := by omega
      have Hx := Lib.hid hx
      clear hx
      by_cases hman : 0 ≤ x ∧ x < p
      · have Hm := Lib.hid (isMan_yes hman)
        have Hman := Lib.hid hman
        clear hman
        by_cases hk0 : k = 0
        · have Hk0 := Lib.hid hk0
          have hk1 : ¬ ((0 : Int) < (k : Int)) := by omega
          have hk2 : ¬ (0 < k) := by omega
          clear hk0
          go_wp2_with fail
          refine (isPerson_any p x A n c _).mono ?_
          rw [Hm.out]
          rintro e w2 ⟨rfl, hb2⟩
          go_wp2
          go_roundw
          case rel =>
            refine ⟨k + 1, by omega, by go_num, fun j hj => ?_, hb.trans (hb2.mono (by omega))⟩
            rcases Nat.lt_succ_iff_lt_or_eq.1 hj with h | rfl
            · exact Hg.out j h
            · exact choiceAt_zero Hk0.out Hx.out Hman.out
          case measure => simp [intOf]; omega
        · obtain ⟨y, hy⟩ := getSome q (k - 1) (by omega)
          obtain ⟨b', off', e', _, c1⟩ := (hB.below hbw (Nat.le_refl _)).int hy
          simp only [Option.some.injEq, Addr.mk.injEq, and_true] at e'
          obtain ⟨rfl, rfl⟩ := e'
          have Hy := Lib.hid hy
          have hk1 : (0 : Int) < (k : Int) := by omega
          have hk2 : 0 < k := by omega
          have hk3 : (0 : Int) ≤ (k : Int) - 1 := by omega
          have hk4 : (k : Int) - 1 < (q.length : Int) := by omega
          clear hy hk0
          by_cases hyx : y < x
          · have hyx2 : ¬ (x ≤ y) := by omega
            go_wp2_with fail
            refine (isPerson_any p x _ n c _).mono ?_
            rw [Hm.out]
            rintro e w2 ⟨rfl, hb2⟩
            have c2 := carry hb2 c1 (by omega)
            go_wp2
            go_roundw
            case rel =>
              refine ⟨k + 1, by omega, by go_num, fun j hj => ?_, hb.trans (hb2.mono (by omega))⟩
              rcases Nat.lt_succ_iff_lt_or_eq.1 hj with h | rfl
              · exact Hg.out j h
              · exact choiceAt_later hk2 Hy.out Hx.out Hman.out hyx
            case measure => simp [intOf]; omega
          · have hyx2 : x ≤ y := by omega
            have He := Lib.hid (isChoiceI_no hlt (choiceAt_stale (p := p) hk2 Hy.out Hx.out hyx))
            go_wp2_with fail
            refine (isPerson_any p x _ n c _).mono ?_
            rw [Hm.out]
            rintro e w2 ⟨rfl, hb2⟩
            have c2 := carry hb2 c1 (by omega)
            go_wp2
            go_ret
            exact ⟨by rw [He.out]; rfl, hbw.trans (hb2.mono (by omega))⟩
      · have Hm := Lib.hid (isMan_no hman)
        have He := Lib.hid (isChoiceI_no hlt (choiceAt_bad Hx.out hman))
        clear hman
        go_wp2_with fail
        refine (isPerson_any p x A n c _).mono ?_
        rw [Hm.out]
        rintro e w2 ⟨rfl, hb2⟩
        go_wp2
        go_ret
        exact ⟨by rw [He.out]; rfl, hbw.trans (hb2.mono (by omega))⟩
    · have hkl : k = q.length := by omega
      have He := Lib.hid (isChoiceI_of fun j hj => Hg.out j (by omega))
      have hge : ¬ ((k : Int) < (q.length : Int)) := by omega
      go_wp2
      go_ret
      exact ⟨by rw [He.out]; rfl, hbw⟩
end Go.Proofs.Ytgkedgfbncljbaa
/-
  DERIVED: THE SHELF's CONTRACTS AT THIS DUMP, IN PLAIN WORDS (tools/lay-plain.mjs out of 'YtgkedgfbncljbaaShelfHome.lean', which tools/lay-shelf.mjs wrote): THE SAME DECLARATIONS UNDER THE SAME NAMES: 'import', 'namespace', 'open', 'def', 'theorem' AND NOTHING ELSE: no command of the shelf's: FOR A HAND-IN. Each laying: the table of numbers ('.._ren') and one theorem, a field a fact of the dump's own or the kernel's comparison; each contract: ONE APPLICATION.
-/
namespace Go.Proofs
open Go.Shelf
def Try.bitsLen_ren : Go.Shelf.Ren := ⟨fun | 125 => 99 | 128 => 115 | 129 => 116 | n => n, fun | 46 => 105 | 3 => 3 | 51 => 122 | 53 => 124 | 4 => 4 | 5 => 5 | 9 => 9 | n => n, fun | n => n⟩
theorem Try.bitsLen : Go.Proofs.Lays.n125 Try.prog Try.bitsLen_ren := {
  mixed := by kernel_rfl
  f125 := Try.func99.trans (congrArg some (by kernel_rfl))
  f128 := Try.func115.trans (congrArg some (by kernel_rfl))
  f129 := Try.func116.trans (congrArg some (by kernel_rfl))
  t3 := Try.underlying3
  a3 := Try.isAgg3
  z3 := Try.sizeOf3
  v3 := Try.zeroValue3
  t4 := Try.underlying4
  a4 := Try.isAgg4
  z4 := Try.sizeOf4
  v4 := Try.zeroValue4
  t5 := Try.underlying5
  a5 := Try.isAgg5
  z5 := Try.sizeOf5
  v5 := Try.zeroValue5
  t9 := Try.underlying9
  a9 := Try.isAgg9
  z9 := Try.sizeOf9
  v9 := Try.zeroValue9
  t46 := Try.underlying105
  a46 := Try.isAgg105
  z46 := Try.sizeOf105
  v46 := Try.zeroValue105
  t51 := Try.underlying122
  a51 := Try.isAgg122
  z51 := Try.sizeOf122
  v51 := Try.zeroValue122
  t53 := Try.underlying124
  a53 := Try.isAgg124
  z53 := Try.sizeOf124
  v53 := Try.zeroValue124 }
def Try.sortUpI_ren : Go.Shelf.Ren := ⟨fun | 53 => 103 | 64 => 99 | 63 => 121 | 78 => 115 | 79 => 116 | 70 => 127 | 71 => 128 | 72 => 129 | 73 => 130 | 74 => 131 | 75 => 132 | 59 => 133 | 76 => 134 | 77 => 135 | 88 => 137 | 89 => 138 | 90 => 139 | 91 => 140 | 92 => 141 | 68 => 126 | 96 => 142 | n => n, fun | 22 => 38 | 23 => 3 | 3 => 3 | 51 => 105 | 0 => 0 | 67 => 122 | 69 => 124 | 4 => 4 | 61 => 137 | 60 => 136 | 44 => 43 | 5 => 5 | 9 => 9 | 75 => 142 | 79 => 146 | 83 => 148 | 84 => 149 | n => n, fun | n => n⟩
theorem Try.sortUpI : Go.Proofs.SlLaysN.n53 Try.prog Try.sortUpI_ren := {
  mixed := by kernel_rfl
  f53 := ⟨Try.f103.name, by decide, Try.func103.trans (congrArg some (by kernel_rfl))⟩
  f59 := ⟨Try.f133.name, by decide, Try.func133.trans (congrArg some (by kernel_rfl))⟩
  f63 := ⟨Try.f121.name, by decide, Try.func121.trans (congrArg some (by kernel_rfl))⟩
  f64 := Try.func99.trans (congrArg some (by kernel_rfl))
  f68 := ⟨Try.f126.name, by decide, Try.func126.trans (congrArg some (by kernel_rfl))⟩
  f70 := ⟨Try.f127.name, by decide, Try.func127.trans (congrArg some (by kernel_rfl))⟩
  f71 := ⟨Try.f128.name, by decide, Try.func128.trans (congrArg some (by kernel_rfl))⟩
  f72 := ⟨Try.f129.name, by decide, Try.func129.trans (congrArg some (by kernel_rfl))⟩
  f73 := ⟨Try.f130.name, by decide, Try.func130.trans (congrArg some (by kernel_rfl))⟩
  f74 := ⟨Try.f131.name, by decide, Try.func131.trans (congrArg some (by kernel_rfl))⟩
  f75 := ⟨Try.f132.name, by decide, Try.func132.trans (congrArg some (by kernel_rfl))⟩
  f76 := ⟨Try.f134.name, by decide, Try.func134.trans (congrArg some (by kernel_rfl))⟩
  f77 := ⟨Try.f135.name, by decide, Try.func135.trans (congrArg some (by kernel_rfl))⟩
  f78 := Try.func115.trans (congrArg some (by kernel_rfl))
  f79 := Try.func116.trans (congrArg some (by kernel_rfl))
  f88 := ⟨Try.f137.name, by decide, Try.func137.trans (congrArg some (by kernel_rfl))⟩
  f89 := Try.func138.trans (congrArg some (by kernel_rfl))
  f90 := Try.func139.trans (congrArg some (by kernel_rfl))
  f91 := ⟨Try.f140.name, by decide, Try.func140.trans (congrArg some (by kernel_rfl))⟩
  f92 := ⟨Try.f141.name, by decide, Try.func141.trans (congrArg some (by kernel_rfl))⟩
  f96 := ⟨Try.f142.name, by decide, Try.func142.trans (congrArg some (by kernel_rfl))⟩
  t0 := Try.underlying0
  a0 := Try.isAgg0
  z0 := Try.sizeOf0
  v0 := Try.zeroValue0
  t3 := Try.underlying3
  a3 := Try.isAgg3
  z3 := Try.sizeOf3
  v3 := Try.zeroValue3
  t4 := Try.underlying4
  a4 := Try.isAgg4
  z4 := Try.sizeOf4
  v4 := Try.zeroValue4
  t5 := Try.underlying5
  a5 := Try.isAgg5
  z5 := Try.sizeOf5
  v5 := Try.zeroValue5
  t9 := Try.underlying9
  a9 := Try.isAgg9
  z9 := Try.sizeOf9
  v9 := Try.zeroValue9
  t22 := Try.underlying38
  a22 := Try.isAgg38
  z22 := Try.sizeOf38
  v22 := Try.zeroValue38
  t23 := Try.underlying3
  a23 := Try.isAgg3
  z23 := Try.sizeOf3
  v23 := Try.zeroValue3
  t44 := Try.underlying43
  a44 := Try.isAgg43
  z44 := Try.sizeOf43
  v44 := Try.zeroValue43
  t51 := Try.underlying105
  a51 := Try.isAgg105
  z51 := Try.sizeOf105
  v51 := Try.zeroValue105
  t60 := Try.underlying136
  a60 := Try.isAgg136
  z60 := Try.sizeOf136
  v60 := Try.zeroValue136
  t61 := Try.underlying137
  a61 := Try.isAgg137
  z61 := Try.sizeOf137
  v61 := Try.zeroValue137
  t67 := Try.underlying122
  a67 := Try.isAgg122
  z67 := Try.sizeOf122
  v67 := Try.zeroValue122
  t69 := Try.underlying124
  a69 := Try.isAgg124
  z69 := Try.sizeOf124
  v69 := Try.zeroValue124
  t75 := Try.underlying142
  a75 := Try.isAgg142
  z75 := Try.sizeOf142
  v75 := Try.zeroValue142
  t79 := Try.underlying146
  a79 := Try.isAgg146
  z79 := Try.sizeOf146
  v79 := Try.zeroValue146
  t83 := Try.underlying148
  a83 := Try.isAgg148
  z83 := Try.sizeOf148
  v83 := Try.zeroValue148
  t84 := Try.underlying149
  a84 := Try.isAgg149
  z84 := Try.sizeOf149
  v84 := Try.zeroValue149 }
def Try.compactI_ren : Go.Shelf.Ren := ⟨fun | 43 => 77 | n => n, fun | 22 => 38 | 23 => 3 | 3 => 3 | 4 => 4 | 0 => 0 | n => n, fun | n => n⟩
theorem Try.compactI : Go.Proofs.SlLaysN.n43 Try.prog Try.compactI_ren := {
  mixed := by kernel_rfl
  f43 := ⟨Try.f77.name, by decide, Try.func77.trans (congrArg some (by kernel_rfl))⟩
  t0 := Try.underlying0
  a0 := Try.isAgg0
  z0 := Try.sizeOf0
  v0 := Try.zeroValue0
  t3 := Try.underlying3
  a3 := Try.isAgg3
  z3 := Try.sizeOf3
  v3 := Try.zeroValue3
  t4 := Try.underlying4
  a4 := Try.isAgg4
  z4 := Try.sizeOf4
  v4 := Try.zeroValue4
  t22 := Try.underlying38
  a22 := Try.isAgg38
  z22 := Try.sizeOf38
  v22 := Try.zeroValue38
  t23 := Try.underlying3
  a23 := Try.isAgg3
  z23 := Try.sizeOf3
  v23 := Try.zeroValue3
  i23 := by kernel_rfl }
def Try.indexI_ren : Go.Shelf.Ren := ⟨fun | 29 => 105 | n => n, fun | 22 => 38 | 23 => 3 | 3 => 3 | 0 => 0 | 4 => 4 | n => n, fun | n => n⟩
theorem Try.indexI : Go.Proofs.SlLaysN.n29 Try.prog Try.indexI_ren := {
  mixed := by kernel_rfl
  f29 := ⟨Try.f105.name, by decide, Try.func105.trans (congrArg some (by kernel_rfl))⟩
  t0 := Try.underlying0
  a0 := Try.isAgg0
  z0 := Try.sizeOf0
  v0 := Try.zeroValue0
  t3 := Try.underlying3
  a3 := Try.isAgg3
  z3 := Try.sizeOf3
  v3 := Try.zeroValue3
  t4 := Try.underlying4
  a4 := Try.isAgg4
  z4 := Try.sizeOf4
  v4 := Try.zeroValue4
  t22 := Try.underlying38
  a22 := Try.isAgg38
  z22 := Try.sizeOf38
  v22 := Try.zeroValue38
  t23 := Try.underlying3
  a23 := Try.isAgg3
  z23 := Try.sizeOf3
  v23 := Try.zeroValue3 }
def Try.containsI_ren : Go.Shelf.Ren := ⟨fun | 31 => 86 | 29 => 105 | n => n, fun | 22 => 38 | 23 => 3 | 4 => 4 | 3 => 3 | 0 => 0 | n => n, fun | n => n⟩
theorem Try.containsI : Go.Proofs.SlLaysN.n31 Try.prog Try.containsI_ren := {
  mixed := by kernel_rfl
  f29 := ⟨Try.f105.name, by decide, Try.func105.trans (congrArg some (by kernel_rfl))⟩
  f31 := ⟨Try.f86.name, by decide, Try.func86.trans (congrArg some (by kernel_rfl))⟩
  t0 := Try.underlying0
  a0 := Try.isAgg0
  z0 := Try.sizeOf0
  v0 := Try.zeroValue0
  t3 := Try.underlying3
  a3 := Try.isAgg3
  z3 := Try.sizeOf3
  v3 := Try.zeroValue3
  t4 := Try.underlying4
  a4 := Try.isAgg4
  z4 := Try.sizeOf4
  v4 := Try.zeroValue4
  t22 := Try.underlying38
  a22 := Try.isAgg38
  z22 := Try.sizeOf38
  v22 := Try.zeroValue38
  t23 := Try.underlying3
  a23 := Try.isAgg3
  z23 := Try.sizeOf3
  v23 := Try.zeroValue3 }
def Try.growP_ren : Go.Shelf.Ren := ⟨fun | 4 => 114 | n => n, fun | 22 => 22 | 25 => 71 | 3 => 3 | 4 => 4 | 9 => 9 | 20 => 20 | 0 => 0 | 2 => 3 | n => n, fun | n => n⟩
theorem Try.growP : Go.Proofs.Lays8.n4 Try.prog Try.growP_ren := {
  mixed := by kernel_rfl
  f4 := ⟨Try.f114.name, by decide, Try.func114.trans (congrArg some (by kernel_rfl))⟩
  t0 := Try.underlying0
  a0 := Try.isAgg0
  z0 := Try.sizeOf0
  v0 := Try.zeroValue0
  t3 := Try.underlying3
  a3 := Try.isAgg3
  z3 := Try.sizeOf3
  v3 := Try.zeroValue3
  t4 := Try.underlying4
  a4 := Try.isAgg4
  z4 := Try.sizeOf4
  v4 := Try.zeroValue4
  t9 := Try.underlying9
  a9 := Try.isAgg9
  z9 := Try.sizeOf9
  v9 := Try.zeroValue9
  t20 := Try.underlying20
  a20 := Try.isAgg20
  z20 := Try.sizeOf20
  v20 := Try.zeroValue20
  t22 := Try.underlying22
  a22 := Try.isAgg22
  z22 := Try.sizeOf22
  v22 := Try.zeroValue22 }
end Go.Proofs
/-
  'slices.Contains' at numbers, from the shelf.
-/
namespace Go.Proofs.Ytgkedgfbncljbaa
open Go.RowKit

set_option maxRecDepth 100000 in
theorem containsI_any (q : List Int) (x : Int) (A : Option Addr) (c : Nat) (w : World) (hl : q.length ≤ 1048576) (hA : CRead w w.heap.size A (icells q)) :
    Calls Try.prog 86 #[.slice A q.length c, .int .i64 x] w fun e w' => e = .returned (.bool (hasI q x)) ∧ w = w' := by
  by_cases h0 : q.length = 0
  · have hq : q = [] := List.eq_nil_of_length_eq_zero h0
    subst hq
    have h := AnyG.slices_Contains_int_empty Try.containsI A c x w
    change Calls Try.prog 86 _ _ _ at h
    exact h.mono fun _ _ ⟨he, hw⟩ => ⟨he, hw.symm⟩
  · obtain ⟨b, off, rfl, hb, hc⟩ := hA.ints (by omega)
    have h := AnyG.slices_Contains_int Try.containsI b off q.length c q x w (Nat.le_refl _) (by omega) hc
    rw [List.take_length] at h
    change Calls Try.prog 86 _ _ _ at h
    exact h.mono fun _ _ ⟨he, hw⟩ => ⟨he, hw.symm⟩
end Go.Proofs.Ytgkedgfbncljbaa
