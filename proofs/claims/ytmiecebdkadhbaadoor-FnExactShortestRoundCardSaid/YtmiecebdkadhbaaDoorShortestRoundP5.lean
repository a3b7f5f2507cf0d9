/-
  Texts put together for the claims of 'ShortestRound' (pack 5): Numbers, DistS, ShortS, LawShortestRound, Said, Head, Facts, Door, Leave, Goes.
-/
import Derived.Test.YtmiecebdkadhbaaDoorShortestRoundP1
import Derived.Test.YtmiecebdkadhbaaDoorShortestRoundP2
import Derived.Test.YtmiecebdkadhbaaDoorShortestRoundP4
import Derived.Maps.AppendAt
import Derived.Deep.RegionLaw
import Derived.Deep.RegionHeld3
import Derived.Test.YtmiecebdkadhbaaDoorRows
import Derived.ProofKit
import Derived.OpenShut
import Derived.Deep.SlicePairs
import Derived.Lib.SmallJoins
import Derived.Test.YtmiecebdkadhbaaDoorTie
import Derived.Test.YtmiecebdkadhbaaDoorCards
import Derived.Lib.LaidTab
import Derived.LaidHandle
import Derived.SevenTiedAt
import Derived.Conc.Holds
import Derived.Leaving
import Derived.Handed
import Derived.Test.YtmiecebdkadhbaaDoorProg
/-
  HOW MANY FRIENDS EACH PERSON HAS: the model's count and the program's, by their contracts.
-/
namespace Go.Proofs.YtmiecebdkadhbaaDoor
open Go.RowKit

def bump (acc : List Int) (a : Int) : List Int := acc.set a.toNat (acc.getD a.toNat 0 + 1)
def numsOf (n : Nat) (l : PL) : List Int := l.foldl (fun acc q => bump (bump acc q.1) q.2) (List.replicate n 0)
theorem bump_length (acc : List Int) (a : Int) : (bump acc a).length = acc.length := by simp [bump]
theorem bump_at {acc : List Int} {a : Nat} {u : Int} (h : acc[a]? = some u) : bump acc (a : Int) = acc.set a (u + 1) := by simp [bump, List.getD, h]
theorem numsOf_snoc (n : Nat) (l : PL) (q : Int × Int) : numsOf n (l ++ [q]) = bump (bump (numsOf n l) q.1) q.2 := by simp [numsOf, List.foldl_append]
theorem numsOf_length (n : Nat) (l : PL) : (numsOf n l).length = n := by
  unfold numsOf
  suffices h : ∀ (l : PL) (acc : List Int), acc.length = n → (l.foldl (fun acc q => bump (bump acc q.1) q.2) acc).length = n from h l _ (by simp)
  intro l
  induction l with
  | nil => intro acc h; exact h
  | cons q l ih => intro acc h; exact ih _ (by rw [bump_length, bump_length, h])
def Small (acc : List Int) (m : Nat) : Prop := ∀ (i : Nat) (x : Int), acc[i]? = some x → 0 ≤ x ∧ x ≤ m
theorem small_zero (n m : Nat) : Small (List.replicate n 0) m := by
  intro i x h
  rw [List.getElem?_replicate] at h
  split at h
  · simp at h; omega
  · cases h
theorem small_set {acc : List Int} {m a : Nat} {u : Int} (h : Small acc m) (ha : acc[a]? = some u) : Small (acc.set a (u + 1)) (m + 1) := by
  intro i x hx
  have hu := h a u ha
  rw [List.getElem?_set] at hx
  split at hx
  · split at hx
    · simp at hx; omega
    · cases hx
  · have := h i x hx; omega
def resNumbersOfFriends (p : Int) (l : PL) : List Int × Bool := if isP p l then (numsOf p.toNat l, true) else ([], false)
theorem resNumbersOfFriends_len (p : Int) (l : PL) : (resNumbersOfFriends p l).1.length ≤ 1048576 := by
  unfold resNumbersOfFriends
  split
  · rename_i h
    have := isP_range h
    rw [numsOf_length]
    omega
  · simp

/-- what one pair does to the row of numbers (the walk writes a store into an old block ahead of a new block) -/
theorem numbers_round {w : World} {B e g n cap a b : Nat} {acc : List Int} {u v : Int} (hown : w.ownsRow B e 1 (.slice (some ⟨g, 0, none⟩) n cap) n (icells acc)) (hu : acc[a]? = some u) (hv : acc[b]? = some v) (hab : a ≠ b) (o : Obj) :
    (w.alloc o).cell? ⟨g, a, none⟩ = some (.int .i64 u) ∧ (w.alloc o).frozen? ⟨g, a, none⟩ = false ∧
      ((w.setCell ⟨g, a, none⟩ (.int .i64 (u + 1))).alloc o).cell? ⟨g, b, none⟩ = some (.int .i64 v) ∧ ((w.setCell ⟨g, a, none⟩ (.int .i64 (u + 1))).alloc o).frozen? ⟨g, b, none⟩ = false ∧
      (((w.setCell ⟨g, a, none⟩ (.int .i64 (u + 1))).setCell ⟨g, b, none⟩ (.int .i64 (v + 1))).alloc o).ownsRow B e 1 (.slice (some ⟨g, 0, none⟩) n cap) n (icells (bump (bump acc a) b)) := by
  have h1 := hown.alloc o
  have h2 := own_setInt hown a (u + 1)
  have h2' := h2.alloc o
  have hv2 : (acc.set a (u + 1))[b]? = some v := by rw [List.getElem?_set_ne hab]; exact hv
  have h3 := own_setInt h2 b (v + 1)
  refine ⟨own_intAt h1 hu, h1.frozenAt _, own_intAt h2' hv2, h2'.frozenAt _, ?_⟩
  rw [bump_at hu, bump_at hv2]
  exact h3.alloc o

end Go.Proofs.YtmiecebdkadhbaaDoor
/-
  THE MODEL's DISTANCES of all people from one, by contract.
-/
namespace Go.Proofs.YtmiecebdkadhbaaDoor
open Go.RowKit

theorem own_built1 (w : World) (a : Int) : (w.alloc (Obj.cells #[.int .i64 a] 3)).ownsRow w.heap.size 3 1 (.slice (some ⟨w.heap.size, 0, none⟩) 1 1) 1 (icells [a]) :=
  ⟨by simp [icells], .inr ⟨w.heap.size, 1, #[.int .i64 a], rfl, Nat.le_refl _, heap_alloc_new w _, Nat.le_refl _, by unfold maxLen; omega, rfl, by simp [icells]⟩⟩
def qcells (Q : List Nat) : List Value := icells (Q.map fun b : Nat => (b : Int))
theorem friendR_at {n j : Nat} {f : Nat → Bool} {x : Int} (h : (friendR n f)[j]? = some x) : ∃ y : Nat, x = y ∧ y < n ∧ f y = true := by
  have := List.mem_of_getElem? h
  unfold friendR at this
  obtain ⟨y, hy, rfl⟩ := List.mem_map.1 this
  obtain ⟨h1, h2⟩ := List.mem_filter.1 hy
  exact ⟨y, rfl, List.mem_range.1 h1, h2⟩
theorem friendR_all {n b : Nat} {f : Nat → Bool} (hb : b < n) (hf : f b = true) : ∃ j : Nat, (friendR n f)[j]? = some (b : Int) := by
  refine List.getElem?_of_mem ?_
  unfold friendR
  exact List.mem_map.2 ⟨b, List.mem_filter.2 ⟨List.mem_range.2 hb, hf⟩, rfl⟩
theorem index_row {gq i m c : Nat} (hi : i < m) (v : World) : (Instr.indexAt 26 (.slice (some ⟨gq, 0, none⟩) m c) (.int .i64 i)).run Tryd.prog v = .ok (.pointer (some ⟨gq, i, none⟩)) v := by
  have h0 : (0 : Int) ≤ i ∧ (i : Int) < m := by omega
  simp [go_sem, Tryd.underlying26, h0, Addr.add]
  omega
set_option maxHeartbeats 1000000 in
set_option maxRecDepth 100000 in
theorem cfDistances_any (n a : Nat) (t : Nat → Nat → Bool) (A : Option Addr) (c : Nat) (G : Nat → Nat) (B : Nat) (w : World) (hn : n ≤ 12) (ha : a < n) (ht : ∀ y x, t y x = true → x < n) (tab : TabG w B (.slice A n c) n n G t) :
    Calls Tryd.prog 67 #[.slice A n c, .int .i64 a] w fun e w' => ∃ g, e = .returned (.slice (some ⟨g, 0, none⟩) n n) ∧
      w'.ownsRow w.heap.size 3 1 (.slice (some ⟨g, 0, none⟩) n n) n (icells ((List.range n).map (distO n t a))) ∧ Below w.heap.size w w' := by
  obtain ⟨i0, hi, hz0, hz1, hz2⟩ := info_parts Tryd.infoInt
  have hai : (a : Int) < n := by omega
  have Tab := Lib.hid tab
  have Ht := Lib.hid ht
  clear tab ht
  go_enter Tryd.func67, Tryd.ntmps67
  go_wp2_with (at_make; refine wpList_make_full _ rfl _ _ 26 rfl w.heap.size 3 i0 _ 1 Tryd.underlying26 hi hz0 hz1 _ _ _ _ n rfl rfl (by omega) (by omega) (by rw [hz2]; omega) (by unfold maxLen; omega) (by go_size) ?_; intro w1 hown1 hgr1)
  rw [show Value.cells (.int .i64 0) = #[.int .i64 0] from rfl, made_ints] at hown1
  have k1 : Below w.heap.size w w1 := below_of_gb hgr1 (Nat.le_refl _)
  go_loopw [16] (fun i wr => ∃ k : Nat, k ≤ n ∧ i = .int .i64 k ∧ wr.ownsRow w.heap.size 3 1 (.slice (some ⟨w.heap.size, 0, none⟩) n n) n (icells ((List.range n).map fun x => if x < k then -1 else 0)) ∧ Below w.heap.size w wr) (fun i _ => n - (intOf i).toNat)
  case atStart =>
    refine ⟨0, Nat.zero_le _, rfl, ?_, k1⟩
    have e : (List.range n).map (fun x => if x < 0 then (-1 : Int) else 0) = List.replicate n 0 := by
      rw [List.eq_replicate_iff]
      exact ⟨by simp, fun x hx => by obtain ⟨y, _, rfl⟩ := List.mem_map.1 hx; simp⟩
    rw [e]
    exact hown1
  case round =>
    obtain ⟨k, hk, rfl, own, hb⟩ := hrel
    have sb := hb.size
    by_cases hlt : k < n
    · have hki : (k : Int) < n := by omega
      have c0 := own_intAt own (k := k) (x := 0) (by rw [List.getElem?_map, List.getElem?_range hlt]; simp)
      have f0 := own.frozenAt k
      have own2 := own_setInt own k (-1)
      rw [range_set, show updI (fun x => if x < k then (-1 : Int) else 0) k (-1) = fun x => if x < k + 1 then (-1 : Int) else 0 from by
        funext x
        simp only [updI]
        by_cases h : x = k
        · rw [if_pos h, if_pos (by omega)]
        · rw [if_neg h]
          by_cases h2 : x < k
          · rw [if_pos h2, if_pos (by omega)]
          · rw [if_neg h2, if_neg (by omega)]] at own2
      have Own2 := Lib.hid own2
      clear own own2
      go_wp2
      go_roundw
      case rel => exact ⟨k + 1, by omega, by go_num, Own2.out, hb.setCell (by simp) _⟩
      case measure => simp [intOf]; omega
    · have hkn : n = k := by omega
      subst hkn
      have hge : ¬ ((n : Int) < (n : Int)) := by omega
      rw [List.map_congr_left (g := fun _ => (-1 : Int)) fun x hx => if_pos (List.mem_range.1 hx)] at own
      have c0 := own_intAt own (k := a) (x := -1) (by rw [List.getElem?_map, List.getElem?_range ha]; simp)
      have f0 := own.frozenAt a
      have own2 := own_setInt own a 0
      rw [range_set] at own2
      have Own2 := Lib.hid own2
      have hb2 : Below w.heap.size w (wr.setCell ⟨w.heap.size, a, none⟩ (.int .i64 0)) := hb.setCell (by simp) _
      have Hb2 := Lib.hid hb2
      clear own own2 hb2 hb
      go_wp2
      have sz : (wr.setCell ⟨w.heap.size, a, none⟩ (.int .i64 0)).heap.size = wr.heap.size := by simp
      have gW : w.heap.size < wr.heap.size := by have h := (own_lt Own2.out).2; simpa using h
      obtain ⟨N0, hN0⟩ : ∃ N, wr.heap.size = N := ⟨_, rfl⟩
      rw [hN0] at sz gW
      go_loopw [7, 8] (fun q kv w2 => ∃ (Q : List Nat) (o : Nat → Int) (i : Nat), kv = .int .i64 i ∧ i ≤ Q.length ∧ Bfs n t a Q o i ∧ w2.ownsRow N0 3 1 q Q.length (qcells Q) ∧ w2.ownsRow w.heap.size 3 1 (.slice (some ⟨w.heap.size, 0, none⟩) n n) n (icells ((List.range n).map o)) ∧ N0 ≤ w2.heap.size ∧ Below w.heap.size w w2) (fun _ kv _ => n - (intOf kv).toNat)
      case atStart =>
        have own3 := own_built1 (wr.setCell ⟨w.heap.size, a, none⟩ (.int .i64 0)) a
        rw [sz] at own3
        exact ⟨[a], updI (fun _ => -1) a 0, 0, rfl, by simp, Bfs.begin ha, by rw [hN0]; exact own3, Own2.out.alloc _, by simp; omega, Hb2.out.alloc Hb2.out.size _⟩
      case round =>
        obtain ⟨Q, o, i, rfl, hiQ, hbfs, hq, hout, hsz, hb⟩ := hrel
        have hfew := hbfs.few
        have Hbfs := Lib.hid hbfs
        clear hbfs
        by_cases hlt2 : i < Q.length
        · obtain ⟨u, hu⟩ := getSome Q i hlt2
          have hun := Hbfs.out.inn u (List.mem_of_getElem? hu)
          obtain ⟨Aq, cq, rfl, _⟩ := own_shape hq
          obtain ⟨gq, rfl⟩ := own_form hq (by omega)
          have hcu : ∀ v : World, v.ownsRow N0 3 1 (.slice (some ⟨gq, 0, none⟩) Q.length cq) Q.length (qcells Q) → v.cell? ⟨gq, i, none⟩ = some (.int .i64 u) := fun v h => own_intAt h (by rw [List.getElem?_map, hu]; rfl)
          have cu := hcu _ hq
          have call := paFriends_any n u t A c G B wr hn hun (Tab.out.below hb (Nat.le_refl _))
          obtain ⟨fs, hfs⟩ : ∃ fs, friendR n (t u) = fs := ⟨_, rfl⟩
          have hfat : ∀ (j : Nat) (x : Int), fs[j]? = some x → ∃ y : Nat, x = y ∧ y < n ∧ t u y = true := fun j x h => by rw [← hfs] at h; exact friendR_at h
          have hfall : ∀ b, b < n → t u b = true → ∃ j : Nat, fs[j]? = some (b : Int) := fun b hb1 hb2 => by rw [← hfs]; exact friendR_all hb1 hb2
          have hflen : fs.length ≤ 12 := by rw [← hfs]; exact Nat.le_trans (friendR_le n _) hn
          rw [hfs] at call
          have Call := Lib.hid call
          have Hu := Lib.hid hu
          have Hfat := Lib.hid hfat
          have Hfall := Lib.hid hfall
          have hii : (i : Int) < (Q.length : Int) := by omega
          have hq0 := hq
          have hout0 := hout
          have Hq := Lib.hid hq
          have Hout := Lib.hid hout
          clear hcu call hu hfat hfall hfs hq hout hq0 hout0
          go_wp2_with fail
          refine Call.out.mono ?_
          rintro e w3 ⟨A3, c3, rfl, own3, hb3⟩
          have s3 := hb3.size
          have Own3 := Lib.hid own3
          clear own3 cu Call
          go_wp2
          have k3 := hb.trans (hb3.mono hb.size)
          have q3 := own_below Hq.out hb3 (Nat.le_refl _)
          have o3 := own_below Hout.out hb3 (Nat.le_refl _)
          obtain ⟨S2, hS2⟩ : ∃ N, wr.heap.size = N := ⟨_, rfl⟩
          rw [hS2] at hsz s3
          have Own3' := Lib.hid (show w3.ownsRow S2 3 1 (.slice A3 fs.length c3) fs.length (icells fs) from hS2 ▸ Own3.out)
          have hqS : gq < S2 := by have := (own_lt Hq.out).2; omega
          clear Own3 hb3 hb Hq Hout
          go_loopw [7, 41] (fun q jv wi => ∃ (Q' : List Nat) (o' : Nat → Int) (j : Nat), jv = .int .i64 j ∧ j ≤ fs.length ∧ Bfs n t a Q' o' i ∧ Q'[i]? = some u ∧ (∀ (j' : Nat) (y : Nat), j' < j → fs[j']? = some (y : Int) → y ∈ Q') ∧
            wi.ownsRow N0 3 1 q Q'.length (qcells Q') ∧ wi.ownsRow w.heap.size 3 1 (.slice (some ⟨w.heap.size, 0, none⟩) n n) n (icells ((List.range n).map o')) ∧
            wi.ownsRow S2 3 1 (.slice A3 fs.length c3) fs.length (icells fs) ∧ (∀ bq, q.ownBlock = some bq → bq < S2 ∨ w3.heap.size ≤ bq) ∧ w3.heap.size ≤ wi.heap.size ∧ Below w.heap.size w wi) (fun _ jv _ => fs.length - (intOf jv).toNat)
          case atStart => exact ⟨Q, o, 0, rfl, Nat.zero_le _, Hbfs.out, Hu.out, fun j' y hj => by omega, q3, o3, Own3'.out, fun bq hbq => by simp [Value.ownBlock] at hbq; omega, Nat.le_refl _, k3⟩
          case round =>
            obtain ⟨Q', o', j, rfl, hj, hbf, hu', hdone, hq, hout, hfs, hap, hsz3, hb⟩ := hrel
            have hfew' := hbf.few
            have Hbf := Lib.hid hbf
            have Hu' := Lib.hid hu'
            have Hdone := Lib.hid hdone
            have Hap := Lib.hid hap
            clear hbf hu' hdone hap
            have hiQ' : i < Q'.length := (List.getElem?_eq_some_iff.1 Hu'.out).1
            by_cases hlt3 : j < fs.length
            · obtain ⟨x, hx⟩ := getSome fs j hlt3
              obtain ⟨y, rfl, hyn, hty⟩ := Hfat.out j x hx
              obtain ⟨bb, off, rfl, hbb, c0⟩ := (CRead.of_own hfs).int hx
              have cy := own_intAt hout (k := y) (x := o' y) (by rw [List.getElem?_map, List.getElem?_range hyn]; rfl)
              have fy := hout.frozenAt y
              have hji : (j : Int) < (fs.length : Int) := by omega
              have hyi : (y : Int) < (n : Int) := by omega
              have Hx := Lib.hid hx
              by_cases hneg : o' y < 0
              · obtain ⟨Aq', cq', hqe, _⟩ := own_shape hq
                have hqf := hq
                rw [hqe] at hqf
                obtain ⟨gq', rfl⟩ := own_form hqf (by omega)
                have hidx : ∀ v : World, (Instr.indexAt 26 u7 (.int .i64 i)).run Tryd.prog v = .ok (.pointer (some ⟨gq', i, none⟩)) v := fun v => by rw [hqe]; exact index_row hiQ' v
                have cu := own_intAt hqf (k := i) (x := (u : Int)) (by rw [List.getElem?_map, Hu'.out]; rfl)
                have hun : u < n := Hbf.out.inn u (List.mem_of_getElem? Hu'.out)
                have co := own_intAt hout (k := u) (x := o' u) (by rw [List.getElem?_map, List.getElem?_range hun]; rfl)
                have hk1 := Hbf.out.known u (List.mem_of_getElem? Hu'.out)
                have hk2 := Hbf.out.small u (List.mem_of_getElem? Hu'.out)
                have hpush := Hbf.out.push Hu'.out hyn hty hneg
                have hout2 := own_setInt hout y (o' u + 1)
                rw [range_set] at hout2
                have hq2 := ownsRow_setCell_below hq (a := ⟨w.heap.size, y, none⟩) gW (.int .i64 (o' u + 1))
                have hfs2 := ownsRow_setCell_below hfs (a := ⟨w.heap.size, y, none⟩) (by show w.heap.size < S2; omega) (.int .i64 (o' u + 1))
                have hb2 : Below w.heap.size w (wr.setCell ⟨w.heap.size, y, none⟩ (.int .i64 (o' u + 1))) := hb.setCell (by simp) _
                have Hpush := Lib.hid hpush
                have Hout2 := Lib.hid hout2
                have Hq2 := Lib.hid hq2
                have Hfs2 := Lib.hid hfs2
                have Hb2' := Lib.hid hb2
                obtain ⟨ou, hou⟩ : ∃ z, o' u = z := ⟨_, rfl⟩
                obtain ⟨oy, hoy⟩ : ∃ z, o' y = z := ⟨_, rfl⟩
                rw [hou] at co hk1 hk2 Hpush Hout2 Hq2 Hfs2 Hb2'
                rw [hoy] at cy hneg
                have hui : (u : Int) < (n : Int) := by omega
                have hiQi : (i : Int) < (Q'.length : Int) := by omega
                have hsq : N0 ≤ wr.heap.size := by omega
                clear hx hpush hout2 hq2 hfs2 hb2 hou hoy hout hq hqf hqe hfs hb
                have hbox : ((wr.setCell ⟨w.heap.size, y, none⟩ (.int .i64 (ou + 1))).alloc (Obj.cells #[.int .i64 y] 3)).cell? ⟨wr.heap.size, 0, none⟩ = some (.int .i64 y) := by
                  have h := heap_alloc_new (wr.setCell ⟨w.heap.size, y, none⟩ (.int .i64 (ou + 1))) (Obj.cells #[.int .i64 y] 3)
                  rw [show (wr.setCell ⟨w.heap.size, y, none⟩ (.int .i64 (ou + 1))).heap.size = wr.heap.size by simp] at h
                  rw [cell_of_row _ _ _ _ _ _ h]
                  rfl
                have Hbox := Lib.hid hbox
                clear hbox
                go_wp2_with (at_builtin; refine Go.wpList_append_own_at _ rfl _ _ 26 rfl N0 3 i0 _ 1 8 Tryd.underlying26 hi hz0 hz1 hz2 rfl (by decide) _ _ _ rfl (Hq2.out.alloc _) ⟨wr.heap.size, 0, none⟩ 1 1 [.int .i64 y] rfl rfl (one_cell Hbox.out) (one_one rfl) (by unfold maxLen; omega) (by omega) (by simp; omega) ?_; intro v1 w4 hown4 hg4 _ hloc; obtain ⟨A1, d1', rfl, _⟩ := own_shape hown4)
                go_roundw
                case rel =>
                  refine ⟨Q' ++ [y], updI o' y (ou + 1), j + 1, by go_num, by omega, Hpush.out, ?_, ?_, ?_, ?_, ?_, ?_, ?_, ?_⟩
                  · rw [List.getElem?_append_left hiQ']; exact Hu'.out
                  · intro j' z hj' hz
                    by_cases hjj : j' = j
                    · subst hjj
                      rw [Hx.out] at hz
                      have hzy := Option.some.inj hz
                      exact List.mem_append_right _ (by simp; omega)
                    · exact List.mem_append_left _ (Hdone.out j' z (by omega) hz)
                  · rw [List.length_append, List.length_singleton]
                    unfold qcells
                    rw [List.map_append, List.map_singleton, icells_append]
                    exact hown4
                  · refine (Hout2.out.alloc _).kept hg4 (.inr fun e => ?_)
                    have := (Hq2.out.lt w.heap.size e.symm).1
                    omega
                  · refine (Hfs2.out.alloc _).kept hg4 (.inr fun e => ?_)
                    have h1 := Hap.out bb e.symm
                    have h2 := Own3'.out.lt bb rfl
                    omega
                  · intro bq hbq
                    rcases hloc with h | h
                    · rw [h] at hbq; exact Hap.out bq hbq
                    · rw [h] at hbq
                      simp at hbq
                      omega
                  · have h := hg4.size
                    simp at h
                    omega
                  · exact (Hb2'.out.alloc (by simp; omega) _).grown hg4 (by simp; omega) fun b hb => by have := (Hq2.out.lt b hb).1; omega
                case measure => simp [intOf]; omega
              · have hyQ : y ∈ Q' := by
                  by_cases h : y ∈ Q'
                  · exact h
                  · have := Hbf.out.out y h; omega
                have HyQ := Lib.hid hyQ
                obtain ⟨oy, hoy⟩ : ∃ z, o' y = z := ⟨_, rfl⟩
                rw [hoy] at cy hneg
                have Hout2 := Lib.hid hout
                clear hx hyQ hoy hout
                go_wp2
                go_roundw
                case rel =>
                  refine ⟨Q', o', j + 1, by go_num, by omega, Hbf.out, Hu'.out, ?_, hq, Hout2.out, hfs, Hap.out, hsz3, hb⟩
                  intro j' z hj' hz
                  by_cases hjj : j' = j
                  · subst hjj
                    rw [Hx.out] at hz
                    have hzy := Option.some.inj hz
                    rw [show z = y by omega]
                    exact HyQ.out
                  · exact Hdone.out j' z (by omega) hz
                case measure => simp [intOf]; omega
            · have hge : ¬ ((j : Int) < (fs.length : Int)) := by omega
              have hnx := Hbf.out.next Hu'.out fun b hb1 hb2 => by
                obtain ⟨j', hj'⟩ := Hfall.out b hb1 hb2
                exact Hdone.out j' b (by have := (List.getElem?_eq_some_iff.1 hj').1; omega) hj'
              have Hnx := Lib.hid hnx
              clear hnx
              have Hb := Lib.hid hb
              clear hb
              go_wp2
              go_roundw
              case rel => exact ⟨Q', o', i + 1, by go_num, by omega, Hnx.out, hq, hout, by omega, Hb.out⟩
              case measure => simp [intOf]; omega
        · obtain ⟨Aq, cq, rfl, _⟩ := own_shape hq
          have hii : ¬ ((i : Int) < (Q.length : Int)) := by omega
          rw [List.map_congr_left (g := distO n t a) fun x _ => Hbfs.out.done (by omega) Ht.out x] at hout
          have Hout := Lib.hid hout
          clear hout hq
          go_wp2
          go_ret
          exact ⟨w.heap.size, rfl, Hout.out, hb⟩
end Go.Proofs.YtmiecebdkadhbaaDoor
/-
  'ShortestRound': the model's, by its contract.
-/
namespace Go.Proofs.YtmiecebdkadhbaaDoor
open Go.RowKit

theorem stepR_yes2 {m d : Int} (h : 0 < d) (h2 : m = 0 ∨ d + 1 < m) : stepR m d = d + 1 := if_pos ⟨h, h2⟩
theorem stepR_no2 {m d : Int} (h : ¬ (0 < d ∧ (m = 0 ∨ d + 1 < m))) : stepR m d = m := if_neg h
/-- one store into the table, in a statement that draws its order -/
theorem cutStep {W w0 : World} {B k n gp B' a : Nat} {v u0 u1 : Value} {G : Nat → Nat} {t : Nat → Nat → Bool} (tab : TabG W B v k n G t) (ha : a < k) (b : Nat) (x : Bool) (m0 : W.cell? ⟨gp, 0, none⟩ = some u0) (m1 : W.cell? ⟨gp, 1, none⟩ = some u1) (hne : gp ≠ G a) (hb : Below B' w0 W) (hB : B' ≤ G a) :
    TabG (W.setCell ⟨G a, b, none⟩ (.bool x)).drew B v k n G (upd t a b x) ∧ (W.setCell ⟨G a, b, none⟩ (.bool x)).drew.cell? ⟨gp, 0, none⟩ = some u0 ∧ (W.setCell ⟨G a, b, none⟩ (.bool x)).drew.cell? ⟨gp, 1, none⟩ = some u1 ∧ Below B' w0 (W.setCell ⟨G a, b, none⟩ (.bool x)).drew ∧ (W.setCell ⟨G a, b, none⟩ (.bool x)).drew.heap.size = W.heap.size := by
  refine ⟨(tab.set ha (b := b) x).below (B' := (W.setCell ⟨G a, b, none⟩ (.bool x)).heap.size) (Below.refl _ _).drew (Nat.le_refl _), ?_, ?_, (hb.setCell (p := ⟨G a, b, none⟩) hB _).drew, by show (W.setCell ⟨G a, b, none⟩ (.bool x)).heap.size = _; simp⟩
  · show (W.setCell ⟨G a, b, none⟩ (.bool x)).cell? ⟨gp, 0, none⟩ = some u0
    rw [World.cell?_setCell_other _ _ _ _ (fun e => hne (by injection e with e1; exact e1.symm))]; exact m0
  · show (W.setCell ⟨G a, b, none⟩ (.bool x)).cell? ⟨gp, 1, none⟩ = some u1
    rw [World.cell?_setCell_other _ _ _ _ (fun e => hne (by injection e with e1; exact e1.symm))]; exact m1
set_option maxHeartbeats 1000000 in
set_option maxRecDepth 100000 in
theorem specShortestRound_any (p : Int) (l : PL) (A : Option Addr) (c : Nat) (w : World) (hl : l.length ≤ 1048576) (hA : CRead w w.heap.size A (pcells l)) :
    Calls Tryd.prog 36 #[.agg #[.int .i64 p, .slice A l.length c]] w fun e w' => e = .returned (.tuple #[.int .i64 (resShortestRound p l).1, .bool (resShortestRound p l).2]) ∧ Below w.heap.size w w' := by
  have hr : CRead (w.alloc (Obj.cells #[.int .i64 p, .slice A l.length c] 31)) (w.alloc (Obj.cells #[.int .i64 p, .slice A l.length c] 31)).heap.size A (pcells l) := (hA.below (B' := w.heap.size) (by go_grown) (Nat.le_refl _)).more (by go_size)
  obtain ⟨⟨rv, rok⟩, hres⟩ : ∃ x, resShortestRound p l = x := ⟨_, rfl⟩
  rw [hres]
  cases hp : isP p l with
  | false =>
    have e : (rv, rok) = (0, false) := by rw [← hres]; unfold resShortestRound; rw [hp]; rfl
    simp only [Prod.mk.injEq] at e
    obtain ⟨rfl, rfl⟩ := e
    have Hp := Lib.hid hp
    clear hp hres
    go_enter Tryd.func36, Tryd.ntmps36
    go_wp2_with fail
    refine (paGood_any _ _ _ _ _ hl hr).mono ?_
    rw [Hp.out]
    rintro e w2 ⟨rfl, hb2⟩
    simp only [World.size_alloc] at hb2
    go_wp2
    go_ret2
    exact ⟨rfl, Below.trans (b := _) (by go_grown) (hb2.mono (by omega))⟩
  | true =>
    obtain ⟨n, rfl⟩ : ∃ n : Nat, p = n := ⟨p.toNat, by have := isP_range hp; omega⟩
    have hn := isP_range hp
    have hn12 : n ≤ 12 := by omega
    have hlen : l.length ≤ 66 := by have h1 := isP_length hp; have h2 := people_sq hn.1 hn.2; omega
    have e : (rv, rok) = (foldR (farC n l) l, decide (0 < foldR (farC n l) l)) := by rw [← hres]; unfold resShortestRound; rw [hp]; rfl
    have hnx := fun k q (h : l[k]? = some q) => foldR_next (F := farC n l) h
    have hgood : ∀ q ∈ l, 0 ≤ q.1 ∧ q.1 < q.2 ∧ q.2 < n := (isP_list hp).2.2.1
    obtain ⟨F, hF⟩ : ∃ F, (fun k => foldR (farC n l) (l.take k)) = F := ⟨_, rfl⟩
    have hF2 : ∀ k, foldR (farC n l) (l.take k) = F k := fun k => by rw [← hF]
    have h00 : F 0 = 0 := by rw [← hF2]; rfl
    have hfin : foldR (farC n l) l = F l.length := by rw [← hF2, List.take_length]
    rw [hfin] at e
    simp only [hF2] at hnx
    have calt := fun X hX => paTable_any n l A c X hp hX
    simp only [Int.toNat_natCast] at calt
    have Calt := Lib.hid calt
    have Hnx := Lib.hid hnx
    have E := Lib.hid e
    have H00 := Lib.hid h00
    have Hgood := Lib.hid hgood
    have Hp := Lib.hid hp
    clear hp hres e hnx hgood h00 hfin hF hF2 calt
    go_enter Tryd.func36, Tryd.ntmps36
    go_wp2_with fail
    refine (paGood_any _ _ _ _ _ hl hr).mono ?_
    rw [Hp.out]
    rintro e w2 ⟨rfl, hb2⟩
    have s2 := hb2.size
    have k2 : Below w.heap.size w w2 := Below.trans (b := _) (by go_grown) (hb2.mono (by simp))
    have c0 : w2.cell? ⟨w.heap.size, 0, none⟩ = some (.int .i64 n) := carry hb2 (by simp) (by simp)
    have c1 : w2.cell? ⟨w.heap.size, 1, none⟩ = some (.slice A l.length c) := carry hb2 (by simp) (by simp)
    simp only [World.size_alloc] at s2
    go_wp2_with fail
    refine (Calt.out _ ((hA.below k2 (Nat.le_refl _)).more k2.size)).mono ?_
    rintro e w3 ⟨A3, c3, G, rfl, tab, hb3⟩
    have d0 : w3.cell? ⟨w.heap.size, 0, none⟩ = some (.int .i64 n) := carry hb3 c0 (by omega)
    have d1 : w3.cell? ⟨w.heap.size, 1, none⟩ = some (.slice A l.length c) := carry hb3 c1 (by omega)
    have K2 := Lib.hid k2
    have s3 := hb3.size
    obtain ⟨Bt, hBt⟩ : ∃ Bt, w2.heap.size = Bt := ⟨_, rfl⟩
    rw [hBt] at tab s2 s3
    have Tab := Lib.hid tab
    have HB3 := Lib.hid (show Below Bt w2 w3 from hBt ▸ hb3)
    have hBt2 : w2.heap.size ≤ Bt := by omega
    clear hb2 k2 tab hb3 c0 c1 hBt
    go_wp2
    go_loopw [4, 17] (fun m i wr => ∃ k : Nat, k ≤ l.length ∧ i = .int .i64 k ∧ m = .int .i64 (F k) ∧ (0 ≤ F k ∧ F k ≤ 13) ∧ w3.heap.size ≤ wr.heap.size ∧ TabG wr Bt (.slice A3 n c3) n n G (adj l) ∧ Below Bt w3 wr) (fun _ i _ => l.length - (intOf i).toNat)
    case atStart => exact ⟨0, Nat.zero_le _, rfl, by rw [H00.out], by rw [H00.out]; omega, Nat.le_refl _, Tab.out, Below.refl _ _⟩
    case round =>
      obtain ⟨k, hk, rfl, rfl, hFk, hsz, tab, hb⟩ := hrel
      have z0 := carry hb d0 (by omega)
      have z1 := carry hb d1 (by omega)
      have kX : Below w.heap.size w wr := K2.out.trans ((HB3.out.trans hb).mono (by omega))
      by_cases hlt : k < l.length
      · obtain ⟨⟨x', y'⟩, hx⟩ := getSome l k hlt
        have hq := Hgood.out _ (List.mem_of_getElem? hx)
        simp only at hq
        obtain ⟨x, rfl⟩ : ∃ x : Nat, x' = x := ⟨x'.toNat, by omega⟩
        obtain ⟨y, rfl⟩ : ∃ x : Nat, y' = x := ⟨y'.toNat, by omega⟩
        obtain ⟨bb, off, rfl, hbb, u0, u1⟩ := (hA.below kX (Nat.le_refl _)).pair hx
        have hki : (k : Int) < (l.length : Int) := by omega
        have hnext := Hnx.out k _ hx
        have hadj : adj l x y = true := by rw [adj_pair Hp.out (show x < y by omega)]; exact List.contains_iff_mem.2 (List.mem_of_getElem? hx)
        have hlt2 := cutT_lt Hp.out x y
        have hsm := dist_small (n := n) (a := x) (x := y) (show x < n by omega) hlt2
        have hps := dist_pos (n := n) (a := x) (x := y) (t := cutT (adj l) x y) (by omega)
        have hge1 := distO_ge n (cutT (adj l) x y) x y
        have hback := cutT_back hadj
        have hfar : farC n l ((x : Int), (y : Int)) = distO n (cutT (adj l) x y) x y := rfl
        rw [hfar] at hnext
        obtain ⟨g, rfl⟩ := own_form tab.own (by omega)
        obtain ⟨Y, hY⟩ : ∃ Y, wr.alloc (Obj.cells #[.int .i64 x, .int .i64 y] 78) = Y := ⟨_, rfl⟩
        have m0 : Y.cell? ⟨wr.heap.size, 0, none⟩ = some (.int .i64 x) := by rw [← hY]; simp
        have m1 : Y.cell? ⟨wr.heap.size, 1, none⟩ = some (.int .i64 y) := by rw [← hY]; simp
        have tY : TabG Y Bt (.slice (some ⟨g, 0, none⟩) n c3) n n G (adj l) := by rw [← hY]; exact tab.alloc _
        have sY : wr.heap.size < Y.heap.size := by rw [← hY]; simp
        have kY : Below wr.heap.size wr Y := by rw [← hY]; go_grown
        have HY := Lib.hid hY
        have hxi : (x : Int) < (n : Int) := by omega
        have hyi : (y : Int) < (n : Int) := by omega
        have hx0 : (0 : Int) ≤ x := by omega
        have hy0 : (0 : Int) ≤ y := by omega
        have o0 := tY.outer (show x < n by omega)
        have o1 := tY.cell (show x < n by omega) (show y < n by omega)
        have o2 := tY.frozen (show x < n by omega) y
        have Hadj := Lib.hid hadj
        have TY := Lib.hid tY
        have kwY : Below Bt w3 Y := hb.trans (kY.mono (by omega))
        have bx := tY.blk (show x < n by omega)
        have by' := tY.blk (show y < n by omega)
        have gx : G x < wr.heap.size := (tab.blk (show x < n by omega)).2
        have gy : G y < wr.heap.size := (tab.blk (show y < n by omega)).2
        obtain ⟨t1, p0, p1, kw1, z1w⟩ := cutStep tY (show x < n by omega) y false m0 m1 (by omega) kwY bx.1
        obtain ⟨t2, q0, q1, kw2, z2w⟩ := cutStep t1 (show y < n by omega) x false p0 p1 (by omega) kw1 by'.1
        obtain ⟨W1, hW1⟩ : ∃ W1, (Y.setCell ⟨G x, y, none⟩ (.bool false)).drew = W1 := ⟨_, rfl⟩
        rw [hW1] at t1 p0 p1 t2 q0 q1 kw2 z2w z1w
        have r0 := t1.outer (show y < n by omega)
        have r1 := t1.cell (show y < n by omega) (show x < n by omega)
        have r2 := t1.frozen (show y < n by omega) x
        obtain ⟨W2, hW2⟩ : ∃ W2, (W1.setCell ⟨G y, x, none⟩ (.bool false)).drew = W2 := ⟨_, rfl⟩
        rw [hW2] at t2 q0 q1 kw2 z2w
        have t2' : TabG W2 Bt (.slice (some ⟨g, 0, none⟩) n c3) n n G (cutT (adj l) x y) := t2
        have HW1 := Lib.hid hW1
        have HW2 := Lib.hid hW2
        have call := cfDistances_any n x (cutT (adj l) x y) (some ⟨g, 0, none⟩) c3 G Bt W2.drew hn12 (show x < n by omega) hlt2 (t2'.below (B' := W2.heap.size) (Below.refl _ _).drew (Nat.le_refl _))
        have hdat : ((List.range n).map (distO n (cutT (adj l) x y) x))[y]? = some (distO n (cutT (adj l) x y) x y) := by rw [List.getElem?_map, List.getElem?_range (show y < n by omega)]; rfl
        obtain ⟨d, hd⟩ : ∃ d, distO n (cutT (adj l) x y) x y = d := ⟨_, rfl⟩
        rw [hd] at hdat hnext hsm hps hge1
        obtain ⟨DL, hDL⟩ : ∃ DL, (List.range n).map (distO n (cutT (adj l) x y) x) = DL := ⟨_, rfl⟩
        rw [hDL] at call hdat
        have Call := Lib.hid call
        have T2 := Lib.hid t2'
        have Hdat := Lib.hid hdat
        have KW2 := Lib.hid kw2
        have Hback := Lib.hid hback
        have Hstep := Lib.hid hnext
        clear tab t1 t2 t2' tY hx hq kw1 kw2 kwY call hdat hDL hd hW1 hW2 hback hnext hadj hfar hlt2 by' kY hb bx
        clear hY
        go_wp2_with fail
        rw [HY.out]
        go_region
        rw [HW1.out]
        clear m0 m1 o0 o1 o2
        go_wp2
        go_region
        rw [HW2.out]
        clear p0 p1 r0 r1 r2
        go_wp2
        go_region_law (first | (go_simp; go_at_call 67; refine Call.out.mono ?_; rintro e w5 ⟨gq, rfl, own5, hb5⟩; have g5 : Below W2.heap.size W2 w5 := (Below.refl _ _).drew.trans hb5; have e0 := carry g5 q0 (by show wr.heap.size < _; omega); have e1 := carry g5 q1 (by show wr.heap.size < _; omega); have e2 := own_intAt own5 Hdat.out; have s5 := g5.size) | fail)
        all_goals
          have t5 := T2.out.below g5 (Nat.le_refl _)
          have kw5 : Below Bt w3 w5 := KW2.out.trans (g5.mono (by omega))
          have by' := t5.blk (show y < n by omega)
          have bx := t5.blk (show x < n by omega)
          obtain ⟨t3, x0, x1, kw3, z3w⟩ := cutStep t5 (show x < n by omega) y true e0 e1 (by omega) kw5 bx.1
          obtain ⟨t4, _, _, kw4, z4w⟩ := cutStep t3 (show y < n by omega) x true x0 x1 (by omega) kw3 by'.1
          have v0 := t5.outer (show x < n by omega)
          have v1 := t5.cell (show x < n by omega) (show y < n by omega)
          have v2 := t5.frozen (show x < n by omega) y
          obtain ⟨W3, hW3⟩ : ∃ W3, (w5.setCell ⟨G x, y, none⟩ (.bool true)).drew = W3 := ⟨_, rfl⟩
          rw [hW3] at t3 x0 x1 kw3 z3w t4 kw4 z4w
          have y0 := t3.outer (show y < n by omega)
          have y1 := t3.cell (show y < n by omega) (show x < n by omega)
          have y2 := t3.frozen (show y < n by omega) x
          obtain ⟨W4, hW4⟩ : ∃ W4, (W3.setCell ⟨G y, x, none⟩ (.bool true)).drew = W4 := ⟨_, rfl⟩
          rw [hW4] at t4 kw4 z4w
          rw [Hback.out] at t4
          have T4 := Lib.hid t4
          have KW4 := Lib.hid kw4
          have HW3 := Lib.hid hW3
          have HW4 := Lib.hid hW4
          have hstep := Hstep.out
          have hszs : w3.heap.size ≤ W4.heap.size := by omega
          clear t5 kw5 by' bx t3 t4 kw3 kw4 hW3 hW4 own5 hb5 e2
          by_cases hneg : d < 0
          · have hn2 : F (k + 1) = F k := by rw [hstep]; exact stepR_no2 (by omega)
            have hd0 : ¬ (0 < d) := by omega
            clear hstep
            have Hn2 := Lib.hid hn2
            clear hn2
            go_wp2_with fail
            go_region
            rw [HW3.out]
            clear e0 e1 v0 v1 v2
            go_wp2
            go_region
            rw [HW4.out]
            clear x0 x1 y0 y1 y2
            go_wp2
            go_roundw
            case rel => exact ⟨k + 1, by omega, by go_num, by rw [Hn2.out], by rw [Hn2.out]; omega, by omega, T4.out, KW4.out⟩
            case measure => simp [intOf]; omega
          · have hd0 : 0 < d := by omega
            by_cases h0 : F k = 0
            · have hn2 : F (k + 1) = d + 1 := by rw [hstep]; exact stepR_yes2 (by omega) (.inl h0)
              have hb0 : (F k == 0) = true := by simp only [beq_iff_eq]; exact h0
              clear hstep h0
              have Hn2 := Lib.hid hn2
              clear hn2
              go_wp2_with fail
              go_region
              rw [HW3.out]
              clear e0 e1 v0 v1 v2
              go_wp2
              go_region
              rw [HW4.out]
              clear x0 x1 y0 y1 y2
              go_wp2
              go_roundw
              case rel => exact ⟨k + 1, by omega, by go_num, by rw [Hn2.out], by rw [Hn2.out]; omega, by omega, T4.out, KW4.out⟩
              case measure => simp [intOf]; omega
            · have hb0 : (F k == 0) = false := by simp only [beq_eq_false_iff_ne, ne_eq]; exact h0
              by_cases h1 : d + 1 < F k
              · have hn2 : F (k + 1) = d + 1 := by rw [hstep]; exact stepR_yes2 (by omega) (.inr h1)
                clear hstep h0
                have Hn2 := Lib.hid hn2
                clear hn2
                go_wp2_with fail
                go_region
                rw [HW3.out]
                clear e0 e1 v0 v1 v2
                go_wp2
                go_region
                rw [HW4.out]
                clear x0 x1 y0 y1 y2
                go_wp2
                go_roundw
                case rel => exact ⟨k + 1, by omega, by go_num, by rw [Hn2.out], by rw [Hn2.out]; omega, by omega, T4.out, KW4.out⟩
                case measure => simp [intOf]; omega
              · have hn2 : F (k + 1) = F k := by rw [hstep]; exact stepR_no2 (by omega)
                clear hstep h0
                have Hn2 := Lib.hid hn2
                clear hn2
                go_wp2_with fail
                go_region
                rw [HW3.out]
                clear e0 e1 v0 v1 v2
                go_wp2
                go_region
                rw [HW4.out]
                clear x0 x1 y0 y1 y2
                go_wp2
                go_roundw
                case rel => exact ⟨k + 1, by omega, by go_num, by rw [Hn2.out], by rw [Hn2.out]; omega, by omega, T4.out, KW4.out⟩
                case measure => simp [intOf]; omega
      · have hkl : k = l.length := by omega
        subst hkl
        have hge : ¬ ((l.length : Int) < (l.length : Int)) := by omega
        have e := E.out
        simp only [Prod.mk.injEq] at e
        obtain ⟨rfl, rfl⟩ := e
        clear tab
        go_wp2
        go_ret2
        exact ⟨rfl, kX⟩
end Go.Proofs.YtmiecebdkadhbaaDoor
/-
  'laws.FnExactShortestRound' returns true, whatever its arguments: out of the contracts of the model's function and of the program's.
-/
namespace Go.Proofs.YtmiecebdkadhbaaDoor
open Go.RowKit

set_option maxHeartbeats 4000000 in
set_option maxRecDepth 100000 in
theorem lawShortestRound_any (p0 : Int) (l0 : PL) (A0 : Option Addr) (c0 : Nat) (W : World) (hl0 : l0.length ≤ maxLen) (hA0 : CRead W W.heap.size A0 (pcells l0)) (htab : TabW W) :
    Calls Tryd.prog 11 #[.agg #[.int .i64 p0, .slice A0 l0.length c0]] W fun e w' => e = .returned (.bool true) ∧ Below W.heap.size W w' := by
  have hone : (0 : Int) ≤ 1 ∧ (1 : Int) ≤ 16777216 := by omega
  have HTab := Lib.hid htab
  clear htab
  by_cases hz0 : szI (1048576) l0.length < 0
  · go_enter Tryd.func11, Tryd.ntmps11
    go_wp2_with fail
    refine (szParty_any _ _ _ _ _ hl0 (by omega) (by omega) _).mono ?_
    rintro e w1 ⟨rfl, hb1⟩
    simp only [World.size_alloc] at hb1
    have g1 : Below W.heap.size W w1 := Below.trans (b := _) (by go_grown) (hb1.mono (by omega))
    have s1 := hb1.size
    simp only [World.size_alloc] at s1
    have f1_0 : w1.cell? ⟨W.heap.size, 0, none⟩ = some (.int .i64 p0) := carry hb1 (by simp) (by omega)
    have f1_1 : w1.cell? ⟨W.heap.size, 1, none⟩ = some (.slice A0 l0.length c0) := carry hb1 (by simp) (by omega)
    have k1 : Below W.heap.size W w1 := g1
    go_wp2
    go_ret
    exact ⟨rfl, k1⟩
  have hn0 : l0.length ≤ 1048576 := by have h1 := szI_len _ _ hz0; have h2 := szI_hi (1048576) l0.length (by omega); omega
  have hz0' : 0 ≤ szI (1048576) l0.length := by omega
  have hz0'' : szI (1048576) l0.length ≤ 1048576 := by have h2 := szI_hi (1048576) l0.length (by omega); omega
  obtain ⟨⟨rb, rok⟩, hres⟩ : ∃ r, resShortestRound p0 l0 = r := ⟨_, rfl⟩
  have Hres := Lib.hid hres
  clear hres
  go_enter Tryd.func11, Tryd.ntmps11
  go_wp2_with fail
  refine (szParty_any _ _ _ _ _ hl0 (by omega) (by omega) _).mono ?_
  rintro e w1 ⟨rfl, hb1⟩
  simp only [World.size_alloc] at hb1
  have g1 : Below W.heap.size W w1 := Below.trans (b := _) (by go_grown) (hb1.mono (by omega))
  have s1 := hb1.size
  simp only [World.size_alloc] at s1
  have f1_0 : w1.cell? ⟨W.heap.size, 0, none⟩ = some (.int .i64 p0) := carry hb1 (by simp) (by omega)
  have f1_1 : w1.cell? ⟨W.heap.size, 1, none⟩ = some (.slice A0 l0.length c0) := carry hb1 (by simp) (by omega)
  have k1 : Below W.heap.size W w1 := g1
  go_wp2_with fail
  refine (toParty_any p0 l0 A0 c0 _ hn0 ((hA0.below k1 (Nat.le_refl _)).more k1.size)).mono ?_
  rintro e w2 ⟨T2, d2, rfl, n2, hb2⟩
  have g2 : Below w1.heap.size w1 w2 := hb2
  have s2 := hb2.size
  have f2_0 := carry g2 f1_0 (by omega)
  have f2_1 := carry g2 f1_1 (by omega)
  have k2 := k1.trans (g2.mono k1.size)
  clear f1_0 f1_1
  have r2 : Lies (.slice T2 l0.length d2) (w1.heap.size) w2.heap.size := own_lies n2
  go_wp2_with fail
  refine (specShortestRound_any p0 l0 _ _ _ hn0 (CRead.of_own n2)).mono ?_
  rw [Hres.out]
  rintro e w3 ⟨rfl, hb3⟩
  have g3 : Below w2.heap.size w2 w3 := hb3
  have s3 := hb3.size
  have f3_0 := carry g3 f2_0 (by omega)
  have f3_1 := carry g3 f2_1 (by omega)
  have o3_0 := own_below n2 g3 (Nat.le_refl _)
  have k3 := k2.trans (g3.mono k2.size)
  clear f2_0 f2_1 n2
  clear o3_0 r2
  go_wp2_with fail
  refine (toParty_any p0 l0 A0 c0 _ hn0 ((hA0.below k3 (Nat.le_refl _)).more k3.size)).mono ?_
  rintro e w4 ⟨T4, d4, rfl, n4, hb4⟩
  have g4 : Below w3.heap.size w3 w4 := hb4
  have s4 := hb4.size
  have f4_0 := carry g4 f3_0 (by omega)
  have f4_1 := carry g4 f3_1 (by omega)
  have k4 := k3.trans (g4.mono k3.size)
  clear f3_0 f3_1
  have r4 : Lies (.slice T4 l0.length d4) (w3.heap.size) w4.heap.size := own_lies n4
  have q5_0 : (w4.alloc (Obj.cells #[.int .i64 p0, .slice T4 l0.length d4] 31)).cell? ⟨W.heap.size, 0, none⟩ = some (.int .i64 p0) := (World.cell?_alloc_lt _ _ _ (show W.heap.size < w4.heap.size by omega)).trans f4_0
  have q5_1 : (w4.alloc (Obj.cells #[.int .i64 p0, .slice T4 l0.length d4] 31)).cell? ⟨W.heap.size, 1, none⟩ = some (.slice A0 l0.length c0) := (World.cell?_alloc_lt _ _ _ (show W.heap.size < w4.heap.size by omega)).trans f4_1
  go_wp2_with fail
  refine (implShortestRound_any p0 l0 _ _ _ hn0 (((CRead.of_own n4).below (B' := w4.heap.size) (by go_grown) (Nat.le_refl _)).more (by go_size)) (by first | exact HTab.out.below (k4.alloc k4.size _) HTab.out.pos | exact HTab.out.below k4 HTab.out.pos)).mono ?_
  rw [Hres.out]
  rintro e w6 ⟨rfl, hb6⟩
  simp only [World.size_alloc] at hb6
  have g6 : Below w4.heap.size w4 w6 := Below.trans (b := _) (by go_grown) (hb6.mono (by omega))
  have s6 := hb6.size
  simp only [World.size_alloc] at s6
  have f6_0 := carry g6 f4_0 (by omega)
  have f6_1 := carry g6 f4_1 (by omega)
  have f6_2 : w6.cell? ⟨w4.heap.size, 0, none⟩ = some (.int .i64 p0) := carry hb6 (by simp) (by omega)
  have f6_3 : w6.cell? ⟨w4.heap.size, 1, none⟩ = some (.slice T4 l0.length d4) := carry hb6 (by simp) (by omega)
  have o6_0 := own_below n4 g6 (Nat.le_refl _)
  have k6 := k4.trans (g6.mono k4.size)
  clear f4_0 f4_1 n4 q5_0 q5_1
  go_wp2
  go_region_held3 (fun w' => w'.cell? ⟨W.heap.size, 0, none⟩ = some (.int .i64 p0) ∧ w'.cell? ⟨W.heap.size, 1, none⟩ = some (.slice A0 l0.length c0) ∧ w'.cell? ⟨w4.heap.size, 0, none⟩ = some (.int .i64 p0) ∧ w'.cell? ⟨w4.heap.size, 1, none⟩ = some (.slice T4 l0.length d4)) (first | exact ⟨f6_0, f6_1, f6_2, f6_3⟩ | exact ⟨f7_0, f7_1, f7_2, f7_3⟩ | exact ⟨f8_0, f8_1, f8_2, f8_3⟩) ((first | (go_at_call 15; refine (toParty_any p0 l0 A0 c0 _ hn0 ((hA0.below k6.drew (Nat.le_refl _)).more k6.size)).mono ?_; rintro e w7 ⟨T7, d7, rfl, n7, hb7⟩; have g7 : Below w6.heap.size w6 w7 := (Below.refl _ _).drew.trans hb7; have s7 := g7.size; have f7_0 := carry g7 f6_0 (by omega); have f7_1 := carry g7 f6_1 (by omega); have f7_2 := carry g7 f6_2 (by omega); have f7_3 := carry g7 f6_3 (by omega); have o7_0 := own_below o6_0 g7 (Nat.le_refl _); have k7 := k6.trans (g7.mono k6.size)) | (go_at_call 18; refine (eqParty_any p0 p0 l0 l0 _ _ _ _ _ hl0 hl0 (CRead.of_own o7_0) (CRead.of_own n7)).mono ?_; rw [decide_eq_true ⟨rfl, rfl⟩]; rintro e w8 ⟨rfl, hb8⟩; have g8 : Below w7.heap.size w7 w8 := hb8; have s8 := g8.size; have f8_0 := carry g8 f7_0 (by omega); have f8_1 := carry g8 f7_1 (by omega); have f8_2 := carry g8 f7_2 (by omega); have f8_3 := carry g8 f7_3 (by omega); have o8_0 := own_below o7_0 g8 (Nat.le_refl _); have k8 := k7.trans (g8.mono k7.size))))
  clear f6_0 f6_1 f6_2 f6_3 o6_0 f7_0 f7_1 f7_2 f7_3 o7_0 n7
  go_wp2
  go_ret
  exact ⟨rfl, k8⟩
end Go.Proofs.YtmiecebdkadhbaaDoor
/-
  FROM A LAW's WALK TO ITS STATEMENT: arguments opened (numbers, lists of numbers, parties), and what every law's post asks.
-/
namespace Go.Proofs.YtmiecebdkadhbaaDoor
open Go.ChangeShapes Go.WideShapes Go.ChangeAt Go.RowKit Go.Deep

theorem Tryd.own : ownKnob Tryd.prog.godebug = none := by kernel_rfl
theorem Tryd.laidOut : laidOutB Tryd.prog = true := by kernel_rfl
theorem Tryd.cellsPair : Tryd.prog.cellsOf 94 = 2 := by kernel_rfl
theorem Tryd.cellsParty : Tryd.prog.cellsOf 24 = 2 := by kernel_rfl
theorem Tryd.cellsInt : Tryd.prog.cellsOf 3 = 1 := by kernel_rfl

section
variable {H : Type} {enc : TypeId × Value → H} {P : Program}
theorem below_trodAll (hl : laidOutB P = true) : ∀ (ts : List TypeId), (ts.all fun t => P.readableRec t && decide (t < P.types.size)) = true → ∀ {vs : List Value} {ds : List (DataW H)} {ps : List MemPlace} {W W' : World},
    DataW.TrodAll enc P W 0 (fun _ => true) true ts vs ds ps → Below W.heap.size W W' → (∀ x ∈ ps, x.block < W.heap.size) → DataW.TrodAll enc P W' 0 (fun b => decide (b < W.heap.size)) true ts vs ds ps
  | [], _, vs, ds, ps, W, W', h, _, _ => by
    obtain ⟨rfl, rfl, rfl⟩ := trodAll_nil h
    exact trodAll_mk0
  | t :: ts, hr, vs, ds, ps, W, W', h, hb, hlt => by
    obtain ⟨v, vs', d, ds', p, q, rfl, rfl, rfl, h0, h1⟩ := trodAll_cons h
    simp only [List.all_cons, Bool.and_eq_true, decide_eq_true_eq] at hr
    refine trodAll_cons_mk (Below.trod hl hr.1.1 hr.1.2 h0 hb (fun x hx => hlt x (List.mem_append_left _ hx))) (below_trodAll hl ts (by simpa using hr.2) h1 hb (fun x hx => hlt x (List.mem_append_right _ hx)))

theorem law_post {f : Func} {s : ChangeSpec} {W W' : World} {args : Array Value} {ds gs : List (DataW H)} {before : List MemPlace} {tb : TypeId} (hl : laidOutB P = true)
    (hr : (f.params.toList.all fun t => P.readableRec t && decide (t < P.types.size)) = true) (hres : f.resultTypes = #[tb]) (htb : P.underlying tb = some .bool) (hsv : s.vars = [])
    (hspec : s.fn H (ds ++ gs) = { results := [.lit (.bool true)], args := ds })
    (hW : DataW.Whole enc P f.params.toList s.vars false W args.toList ds gs before) (hb : Below W.heap.size W W') : s.post enc P f false true false false W args (.bool true) W' := by
  have hW' := hW
  obtain ⟨p, q, hA, hV, rfl, _, _⟩ := hW
  rw [hsv] at hV
  obtain ⟨rfl, rfl⟩ := trodVars_none hV
  have hlt : ∀ x ∈ p, x.block < W.heap.size := fun x hx => by simpa using hW'.lt x (by simpa using hx)
  refine ⟨ds, _, _, [] ++ [], p, [], hW', ?_, ?_, ?_, hb.frame _, fun h => by cases h⟩
  · rw [hspec, hres]
    exact trodAll_mk1 (shut_bool htb _)
  · rw [hspec]
    exact below_trodAll hl _ hr hA hb hlt
  · rw [hspec, hsv]
    rfl
end

section
variable {H : Type} {enc : TypeId × Value → H} {W : World}
set_option maxRecDepth 100000 in
/-- A party that came in. -/
theorem open_party {v : Value} {d : DataW H} {p : List MemPlace} {r : Reach} {b0 : Nat} (hv : Value.okWide Tryd.prog W r b0 24 v) (h : DataW.Trod enc Tryd.prog W 0 (fun _ => true) true 24 v d p) :
    ∃ (x : Int) (l : PL) (A : Option Addr) (c : Nat), v = .agg #[.int .i64 x, .slice A l.length c] ∧ l.length ≤ maxLen ∧ CRead W W.heap.size A (pcells l) := by
  obtain ⟨v0, v1, y0, y1, n, rfl, _, _, h0, h1⟩ := Joins.open_agg2 Tryd.underlying24 (by kernel_rfl) Tryd.cellsParty hv h
  obtain ⟨x, hx, _, _⟩ := DataW.trod_int Tryd.underlying3 h0
  simp only [List.cons.injEq, and_true] at hx
  subst hx
  rcases open_slice_pairs Tryd.underlying22 Tryd.underlying94 Tryd.cellsPair rfl rfl (by kernel_rfl) (by kernel_rfl) h1 with ⟨hcs, _⟩ | ⟨a, len, cap, m, n', V0, V1, D0, D1, P0, P1, hcs, _, hlc, hcm, hm, _, hall⟩
  · simp only [List.cons.injEq, and_true] at hcs
    subst hcs
    exact ⟨x, [], none, 0, rfl, Nat.zero_le _, CRead.nil⟩
  · simp only [List.cons.injEq, and_true] at hcs
    subst hcs
    have hm' : m = cap := by simpa using hm
    subst hm'
    have each : ∀ i, i < len → ∃ a0 a1 : Int, W.cell? (a.add (i * 2)) = some (.int .i64 a0) ∧ W.cell? (a.add (i * 2 + 1)) = some (.int .i64 a1) := by
      intro i hi
      obtain ⟨c0, c1, t0, t1⟩ := hall i (by omega)
      obtain ⟨a0, e0, _, _⟩ := DataW.trod_int Tryd.underlying3 t0
      obtain ⟨a1, e1, _, _⟩ := DataW.trod_int Tryd.underlying3 t1
      simp only [List.cons.injEq, and_true] at e0 e1
      exact ⟨a0, a1, by rw [c0, e0], by rw [c1, e1]⟩
    let num : Option Value → Int := fun | some (.int _ z) => z | _ => 0
    let l : PL := (List.range len).map fun i => (num (W.cell? (a.add (i * 2))), num (W.cell? (a.add (i * 2 + 1))))
    have hll : l.length = len := by simp [l]
    refine ⟨x, l, some a, m, by rw [hll], by rw [hll]; omega, ?_⟩
    intro j u hu
    have hjl : j < (pcells l).length := (List.getElem?_eq_some_iff.1 hu).1
    rw [pcells_length, hll] at hjl
    have hi : j / 2 < len := by omega
    obtain ⟨a0, a1, c0, c1⟩ := each (j / 2) hi
    have hl : l[j / 2]? = some (a0, a1) := by simp [l, hi, c0, c1, num]
    obtain ⟨z0, _, cz, _⟩ := each 0 (by omega)
    have hspot : a.spot = none := by simpa [Addr.add] using World.cell?_spot cz
    obtain ⟨b, off, sp⟩ := a
    simp only at hspot
    subst hspot
    have hb : b < W.heap.size := by
      have := World.block_lt_of_cell? W _ cz
      simpa [Addr.add] using this
    refine ⟨b, off, rfl, hb, ?_⟩
    rw [add_plain] at c0 c1
    rcases Nat.mod_two_eq_zero_or_one j with h2 | h2
    · have e : j = j / 2 * 2 := by omega
      have e2 := pcells_fst hl
      rw [← e] at e2 c0
      rw [hu] at e2
      rw [c0, e2]
    · have e : j = j / 2 * 2 + 1 := by omega
      have e2 := pcells_snd hl
      rw [← e] at e2 c1
      rw [hu] at e2
      rw [c1, e2]
end
end Go.Proofs.YtmiecebdkadhbaaDoor
/-
  THE PROGRAM's HEAD, LOOKED AT ONCE: which make it is, and that a call may enter it. (The head's text is long: the kernel must not read it twice.)
-/
namespace Go.Proofs.YtmiecebdkadhbaaDoor

theorem make_of {P : Program} {rest : List (List Char)} (h : behindMainWord (wordsSigns P.initOrder.toList) = "cut".toList :: rest) : P.make = some .cut := by
  unfold Program.make
  rw [h]
  rfl
theorem strip_cut (rest : List (List Char)) : stripLifts liftWords ("cut".toList :: rest) = ([], "cut".toList :: rest) := rfl
theorem lifts_of {P : Program} {rest : List (List Char)} (h : behindMainWord (wordsSigns P.initOrder.toList) = "cut".toList :: rest) : P.headLifts = [] := by
  unfold Program.headLifts
  rw [h, strip_cut]
  rfl
theorem final_of {P : Program} {rest : List (List Char)} (h : behindMainWord (wordsSigns P.initOrder.toList) = "cut".toList :: rest) : P.liftsFinal = false := by
  unfold Program.liftsFinal
  rw [lifts_of h, h]
  rfl
theorem enter_of {P : Program} {rest : List (List Char)} (h : behindMainWord (wordsSigns P.initOrder.toList) = "cut".toList :: rest) (h1 : P.laysLater = false) (h2 : P.bearsReflect = false) (h3 : P.doorFits [] = true) : P.mayEnter = true := by
  unfold Program.mayEnter
  rw [h]
  show (_ || _ || _) = true
  rw [strip_cut, h1, h2, h3]
  rfl
end Go.Proofs.YtmiecebdkadhbaaDoor
/-
  THE PROGRAM's CLOSED FACTS, EACH ONCE; and how a row's facts are put together out of them.
-/
namespace Go.Proofs.YtmiecebdkadhbaaDoor
open Go.ChangeShapes Go.WideShapes Go.ChangeAt Go.RowKit

def headSigns : List Char := ([104, 97, 114, 110, 101, 115, 115, 32, 97, 102, 102, 55, 53, 99, 52, 51, 52, 57, 98, 101, 99, 99, 100, 101, 49, 49, 101, 97, 100, 51, 102, 54, 48, 50, 50, 55, 49, 99, 50, 49, 98, 98, 99, 99, 53, 102, 50, 53, 54, 48, 53, 56, 101, 57, 52, 97, 99, 99, 99, 48, 98, 54, 100, 55, 52, 98, 55, 98, 56, 55, 97, 52, 32, 99, 117, 116, 32, 97, 116, 32, 108, 111, 111, 112, 46, 101, 120, 97, 109, 112, 108, 101, 47, 103, 48, 49, 50, 53, 55, 47, 108, 97, 119, 115, 46, 70, 110, 69, 120, 97, 99, 116, 70, 105, 114, 115, 116, 83, 101, 97, 116, 105, 110, 103, 32, 108, 111, 111, 112, 46, 101, 120, 97, 109, 112, 108, 101, 47, 103, 48, 49, 50, 53, 55, 47, 108, 97, 119, 115, 46, 70, 110, 69, 120, 97, 99, 116, 67, 111, 117, 110, 116, 83, 101, 97, 116, 105, 110, 103, 115, 32, 108, 111, 111, 112, 46, 101, 120, 97, 109, 112, 108, 101, 47, 103, 48, 49, 50, 53, 55, 47, 108, 97, 119, 115, 46, 70, 110, 69, 120, 97, 99, 116, 70, 105, 114, 115, 116, 82, 111, 119, 32, 108, 111, 111, 112, 46, 101, 120, 97, 109, 112, 108, 101, 47, 103, 48, 49, 50, 53, 55, 47, 108, 97, 119, 115, 46, 70, 110, 69, 120, 97, 99, 116, 67, 111, 117, 110, 116, 82, 111, 119, 115, 32, 108, 111, 111, 112, 46, 101, 120, 97, 109, 112, 108, 101, 47, 103, 48, 49, 50, 53, 55, 47, 108, 97, 119, 115, 46, 70, 110, 69, 120, 97, 99, 116, 84, 119, 111, 84, 97, 98, 108, 101, 115, 32, 108, 111, 111, 112, 46, 101, 120, 97, 109, 112, 108, 101, 47, 103, 48, 49, 50, 53, 55, 47, 108, 97, 119, 115, 46, 70, 110, 69, 120, 97, 99, 116, 84, 97, 98, 108, 101, 115, 65, 112, 97, 114, 116, 32, 108, 111, 111, 112, 46, 101, 120, 97, 109, 112, 108, 101, 47, 103, 48, 49, 50, 53, 55, 47, 108, 97, 119, 115, 46, 70, 110, 69, 120, 97, 99, 116, 67, 111, 117, 110, 116, 87, 97, 108, 107, 115, 32, 108, 111, 111, 112, 46, 101, 120, 97, 109, 112, 108, 101, 47, 103, 48, 49, 50, 53, 55, 47, 108, 97, 119, 115, 46, 70, 110, 69, 120, 97, 99, 116, 67, 111, 117, 110, 116, 82, 111, 117, 110, 100, 87, 97, 108, 107, 115, 32, 108, 111, 111, 112, 46, 101, 120, 97, 109, 112, 108, 101, 47, 103, 48, 49, 50, 53, 55, 47, 108, 97, 119, 115, 46, 70, 110, 69, 120, 97, 99, 116, 83, 104, 111, 114, 116, 101, 115, 116, 82, 111, 117, 110, 100, 32, 108, 111, 111, 112, 46, 101, 120, 97, 109, 112, 108, 101, 47, 103, 48, 49, 50, 53, 55, 47, 108, 97, 119, 115, 46, 70, 110, 69, 120, 97, 99, 116, 80, 97, 114, 116, 121, 84, 101, 120, 116] : List Nat).map Char.ofNat
set_option maxRecDepth 100000 in
theorem Tryd.initOrder_is : Tryd.prog.initOrder = String.ofList headSigns := by kernel_rfl
theorem Tryd.initOrder_signs : Tryd.prog.initOrder.toList = headSigns := by rw [Tryd.initOrder_is]; exact String.toList_ofList
set_option maxRecDepth 100000 in
theorem head_words : (behindMainWord (wordsSigns headSigns)).take 1 = ["cut".toList] := by kernel_rfl
theorem Tryd.words : ∃ rest, behindMainWord (wordsSigns Tryd.prog.initOrder.toList) = "cut".toList :: rest := by
  rw [Tryd.initOrder_signs]
  have h := List.take_append_drop 1 (behindMainWord (wordsSigns headSigns))
  rw [head_words] at h
  exact ⟨_, h.symm⟩
theorem Tryd.make : Tryd.prog.make = some .cut := by obtain ⟨_, h⟩ := Tryd.words; exact make_of h
theorem Tryd.liftsFinal : Tryd.prog.liftsFinal = false := by obtain ⟨_, h⟩ := Tryd.words; exact final_of h
theorem Tryd.laysLater : Tryd.prog.laysLater = false := by kernel_rfl
theorem Tryd.bearsReflect : Tryd.prog.bearsReflect = false := by kernel_rfl
theorem Tryd.doorFits : Tryd.prog.doorFits [] = true := by kernel_rfl
theorem Tryd.mayEnter : Tryd.prog.mayEnter = true := by obtain ⟨_, h⟩ := Tryd.words; exact enter_of h Tryd.laysLater Tryd.bearsReflect Tryd.doorFits
theorem Tryd.mapsRowed : mapsRowed Tryd.prog = true := by kernel_rfl
theorem Tryd.stops : (Tryd.prog.stops == []) = true := by kernel_rfl
theorem Tryd.stopKnobs : (Tryd.prog.stopKnobs == []) = true := by kernel_rfl
theorem Tryd.plainKeys : Tryd.prog.plainKeys = false := by kernel_rfl
theorem Tryd.stopsHeard : Tryd.prog.stopsHeard = true := by kernel_rfl

/-- What the types of one law give: closed facts on its parameters and its result. -/
def typeFacts (P : Program) (fn : Func) (s : ChangeSpec) (c : OpenClaim) : Bool :=
  fn.params.all (P.readableRec ·) && namedTie P c.named s.vars && (c.stops == []) && (c.knobs == []) &&
  (c.maps == (fn.params.toList ++ s.plain.varTypes P).any (P.mapsRec ·)) && (c.ifaces == (fn.params.toList ++ s.plain.varTypes P).any (P.ifacesRec ·)) && (c.mapsOut == P.mapsAmong fn.resultTypes.toList) &&
  (c.loops == (fn.params.toList ++ s.plain.varTypes P).any (P.loopsFrom ·)) && (c.wideKeys == (fn.params.toList ++ s.plain.varTypes P ++ fn.resultTypes.toList).any (P.wideKeysFrom ·)) &&
  s.vars.all (P.varReadable ·) && fn.resultTypes.all (fun t => P.readableRec t && decide (t < P.types.size)) && (c.ifacesOut == fn.resultTypes.toList.any (P.ifacesRec ·)) && (c.loopsOut == fn.resultTypes.toList.any (P.loopsFrom ·)) && c.shortTexts.isNone &&
  (c.kinds == (if c.domain.isEmpty then [] else fn.params.toList.map fun t => match P.underlying t with | some (.int k) => some k | _ => none)) && (c.pinned == c.pinnedBy) &&
  (c.veiled == (fn.params.toList ++ s.plain.varTypes P ++ fn.resultTypes.toList).any (P.veiledRec ·)) && c.veiledFits P fn.params.toList (fn.params.toList ++ s.plain.varTypes P ++ fn.resultTypes.toList)
theorem joined_all {P : Program} {f : FuncId} {fn : Func} {s : ChangeSpec} {c : OpenClaim} (k1 : c.wf (OpenSpec.ofChange s) = true) (kt : typeFacts P fn s c = true)
    (k10 : (c.inPlace == P.inPlace f) = true) (k11 : (c.unfollowed == P.unfollowed f) = true) (k12 : (c.recurses == P.recurses f) = true) (k13 : (c.named == P.varsNamed f) = true)
    (e2 : laidOutB P = true) (e3 : mapsRowed P = true) (e7 : (P.stops == []) = true) (e9 : (P.stopKnobs == []) = true) (e22 : (c.plainKeys == P.plainKeys) = true) (e23 : P.stopsHeard = true) (e24 : P.mayEnter = true)
    (e24b : (c.lifted == P.liftsFinal) = true) (e24c : (P.make == some c.make) = true) : joinedFacts P f fn s c = true := by
  unfold typeFacts at kt
  unfold joinedFacts
  simp only [Bool.and_eq_true] at kt ⊢
  obtain ⟨⟨⟨⟨⟨⟨⟨⟨⟨⟨⟨⟨⟨⟨⟨⟨⟨t1, t2⟩, t3⟩, t4⟩, t5⟩, t6⟩, t7⟩, t8⟩, t9⟩, t10⟩, t11⟩, t12⟩, t13⟩, t14⟩, t15⟩, t16⟩, t17⟩, t18⟩ := kt
  exact ⟨⟨⟨⟨⟨⟨⟨⟨⟨⟨⟨⟨⟨⟨⟨⟨⟨⟨⟨⟨⟨⟨⟨⟨⟨⟨⟨⟨⟨⟨⟨k1, e2⟩, e3⟩, t1⟩, t2⟩, t3⟩, e7⟩, t4⟩, e9⟩, k10⟩, k11⟩, k12⟩, k13⟩, t5⟩, t6⟩, t7⟩, t8⟩, t9⟩, t10⟩, t11⟩, t12⟩, t13⟩, e22⟩, t14⟩, e23⟩, e24⟩, e24b⟩, e24c⟩, t15⟩, t16⟩, t17⟩, t18⟩
theorem joined_of {f : FuncId} {fn : Func} {s : ChangeSpec} {c : OpenClaim} (k1 : c.wf (OpenSpec.ofChange s) = true) (kt : typeFacts Tryd.prog fn s c = true)
    (k10 : (c.inPlace == Tryd.prog.inPlace f) = true) (k11 : (c.unfollowed == Tryd.prog.unfollowed f) = true) (k12 : (c.recurses == Tryd.prog.recurses f) = true) (k13 : (c.named == Tryd.prog.varsNamed f) = true)
    (k22 : c.plainKeys = false) (k24b : c.lifted = false) (k24c : c.make = .cut) : joinedFacts Tryd.prog f fn s c = true :=
  joined_all k1 kt k10 k11 k12 k13 Tryd.laidOut Tryd.mapsRowed Tryd.stops Tryd.stopKnobs (by rw [k22, Tryd.plainKeys]; rfl) Tryd.stopsHeard Tryd.mayEnter (by rw [k24b, Tryd.liftsFinal]; rfl) (by rw [k24c, Tryd.make]; rfl)
end Go.Proofs.YtmiecebdkadhbaaDoor
/-
  THE DOOR SEAT's CONDITION: the library's table lies in its variable: what a walk reads of it, and a world that meets it.
-/
namespace Go.Proofs.YtmiecebdkadhbaaDoor
open Go.RowKit

def tabInts : List Int := Lib.deBruijn32tab.map fun n : Nat => (n : Int)
theorem Tryd.tabGlobal : Tryd.prog.globalNamed "math/bits.deBruijn32tab" = some 0 := by kernel_rfl
theorem Tryd.tabType : (Tryd.prog.globals[0]?).map (·.type) = some 133 := by kernel_rfl
theorem Tryd.tabCells : Tryd.prog.cellsOf 133 = 32 := by kernel_rfl
theorem Tryd.byteCells : Tryd.prog.cellsOf 5 = 1 := by kernel_rfl
theorem tabInts_at : ∀ i : Fin 32, tabInts.getD i.val 0 = ((Lib.deBruijn32tab.getD i.val 0 : Nat) : Int) := by decide
theorem tab_of_laid {W : World} (h : laidMetH Tryd.prog [("math/bits.deBruijn32tab", Rows.laid_math_bits_deBruijn32tab)] W) : TabW W := by
  have h' : laidMet Tryd.prog (("math/bits.deBruijn32tab", Lib.tabData .u8 tabInts) :: []) W := h
  have ht := Lib.tabIs_of_head Tryd.tabGlobal Tryd.tabType Tryd.underlying133 Tryd.underlying5 Tryd.byteCells Tryd.tabCells h'
  intro j hj
  rw [ht.cell Tryd.tabGlobal j (by simpa [tabInts, Lib.deBruijn32tab] using hj), tabInts_at ⟨j, hj⟩]

/-- A world that meets the condition. -/
noncomputable def laidWorld (os : Os) : World :=
  let w0 := World.holding Tryd.prog os ⟨#[], #[], []⟩
  { w0 with heap := w0.heap.modify 0 fun
      | .cells _ t frozen => .cells (tabInts.map fun z => Value.int .u8 z).toArray t frozen
      | o => o }
theorem laidWorld_met (os : Os) (args : Array Value) : laidMetH Tryd.prog [("math/bits.deBruijn32tab", Rows.laid_math_bits_deBruijn32tab)] ((laidWorld os).forCall (fun _ _ => 0) ⟨#[], args, []⟩).memory :=
  laidMetH_of_parts (laidMet_of_run' 8 (by kernel_rfl) (by kernel_rfl)) (by kernel_rfl)
end Go.Proofs.YtmiecebdkadhbaaDoor
/-
  A CALL THAT RUNS ALONE, AT A ROW THAT WOULD LET OTHERS BE LEAVING: what holds of it alone holds there, too.
-/
namespace Go.Proofs.YtmiecebdkadhbaaDoor
open Go.Conc

theorem leaving_of_handed {a : Assume} {C : Checked} {os : Os} {f : FuncId} {r : Reach} {Pre : World → Array Value → Prop} {Post : World → Array Value → Value → World → Prop}
    (h : ReturnsInHanded a C os f r Pre Post) : ReturnsInLeavingWide a C os f r Pre Post :=
  fun enter => ReturnsInOpen.mono (fun _ _ _ x => ⟨x.2.1, onlyLeaving_of_quiet x.1, x.2.2⟩) (fun _ x => x) (h enter)
end Go.Proofs.YtmiecebdkadhbaaDoor
/-
  A TIED CARD OF A CALL THAT CAN START GOROUTINES: out of its row.
-/
namespace Go.Proofs.YtmiecebdkadhbaaDoor

theorem tied_goes (Lk : Looks) {p : Pinned} {s : OpenSpec} {c : OpenClaim} (kinds : List LaidKind) (tests : Bool) (har : Bool × String) (lk : Bool)
    (row : c.holds p s) (wf : c.wfByText s = true) (tie : c.laidByTextAt Lk p kinds tests) (entering : c.start = .entering) (free : c.noBlocks = false ∧ c.again = false)
    (main : p.checked.prog.mainIs = some (har.1, har.2.toList)) (notSixth : (!har.1 && har.2.isEmpty && !lk) = false)
    (looked : ∀ f fn, p.checked.prog.funcNamed c.func = some f → p.checked.prog.funcs[f]? = some fn → lk = p.checked.prog.looks [] ∧ ∀ (j : Nat) t, fn.params[j]? = some t → p.checked.prog.wantsStandIn t = false)
    (goes : true = c.goesBy p.checked.prog) :
    Claim7.holds p (.plain s) { stood := { row := c, standIns := [], harness := har, looks := lk }, kinds := [], alts := [], goes := true, laidByText := true, laidKinds := kinds, laidTests := tests, laidLooks := Lk } := by
  refine ⟨Claim7.tied_new_at Lk kinds tests (Claim7.new_of_sixth row har lk entering free main (by simpa [Claim7.isSixth] using notSixth) looked) wf, ?_, tie, ?_, goes⟩
  · intro D hD; cases hD
  · intro h; cases h
end Go.Proofs.YtmiecebdkadhbaaDoor
