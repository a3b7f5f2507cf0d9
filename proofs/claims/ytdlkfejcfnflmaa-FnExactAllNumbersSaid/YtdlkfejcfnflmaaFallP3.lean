/-
  Texts put together for the claims of 'Fall' (pack 3): FallI, NumsW, Shelf, SortI, Fails, CanBe, FallC, Head, Facts.
-/
import Derived.Test.YtdlkfejcfnflmaaFallP1
import Derived.Test.YtdlkfejcfnflmaaFallP2
import Derived.Deep.RegionLaw
import Derived.Deep.AppendLies
import Derived.Shelf.SlSortCmp.NoneTotal
import Derived.Shelf.SlicesE.Clone
import Derived.Shelf.SlicesG.SearchI
import Derived.Shelf.SlicesG.Turned
import Derived.Shelf.SlGeneric
import Derived.Ground.SlsfProg
import Derived.Ground.SlgnProg
import Derived.Test.YtdlkfejcfnflmaaProg
import Derived.Lib.OwnBridge
import Derived.Lib.SortBridge
import Derived.Test.YtdlkfejcfnflmaaRows
/-
  ALL FALLING NUMBERS: the program's closure that keeps those that can be, by its contract.
-/
namespace Go.Proofs.Ytdlkfejcfnflmaa
open Go.RowKit Go.Shelf

/-- what the closure has kept, apart from the list that is shown -/
def KeptF (o : Nat) (S : Nat → Prop) (xs : List (List Int)) (W : World) : Prop :=
  (∀ j, S j → o < j ∧ j < W.heap.size) ∧ ∃ (Ap : Option Addr) (cp : Nat) (hs : List Value), Found W o (xs.filter canI) Ap cp hs ∧ ApartV hs ∧ (∀ k, (Value.slice Ap (xs.filter canI).length cp).ownBlock = some k → ¬ S k) ∧ (∀ u ∈ hs, ∀ k, u.ownBlock = some k → k < W.heap.size ∧ ¬ S k)
theorem keptF_held (o : Nat) : Held (KeptF o) := by
  rintro T T' pre B C ⟨a1, Ap, cp, hs, a2, a3, a4, a5⟩ hap hT'
  have hsz := hap.below.size
  refine ⟨fun j hj => ?_, Ap, cp, hs, a2.apart hap (fun h => by have := (a1 _ h).1; omega) a4 (fun u hu k hk => (a5 u hu k hk).2), a3, fun k hk hj => ?_, fun u hu k hk => ⟨by have := (a5 u hu k hk).1; omega, fun hj => ?_⟩⟩
  · rcases hT' j hj with h | h
    · have := a1 j h; omega
    · have := a2.lt; omega
  · rcases hT' k hj with h | h
    · exact a4 k hk h
    · have := (own_lies a2.rows.own k hk).2; omega
  · rcases hT' k hj with h | h
    · exact (a5 u hu k hk).2 h
    · have := (a5 u hu k hk).1; omega

set_option maxHeartbeats 4000000 in
set_option maxRecDepth 100000 in
theorem keepFall_any (hcb : ∀ (q : List Int) (A : Option Addr) (c : Nat) (w : World), isNums q = true → CRead w w.heap.size A (icells q) → Calls Try.prog 16 #[.slice A q.length c] w fun e w' => e = .returned (.bool (canI q)) ∧ Below w.heap.size w w') (o : Nat)
    (q : List Int) (A : Option Addr) (c : Nat) (S : Nat → Prop) (pre : List (List Int)) (W : World) (hn : isNums q = true) (hJ : KeptF o S pre W) (ht : World.told W A c q) (hA : ∀ k, (Value.slice A q.length c).ownBlock = some k → S k) (hfew : (pre.filter canI).length ≤ 4096) :
    Calls Try.prog 15 #[.slice A q.length c, .pointer (some ⟨o, 0, none⟩)] W fun e W' => e = .returned (.tuple #[]) ∧ KeptF o S (pre ++ [q]) W' ∧ Stays (fun j => S j ∨ j < o) W W' := by
  obtain ⟨i1, hj, hy0, hy1, hy2⟩ := info_parts Try.infoIntsG
  obtain ⟨a1, Ap, cp, hs, found, apv, a4, a5⟩ := hJ
  have hcan := hcb q A c W hn (CRead.of_own ht)
  have hq100 : q.length ≤ 1048576 := by have := isNums_len hn; omega
  cases hc : canI q with
  | false =>
    have e : (pre ++ [q]).filter canI = pre.filter canI := by rw [List.filter_append, List.filter_cons_of_neg (by simp [hc])]; simp
    rw [hc] at hcan
    have Can := Lib.hid hcan
    have HE := Lib.hid e
    clear hcan hc e
    go_enter Try.func15, Try.ntmps15
    go_wp2_with fail
    refine Can.out.mono ?_
    rintro e w1 ⟨rfl, hb1⟩
    have s1 := hb1.size
    clear Can
    go_wp2
    refine show _ = [] ∧ _ from ⟨rfl, .tuple #[], by simp [results, Try.results15, go_sem], ?_⟩
    refine ⟨rfl, ⟨fun j hj => by have := a1 j hj; omega, Ap, cp, hs, by rw [HE.out]; exact found.below hb1, apv, by rw [HE.out]; exact a4, fun u hu k hk => ⟨by have := (a5 u hu k hk).1; omega, (a5 u hu k hk).2⟩⟩, Stays.of_below hb1⟩
  | true =>
    have e : (pre ++ [q]).filter canI = pre.filter canI ++ [q] := by rw [List.filter_append, List.filter_cons_of_pos hc]; rfl
    rw [hc] at hcan
    obtain ⟨LL, hLL⟩ : ∃ LL, pre.filter canI = LL := ⟨_, rfl⟩
    rw [hLL] at e found a4 hfew
    have Can := Lib.hid hcan
    have HE := Lib.hid e
    have A4 := Lib.hid a4
    have A5 := Lib.hid a5
    have A1 := Lib.hid a1
    have Told := Lib.hid ht
    have Found0 := Lib.hid found
    have cell0 := found.cell
    have thaw0 := found.thawed
    have hlt0 := found.lt
    clear hcan hc e hLL a4 a5 a1 ht found
    go_enter Try.func15, Try.ntmps15
    go_wp2_with fail
    refine Can.out.mono ?_
    rintro e w1 ⟨rfl, hb1⟩
    have found1 := Found0.out.below hb1
    have cell1 := found1.cell
    have thaw1 := found1.thawed
    have hlt1 := found1.lt
    have s1 := hb1.size
    have told1 : World.told w1 A c q := own_below Told.out hb1 (Nat.le_refl _)
    have Found1 := Lib.hid found1
    have Told1 := Lib.hid told1
    clear Can cell0 thaw0 found1 told1
    go_wp2
    go_region_law (first
      | (go_simp; go_at_call 17; refine (cloneI_any q A c w1.drew hq100 (CRead.of_own (own_below Told1.out ((Below.refl _ _).drew) (Nat.le_refl _)))).mono ?_; rintro e w2 ⟨A2, c2, rfl, own2, hb2⟩; have hX2 : Below w1.heap.size w1 w2 := (Below.refl _ _).drew.trans hb2; have found2 := Found1.out.below hX2; have s2 := hX2.size; have kq : ∀ ob : Obj, (w2.alloc ob).cell? ⟨o, 0, none⟩ = some (.slice Ap LL.length cp) := fun ob => (World.cell?_alloc_lt w2 _ _ (by simp; omega)).trans found2.cell; have r1 := found2.cell)
      | (refine step_append_lies _ (by rfl) _ _ _ (by rfl) (o + 1) 34 i1 _ 1 24 Try.underlying22 hj hy0 hy1 hy2 (by rfl) (by decide) _ LL.length hs (by rfl) (found2.rows.own.alloc _) ⟨w2.heap.size, 0, none⟩ 1 1 [.slice A2 q.length c2] (by rfl) rfl (one_cell (by simp)) (one_one rfl) (by decide) (by unfold maxLen; omega) (by omega) (by simp; omega) (w2.heap.size + 1) (by simp) ?_; intro g3 c3 w3 own3 gr3 hat3 hlt3; obtain ⟨y0, y1, y2, found3, kept3⟩ := found2.push (own_lower own2 (show o + 1 ≤ w1.drew.heap.size by show o + 1 ≤ w1.heap.size; omega)) own3 gr3))
    all_goals
      have hs3 := gr3.size
      simp only [World.size_alloc] at hs3
      have hl2 := own_lies own2
      have h1d : w1.drew.heap.size = w1.heap.size := rfl
      have st : Stays (fun j => S j ∨ j < o) W (w3.setCell ⟨o, 0, none⟩ (.slice (some ⟨g3, 0, none⟩) (LL.length + 1) c3)) := ((((Stays.of_below hb1).trans (Stays.of_below hX2)).trans (Stays.alloc _ w2 _)).trans (Stays.grown gr3 (fun k e hk => hk.elim (A4.out k e) (fun h => by have := (own_lies Found0.out.rows.own k e).1; omega)))).trans (Stays.setCell (p := ⟨o, 0, none⟩) (fun h => h.elim (fun h => by have := (A1.out o h).1; omega) (fun h => by have h2 : o < o := h; omega)) w3 _)
      have hll : (LL ++ [q]).length = LL.length + 1 := by simp
      refine show _ = [] ∧ _ from ⟨rfl, .tuple #[], by simp [results, Try.results15, go_sem], ?_⟩
      refine ⟨rfl, ⟨fun j hj => ⟨(A1.out j hj).1, by have := (A1.out j hj).2; simp; omega⟩, some ⟨g3, 0, none⟩, c3, hs ++ [.slice A2 q.length c2], by rw [HE.out]; exact found3, ?_, ?_, ?_⟩, st⟩
      · refine List.pairwise_append.2 ⟨apv, List.pairwise_singleton _ _, fun a ha b hb => ?_⟩
        rw [List.mem_singleton] at hb
        subst hb
        cases hab : a.ownBlock with
        | none => exact .inl rfl
        | some k =>
          refine .inr fun e => ?_
          have h1 := (A5.out a ha k hab).1
          have h2 := (hl2 k e.symm).1
          omega
      · intro k hk hS
        rw [HE.out, hll] at hk
        obtain rfl : g3 = k := by simpa [Value.ownBlock] using hk
        rcases hat3 with h | h
        · exact A4.out _ h hS
        · have := (A1.out _ hS).2; omega
      · intro u hu k hk
        rcases List.mem_append.1 hu with h | h
        · have h1 := A5.out u h k hk
          exact ⟨by simp; omega, h1.2⟩
        · rw [List.mem_singleton] at h
          subst h
          have h2 := hl2 k hk
          exact ⟨by simp; omega, fun hS => by have := (A1.out k hS).2; omega⟩
theorem wpList_append_told {ops : Array Oper} {rest : List Oper} {o : Oper} {a : Act} {w : World} {Q : Exit → Act → World → Prop}
    (hgd : o.guard = none) (s x : Operand) (ho : o.op = .call { callee := .builtin .append, args := #[s, x], argTypes := #[34, 34] })
    (A : Option Addr) (c : Nat) (l : List Int) (y : Int) (hs : a.eval s = .slice A l.length c) (hown : World.told w A c l)
    (ad : Addr) (hx : a.eval x = .slice (some ad) 1 1) (hcell : ∀ j u, [Value.int .i64 y][j]? = some u → w.cell? (ad.add j) = some u) (hlen : l.length ≤ 1000)
    (h : ∀ A' c' w', Grew w w' A A' c c' l y → wpList Try.prog ops Q rest (a.put o.dst (.slice A' (l.length + 1) c')) w') : wpList Try.prog ops Q (o :: rest) a w :=
  wpList_plain hgd fun K hK => by
    have h2 := step_append_told (ops := #[]) (E := True) (K := K) (Q := Q) hgd s x ho A c l y hs hown ad hx hcell hlen fun A' c' w' G => hK _ _ (h A' c' w' G)
    rwa [if_pos (by simp [Region.wanted, hgd])] at h2
set_option maxHeartbeats 8000000 in
set_option maxRecDepth 100000 in
theorem eachFalling_any (hcb : ∀ (q : List Int) (A : Option Addr) (c : Nat) (w : World), isNums q = true → CRead w w.heap.size A (icells q) → Calls Try.prog 16 #[.slice A q.length c] w fun e w' => e = .returned (.bool (canI q)) ∧ Below w.heap.size w w') (n : Nat) (hn : n ≤ 7) (o : Nat) :
    ∀ (k : Nat) (q : List Int) (A : Option Addr) (c : Nat) (S : Nat → Prop) (pre : List (List Int)) (W : World), q.length + k = n → (∀ x ∈ q, 0 ≤ x ∧ x < n) → KeptF o S pre W → World.told W A c q → (∀ k, (Value.slice A q.length c).ownBlock = some k → S k) → o < W.heap.size → (pre.filter canI).length + (fallL n k q).length ≤ 4096 →
    Calls Try.prog 14 #[.int .i64 n, .slice A q.length c, .func (.func 15) #[] #[.pointer (some ⟨o, 0, none⟩)]] W fun e W' => e = .returned (.tuple #[]) ∧ LookYes (KeptF o) (fun j => j < o) S A c q (pre ++ fallV n k q) W W' := by
  intro k
  induction k with
  | zero =>
    intro q A c S pre W hqn hq hJ ht hA ho hfew
    have hnums : isNums q = true := isNums_of (by omega) (fun j x hj hx => by have := hq x (List.mem_of_getElem? hx); omega)
    have hl : ((q.length : Int) == (n : Int)) = true := by simp; omega
    have hk := keepFall_any hcb o q A c S pre W hnums hJ ht hA (by omega)
    have Hk := Lib.hid hk
    have Ht := Lib.hid ht
    have HA := Lib.hid hA
    clear hk hJ hnums ht hA hfew
    go_enter Try.func14, Try.ntmps14
    go_wp2_with fail
    refine Hk.out.mono ?_
    rintro e W' ⟨rfl, hJ', st⟩
    clear Hk
    go_wp2
    refine show _ = [] ∧ _ from ⟨rfl, .tuple #[], by simp [results, Try.results14, go_sem], ?_⟩
    exact ⟨rfl, ⟨S, hJ', fun _ h => h, fun _ h => .inl h⟩, st.below, fun j hj => st.same j (by omega) (.inr hj), fun j hj hlt _ => st.same j hlt (.inl hj), told_kept Ht.out fun k hk => st.same k (own_lies Ht.out k hk).2 (.inl (HA.out k hk))⟩
  | succ k ih =>
    intro q A c S pre W hqn hq hJ ht hA ho hfew
    have hl : ((q.length : Int) == (n : Int)) = false := by simp; omega
    have hM0 : 0 ≤ mostQ n q ∧ mostQ n q < n := by
      unfold mostQ
      split
      · rename_i h
        have hm : q.getD (q.length - 1) 0 ∈ q := by
          rw [List.getD_eq_getElem?_getD, List.getElem?_eq_getElem (show q.length - 1 < q.length by omega)]
          exact List.getElem_mem _
        exact hq _ hm
      · omega
    obtain ⟨M, hM⟩ : ∃ M : Nat, mostQ n q = M := ⟨(mostQ n q).toNat, by omega⟩
    have hall := fallTo_all n k q
    have hallW := fallW_all n k q
    rw [hM, show ((M : Int) + 1).toNat = M + 1 by omega] at hall hallW
    rw [← hall] at hfew
    rw [← hallW]
    have hS : ∀ j, S j → o + 1 ≤ j := fun j hj => (hJ.1 j hj).1
    have hlast : q = [] ∧ n = M + 1 ∨ ∃ j, q.length = j + 1 ∧ q[j]? = some (M : Int) := by
      have h := hM
      unfold mostQ at h
      by_cases h0 : 0 < q.length
      · rw [if_pos h0, List.getD_eq_getElem?_getD, List.getElem?_eq_getElem (show q.length - 1 < q.length by omega)] at h
        refine .inr ⟨q.length - 1, by omega, ?_⟩
        rw [List.getElem?_eq_getElem (show q.length - 1 < q.length by omega), ← h]
        rfl
      · rw [if_neg h0] at h
        exact .inl ⟨List.eq_nil_of_length_eq_zero (by omega), by omega⟩
    have hMn : M < n := by omega
    have HJ := Lib.hid hJ
    have Ht := Lib.hid ht
    have HA := Lib.hid hA
    have HS := Lib.hid hS
    have Hq := Lib.hid hq
    have IH := Lib.hid ih
    have Hfew := Lib.hid hfew
    clear ih hJ ht hA hS hq hfew hall hallW hM hM0
    rcases hlast with ⟨hq0, hnM⟩ | ⟨j, hqj, hjM⟩
    · have hql : q.length = 0 := by rw [hq0]; rfl
      have hgt : ¬ ((0 : Int) < (q.length : Int)) := by omega
      have hn1 : (n : Int) - 1 = M := by omega
      clear hq0 hnM hql
      go_enter Try.func14, Try.ntmps14
      go_wp2
      go_loopw [7, 28] (fun _ i wr => ∃ x : Nat, x ≤ M + 1 ∧ i = .int .i64 x ∧ LookYes (KeptF o) (fun j => j < o) S A c q (pre ++ fallW n k q x) W wr) (fun _ i _ => (M + 1) - (intOf i).toNat)
      case atStart => exact ⟨0, Nat.zero_le _, rfl, by rw [fallW_zero, List.append_nil]; exact LookYes.start HJ.out Ht.out⟩
      case round =>
        obtain ⟨x, hxM, rfl, hyes⟩ := hrel
        have Hyes := Lib.hid hyes
        have told0 := hyes.told
        have szr := hyes.below.size
        have Told0 := Lib.hid told0
        clear hyes told0
        by_cases hlt : x ≤ M
        · have hxi : (x : Int) < (M : Int) + 1 := by omega
          have hbd := fallTo_le n k q (x + 1) (M - x)
          rw [show x + 1 + (M - x) = M + 1 by omega, fallTo_succ, List.length_append] at hbd
          have hfw := Hfew.out
          go_wp2_with (at_builtin; refine wpList_append_told rfl _ _ rfl A c q x rfl (World.ownsRow.alloc Told0.out _) ⟨wr.heap.size, 0, none⟩ rfl (one_cell (by simp)) (by omega) ?_; intro A1 c1 w1 G1)
          have kX : Below wr.heap.size wr (wr.alloc (Obj.cells #[.int .i64 (x : Int)] 3)) := by go_grown
          obtain ⟨⟨S2, e1, e2, e3, e4⟩, e5, e6, e7⟩ := Hyes.out.step (B := o + 1) (keptF_held o) HA.out HS.out (fun j h => by omega) (by omega) kX G1
          have hll : (q ++ [(x : Int)]).length = q.length + 1 := by simp
          have ihc := IH.out (q ++ [(x : Int)]) A1 c1 S2 (pre ++ fallW n k q x) w1 (by rw [hll]; omega) (fun y hy => by rcases List.mem_append.1 hy with h | h; exact Hq.out y h; simp at h; omega) e1 G1.new e4 (by omega)
            (by rw [List.filter_append, List.length_append, fallW_can]; omega)
          rw [hll, List.append_assoc, ← fallW_succ] at ihc
          have Ihc := Lib.hid ihc
          have Gg := Lib.hid G1
          have E2 := Lib.hid e2
          have E3 := Lib.hid e3
          clear ihc G1 e1 e2 e3 e4 e5 hbd
          go_wp2_with fail
          refine Ihc.out.mono ?_
          rintro e w2 ⟨rfl, h2⟩
          have h3 := Hyes.out.next (B := o + 1) HA.out HS.out (fun j h => by omega) (by omega) kX Gg.out E2.out E3.out h2
          have H3 := Lib.hid h3
          clear Ihc h2 h3 kX
          go_wp2
          go_roundw
          case rel => exact ⟨x + 1, by omega, by go_num, H3.out⟩
          case measure => simp [intOf]; omega
        · have hxe : x = M + 1 := by omega
          subst hxe
          have hge : ¬ (((M + 1 : Nat) : Int) < (M : Int) + 1) := by omega
          go_wp2
          refine show _ = [] ∧ _ from ⟨rfl, .tuple #[], by simp [results, Try.results14, go_sem], ?_⟩
          exact ⟨rfl, Hyes.out⟩
    · have hgt : (0 : Int) < (q.length : Int) := by omega
      have hqj1 : (q.length : Int) - 1 = (j : Int) := by omega
      obtain ⟨b, off, rfl, hbb, e0⟩ := (CRead.of_own Ht.out).int hjM
      have hjl : (j : Int) < (q.length : Int) := by omega
      have hgd : decide (0 < q.length) = true := decide_eq_true (by omega)
      clear hjM hqj
      go_enter Try.func14, Try.ntmps14
      go_wp2
      go_loopw [7, 28] (fun _ i wr => ∃ x : Nat, x ≤ M + 1 ∧ i = .int .i64 x ∧ LookYes (KeptF o) (fun j => j < o) S (some ⟨b, off, none⟩) c q (pre ++ fallW n k q x) W wr) (fun _ i _ => (M + 1) - (intOf i).toNat)
      case atStart => exact ⟨0, Nat.zero_le _, rfl, by rw [fallW_zero, List.append_nil]; exact LookYes.start HJ.out Ht.out⟩
      case round =>
        obtain ⟨x, hxM, rfl, hyes⟩ := hrel
        have Hyes := Lib.hid hyes
        have told0 := hyes.told
        have szr := hyes.below.size
        have Told0 := Lib.hid told0
        clear hyes told0
        by_cases hlt : x ≤ M
        · have hxi : (x : Int) < (M : Int) + 1 := by omega
          have hbd := fallTo_le n k q (x + 1) (M - x)
          rw [show x + 1 + (M - x) = M + 1 by omega, fallTo_succ, List.length_append] at hbd
          have hfw := Hfew.out
          go_wp2_with (at_builtin; refine wpList_append_told rfl _ _ rfl (some ⟨b, off, none⟩) c q x rfl (World.ownsRow.alloc Told0.out _) ⟨wr.heap.size, 0, none⟩ rfl (one_cell (by simp)) (by omega) ?_; intro A1 c1 w1 G1)
          have kX : Below wr.heap.size wr (wr.alloc (Obj.cells #[.int .i64 (x : Int)] 3)) := by go_grown
          obtain ⟨⟨S2, e1, e2, e3, e4⟩, e5, e6, e7⟩ := Hyes.out.step (B := o + 1) (keptF_held o) HA.out HS.out (fun j h => by omega) (by omega) kX G1
          have hll : (q ++ [(x : Int)]).length = q.length + 1 := by simp
          have ihc := IH.out (q ++ [(x : Int)]) A1 c1 S2 (pre ++ fallW n k q x) w1 (by rw [hll]; omega) (fun y hy => by rcases List.mem_append.1 hy with h | h; exact Hq.out y h; simp at h; omega) e1 G1.new e4 (by omega)
            (by rw [List.filter_append, List.length_append, fallW_can]; omega)
          rw [hll, List.append_assoc, ← fallW_succ] at ihc
          have Ihc := Lib.hid ihc
          have Gg := Lib.hid G1
          have E2 := Lib.hid e2
          have E3 := Lib.hid e3
          clear ihc G1 e1 e2 e3 e4 e5 hbd
          go_wp2_with fail
          refine Ihc.out.mono ?_
          rintro e w2 ⟨rfl, h2⟩
          have h3 := Hyes.out.next (B := o + 1) HA.out HS.out (fun j h => by omega) (by omega) kX Gg.out E2.out E3.out h2
          have H3 := Lib.hid h3
          clear Ihc h2 h3 kX
          go_wp2
          go_roundw
          case rel => exact ⟨x + 1, by omega, by go_num, H3.out⟩
          case measure => simp [intOf]; omega
        · have hxe : x = M + 1 := by omega
          subst hxe
          have hge : ¬ (((M + 1 : Nat) : Int) < (M : Int) + 1) := by omega
          go_wp2
          refine show _ = [] ∧ _ from ⟨rfl, .tuple #[], by simp [results, Try.results14, go_sem], ?_⟩
          exact ⟨rfl, Hyes.out⟩
set_option maxHeartbeats 4000000 in
set_option maxRecDepth 100000 in
theorem implAllNumbers_of (hcb : ∀ (q : List Int) (A : Option Addr) (c : Nat) (w : World), isNums q = true → CRead w w.heap.size A (icells q) → Calls Try.prog 16 #[.slice A q.length c] w fun e w' => e = .returned (.bool (canI q)) ∧ Below w.heap.size w w') (n : Int) (w : World) :
    Calls Try.prog 6 #[.int .i64 n] w (GotRowsOk w (resAllNumbers n).1 (resAllNumbers n).2) := by
  by_cases h : 0 ≤ n ∧ n ≤ 7
  · obtain ⟨m, rfl⟩ : ∃ m : Nat, n = m := ⟨n.toNat, by omega⟩
    have e : resAllNumbers (m : Int) = (fallL m m [], true) := by unfold resAllNumbers; rw [if_pos h, Int.toNat_natCast]
    rw [e]
    obtain ⟨X, hX⟩ : ∃ X, w.alloc (Obj.cells #[.slice none 0 0] 22) = X := ⟨_, rfl⟩
    have kX : Below w.heap.size w X := by rw [← hX]; go_grown
    have sX : X.heap.size = w.heap.size + 1 := by rw [← hX]; simp
    have fX : Found X w.heap.size [] none 0 [] := ⟨by rw [← hX]; exact heap_alloc_new w _, LRows.none _ _⟩
    have hfew := fallL_all (n := m) (by omega)
    have g := eachFalling_any hcb m (by omega) w.heap.size m [] none 0 (fun _ => False) [] X (by simp) (by simp) ⟨fun _ h => h.elim, none, 0, [], fX, List.Pairwise.nil, fun _ _ h => h, by simp⟩ (World.ownsRow_nil _ _ _ _) (fun k h => by cases h) (by omega) (by simp; omega)
    have hv := fallV_can m m []
    obtain ⟨R, hR⟩ : ∃ R, fallL m m [] = R := ⟨_, rfl⟩
    obtain ⟨V, hV⟩ : ∃ V, fallV m m [] = V := ⟨_, rfl⟩
    rw [hR, hV] at hv
    rw [hV] at g
    rw [hR]
    simp only [List.nil_append, List.length_nil] at g
    have hm1 : ¬ ((m : Int) < 0) := by omega
    have hm2 : ¬ ((7 : Int) < (m : Int)) := by omega
    have Gg := Lib.hid g
    have HX := Lib.hid hX
    have KX := Lib.hid kX
    have HV := Lib.hid hv
    clear g hX kX fX hfew hR hV e h hv
    go_enter Try.func6, Try.ntmps6
    go_wp2_with fail
    rw [HX.out]
    refine Gg.out.mono ?_
    rintro e w4 ⟨rfl, ⟨S', hJ, _, _⟩, hb0, hro, _, _⟩
    obtain ⟨_, A4, c4, hs4, found4, apv, _, _⟩ := hJ
    rw [HV.out] at found4
    have cell4 := found4.cell
    have k4 : Below w.heap.size w w4 := ⟨hb0.os.trans KX.out.os, hb0.tape.trans KX.out.tape, hb0.output.trans KX.out.output, Nat.le_trans KX.out.size hb0.size, fun j hj => (hro j hj).trans (KX.out.block j hj)⟩
    obtain ⟨R1, C1, rl⟩ := rowsL_of (found4.rows.lower (B' := w.heap.size) (by omega)) apv
    have Rl := Lib.hid rl
    clear found4 Gg rl hro hb0 apv
    go_wp2
    go_ret2
    exact ⟨A4, c4, R1, C1, rfl, Rl.out, k4⟩
  · have e : resAllNumbers n = ([], false) := by unfold resAllNumbers; rw [if_neg h]
    rw [e]
    by_cases h0 : n < 0
    · clear e h
      go_enter Try.func6, Try.ntmps6
      go_wp2
      go_ret2
      exact ⟨none, 0, fun _ => none, fun _ => 0, rfl, ⟨World.ownsRow_nil _ _ _ _, fun i hi => by simp at hi, fun i j hi => by simp at hi⟩, Below.refl _ _⟩
    · have h7 : (7 : Int) < n := by omega
      clear e h
      go_enter Try.func6, Try.ntmps6
      go_wp2
      go_ret2
      exact ⟨none, 0, fun _ => none, fun _ => 0, rfl, ⟨World.ownsRow_nil _ _ _ _, fun i hi => by simp at hi, fun i j hi => by simp at hi⟩, Below.refl _ _⟩
set_option maxHeartbeats 4000000 in
set_option maxRecDepth 100000 in
theorem implCountNumbers_of (hcb : ∀ (q : List Int) (A : Option Addr) (c : Nat) (w : World), isNums q = true → CRead w w.heap.size A (icells q) → Calls Try.prog 16 #[.slice A q.length c] w fun e w' => e = .returned (.bool (canI q)) ∧ Below w.heap.size w w') (n : Int) (w : World) :
    Calls Try.prog 11 #[.int .i64 n] w fun e w' => e = .returned (.tuple #[.int .i64 (resCountNumbers n).1, .bool (resCountNumbers n).2]) ∧ Below w.heap.size w w' := by
  have g := implAllNumbers_of hcb n w
  unfold resCountNumbers
  obtain ⟨R, hR⟩ : ∃ R, resAllNumbers n = R := ⟨_, rfl⟩
  rw [hR] at g ⊢
  have Gg := Lib.hid g
  clear g hR
  go_enter Try.func11, Try.ntmps11
  go_wp2_with fail
  refine Gg.out.mono ?_
  rintro e w1 ⟨A1, c1, R1, C1, rfl, _, hb1⟩
  clear Gg
  go_wp2
  go_ret2
  exact ⟨rfl, hb1⟩
end Go.Proofs.Ytdlkfejcfnflmaa
/-
  NUMBERS OF FRIENDS: what they are, by the model's and the program's contracts.
-/
namespace Go.Proofs.Ytdlkfejcfnflmaa
open Go.RowKit

def l1AllB (q : List Int) (lo hi : Int) : Bool := q.all fun x => decide (lo ≤ x ∧ x ≤ hi)
theorem l1AllB_yes {q : List Int} {lo hi : Int} (h : ∀ (j : Nat) (x : Int), j < q.length → q[j]? = some x → lo ≤ x ∧ x ≤ hi) : l1AllB q lo hi = true := by
  simp only [l1AllB, List.all_eq_true, decide_eq_true_eq]
  intro x hx
  obtain ⟨i, hi, rfl⟩ := List.getElem_of_mem hx
  exact h i _ hi (List.getElem?_eq_getElem hi)
theorem l1AllB_no {q : List Int} {lo hi : Int} {k : Nat} {x : Int} (hx : q[k]? = some x) (h : ¬ (lo ≤ x ∧ x ≤ hi)) : l1AllB q lo hi = false := by
  cases he : l1AllB q lo hi with
  | false => rfl
  | true =>
    simp only [l1AllB, List.all_eq_true, decide_eq_true_eq] at he
    exact absurd (he x (List.mem_of_getElem? hx)) h

theorem isNums_all {q : List Int} (h : q.length ≤ 12) : l1AllB q 0 ((q.length : Int) - 1) = isNums q := by
  unfold l1AllB isNums
  rw [decide_eq_true h, Bool.true_and]
  congr 1
  funext x
  congr 1
  apply propext
  omega

def resIsNumbers (q : List Int) : Bool := isNums q
/-! ## Sums -/
set_option maxHeartbeats 1000000 in
theorem deSum_any (q : List Int) (A : Option Addr) (c : Nat) (w : World) (hq : isNums q = true) (hA : CRead w w.heap.size A (icells q)) :
    Calls Try.prog 25 #[.slice A q.length c] w fun e w' => e = .returned (.int .i64 (sumI q)) ∧ w = w' := by
  have hl := isNums_len hq
  have Hq := Lib.hid hq
  clear hq
  go_enter Try.func25, Try.ntmps25
  go_wp2
  go_loop [3, 8] (fun v i => ∃ (k : Nat) (s : Int), k ≤ q.length ∧ i = .int .i64 k ∧ v = .int .i64 s ∧ s = sumI (q.take k) ∧ 0 ≤ s ∧ s ≤ 12 * k) (fun _ i => q.length - (intOf i).toNat)
  case atStart => exact ⟨0, 0, Nat.zero_le _, rfl, rfl, rfl, by omega, by omega⟩
  case round =>
    obtain ⟨k, s, hk, rfl, rfl, hs, hs0, hs1⟩ := hrel
    have Hs := Lib.hid hs
    clear hs
    by_cases hlt : k < q.length
    · obtain ⟨x, hx⟩ := getSome q k hlt
      obtain ⟨b, off, rfl, hbb, c0⟩ := hA.int hx
      have hx0 := isNums_at Hq.out hx
      have hki : (k : Int) < (q.length : Int) := by omega
      have Hx := Lib.hid hx
      clear hx
      go_wp2
      go_round
      case rel =>
        refine ⟨k + 1, s + x, by omega, by go_num, by go_num, ?_, by omega, by omega⟩
        rw [List.take_add_one, Hx.out, Option.toList_some, sumI_snoc, ← Hs.out]
      case measure => simp [intOf]; omega
    · have hkl : k = q.length := by omega
      subst hkl
      have hge : ¬ ((q.length : Int) < (q.length : Int)) := by omega
      go_wp2
      go_ret
      exact ⟨by rw [Hs.out, List.take_length]; rfl, rfl⟩

set_option maxHeartbeats 1000000 in
theorem sumOf_any (q : List Int) (A : Option Addr) (c : Nat) (w : World) (hq : isNums q = true) (hA : CRead w w.heap.size A (icells q)) :
    Calls Try.prog 23 #[.slice A q.length c] w fun e w' => e = .returned (.int .i64 (sumI q)) ∧ w = w' := by
  have hl := isNums_len hq
  have Hq := Lib.hid hq
  clear hq
  go_enter Try.func23, Try.ntmps23
  go_wp2
  go_loop [3, 8] (fun v i => ∃ (k : Nat) (s : Int), k ≤ q.length ∧ i = .int .i64 k ∧ v = .int .i64 s ∧ s = sumI (q.take k) ∧ 0 ≤ s ∧ s ≤ 12 * k) (fun _ i => q.length - (intOf i).toNat)
  case atStart => exact ⟨0, 0, Nat.zero_le _, rfl, rfl, rfl, by omega, by omega⟩
  case round =>
    obtain ⟨k, s, hk, rfl, rfl, hs, hs0, hs1⟩ := hrel
    have Hs := Lib.hid hs
    clear hs
    by_cases hlt : k < q.length
    · obtain ⟨x, hx⟩ := getSome q k hlt
      obtain ⟨b, off, rfl, hbb, c0⟩ := hA.int hx
      have hx0 := isNums_at Hq.out hx
      have hki : (k : Int) < (q.length : Int) := by omega
      have Hx := Lib.hid hx
      clear hx
      go_wp2
      go_round
      case rel =>
        refine ⟨k + 1, s + x, by omega, by go_num, by go_num, ?_, by omega, by omega⟩
        rw [List.take_add_one, Hx.out, Option.toList_some, sumI_snoc, ← Hs.out]
      case measure => simp [intOf]; omega
    · have hkl : k = q.length := by omega
      subst hkl
      have hge : ¬ ((q.length : Int) < (q.length : Int)) := by omega
      go_wp2
      go_ret
      exact ⟨by rw [Hs.out, List.take_length]; rfl, rfl⟩

/-! ## Sorted so that they are falling: the model's -/
set_option maxHeartbeats 1000000 in
set_option maxRecDepth 100000 in
theorem deSorted_any (q : List Int) (A : Option Addr) (c : Nat) (w : World) (hq : isNums q = true) (hA : CRead w w.heap.size A (icells q)) :
    Calls Try.prog 28 #[.slice A q.length c] w fun e w' => ∃ A' c', e = .returned (.slice A' (fall q).length c') ∧
      w'.ownsRow w.heap.size 3 1 (.slice A' (fall q).length c') (fall q).length (icells (fall q)) ∧ Below w.heap.size w w' := by
  obtain ⟨i0, hi, hz0, hz1, hz2⟩ := info_parts Try.infoInt
  have hl := isNums_len hq
  have Hfall := Lib.hid (descI_fall hq)
  clear hq
  go_enter Try.func28, Try.ntmps28
  go_wp2
  go_loopw [3, 4] (fun v i wr => ∃ (j : Nat) (y : Int), j ≤ q.length + 1 ∧ i = .int .i64 y ∧ y = (q.length : Int) - j ∧ wr.ownsRow w.heap.size 3 1 v (descI q q.length j).length (icells (descI q q.length j)) ∧ Below w.heap.size w wr) (fun _ i _ => (intOf i + 1).toNat)
  case atStart => exact ⟨0, q.length, Nat.zero_le _, rfl, by omega, World.ownsRow_nil _ _ _ _, Below.refl _ _⟩
  case round =>
    obtain ⟨j, y, hj, rfl, hy, hown, hb⟩ := hrel
    by_cases hlt : j < q.length + 1
    · have hge : 0 ≤ y := by omega
      have hge2 : y ≤ 12 := by omega
      have hjn : (j : Int) ≤ q.length := by omega
      have hdl := descI_le q q.length j
      have hdl2 : j * q.length ≤ 12 * 12 := Nat.mul_le_mul (by omega) hl
      have Hnext := Lib.hid (descI_next q q.length j)
      rw [← hy] at Hnext
      have Hy := Lib.hid hy
      have Hown := Lib.hid hown
      have Hb := Lib.hid hb
      clear hown hb hy
      go_wp2
      go_loopw [3, 15] (fun v i wx => ∃ m : Nat, m ≤ q.length ∧ i = .int .i64 m ∧ wx.ownsRow w.heap.size 3 1 v (descI q q.length j ++ blockI (q.take m) y).length (icells (descI q q.length j ++ blockI (q.take m) y)) ∧ Below w.heap.size w wx) (fun _ i _ => q.length - (intOf i).toNat)
      case atStart => exact ⟨0, Nat.zero_le _, rfl, by simpa [blockI] using Hown.out, Hb.out⟩
      case round =>
        clear Hown Hb
        obtain ⟨m, hm, rfl, hown, hb⟩ := hrel
        have hs := hb.size
        have hbl : (blockI (q.take m) y).length ≤ 12 := Nat.le_trans (blockI_le _ _) (Nat.le_trans (List.length_take_le' _ _) hl)
        have hdb : (descI q q.length j ++ blockI (q.take m) y).length ≤ 1000 := by rw [List.length_append]; omega
        by_cases hmt : m < q.length
        · obtain ⟨x, hx⟩ := getSome q m hmt
          obtain ⟨b, off, rfl, hbb, c0⟩ := (hA.below hb (Nat.le_refl _)).int hx
          have hmi : (m : Int) < (q.length : Int) := by omega
          have Hsn := Lib.hid (blockI_snoc (q.take m) y x)
          have Hx := Lib.hid hx
          clear hx
          by_cases hxe : x = y
          · subst hxe
            go_wp2_with (at_builtin; refine wpList_append_own _ rfl _ _ 34 rfl w.heap.size 3 i0 _ 1 8 Try.underlying34 hi hz0 hz1 hz2 rfl (by decide) _ _ _ rfl (hown.alloc _) ⟨wr.heap.size, 0, none⟩ 1 1 [.int .i64 x] rfl rfl (one_cell (by simp)) (one_one rfl) (by unfold maxLen; omega) (by omega) (by simp; omega) ?_; intro v1 w3 hown3 hg3 _; obtain ⟨A1, d1', rfl, _⟩ := own_shape hown3)
            go_roundw
            case rel =>
              refine ⟨m + 1, by omega, by go_num, ?_, ?_⟩
              · rw [List.take_add_one, Hx.out, Option.toList_some, Hsn.out, if_pos rfl, ← List.append_assoc]
                have el : (descI q q.length j).length + (blockI (q.take m) x).length = (descI q q.length j ++ blockI (q.take m) x).length := by rw [List.length_append]
                rw [el]
                generalize descI q q.length j ++ blockI (q.take m) x = L at hown3 ⊢
                rw [icells_append, List.length_append]
                exact hown3
              · exact (hb.alloc hs _).grown hg3 (by simp; omega) (fun k hk => (hown.lt k hk).1)
            case measure => simp [intOf]; omega
          · have hne : ¬ y = x := fun e => hxe e.symm
            go_wp2
            go_roundw
            case rel =>
              refine ⟨m + 1, by omega, by go_num, ?_, hb⟩
              rw [List.take_add_one, Hx.out, Option.toList_some, Hsn.out, if_neg hne, List.append_nil]
              exact hown
            case measure => simp [intOf]; omega
        · have hml : m = q.length := by omega
          subst hml
          have hgm : ¬ ((q.length : Int) < q.length) := by omega
          rw [List.take_length, ← Hnext.out] at hown
          go_wp2
          go_roundw
          case rel => exact ⟨j + 1, y - 1, by omega, by go_num, by have := Hy.out; omega, hown, hb⟩
          case measure => simp [intOf]; omega
    · have hjl : j = q.length + 1 := by omega
      subst hjl
      have hneg : ¬ (0 ≤ y) := by omega
      rw [Hfall.out] at hown
      obtain ⟨A', c', rfl, _⟩ := own_shape hown
      have Hown := Lib.hid hown
      clear hown
      go_wp2
      go_ret
      exact ⟨A', c', rfl, Hown.out, hb⟩
end Go.Proofs.Ytdlkfejcfnflmaa
/-
  DERIVED: THE SHELF's CONTRACTS AT THIS DUMP, IN PLAIN WORDS (tools/lay-plain.mjs out of 'YtdlkfejcfnflmaaShelfHome.lean', which tools/lay-shelf.mjs wrote): THE SAME DECLARATIONS UNDER THE SAME NAMES: 'import', 'namespace', 'open', 'def', 'theorem' AND NOTHING ELSE: no command of the shelf's: FOR A HAND-IN. Each laying: the table of numbers ('.._ren') and one theorem, a field a fact of the dump's own or the kernel's comparison; each contract: ONE APPLICATION.
-/
namespace Go.Proofs
open Go.Shelf
def Try.sortI_ren : Go.Shelf.Ren := ⟨fun | 6 => 30 | 15 => 34 | 14 => 33 | 28 => 44 | 29 => 45 | 20 => 36 | 21 => 37 | 22 => 38 | 23 => 39 | 24 => 40 | 25 => 41 | 26 => 42 | 27 => 43 | 46 => 46 | 47 => 47 | 48 => 48 | 49 => 49 | 50 => 50 | 57 => 51 | n => n, fun | 22 => 34 | 24 => 3 | 25 => 41 | 3 => 3 | 39 => 45 | 0 => 0 | 53 => 54 | 55 => 56 | 4 => 4 | 46 => 48 | 45 => 47 | 50 => 28 | 5 => 5 | 9 => 9 | 66 => 57 | 70 => 61 | 76 => 63 | 77 => 64 | n => n, fun | n => n⟩
theorem Try.sortI : Go.Proofs.SlLaysF.n6 Try.prog Try.sortI_ren := {
  mixed := by kernel_rfl
  f6 := ⟨Try.f30.name, by decide, Try.func30.trans (congrArg some (by kernel_rfl))⟩
  f14 := ⟨Try.f33.name, by decide, Try.func33.trans (congrArg some (by kernel_rfl))⟩
  f15 := Try.func34.trans (congrArg some (by kernel_rfl))
  f20 := ⟨Try.f36.name, by decide, Try.func36.trans (congrArg some (by kernel_rfl))⟩
  f21 := ⟨Try.f37.name, by decide, Try.func37.trans (congrArg some (by kernel_rfl))⟩
  f22 := ⟨Try.f38.name, by decide, Try.func38.trans (congrArg some (by kernel_rfl))⟩
  f23 := ⟨Try.f39.name, by decide, Try.func39.trans (congrArg some (by kernel_rfl))⟩
  f24 := ⟨Try.f40.name, by decide, Try.func40.trans (congrArg some (by kernel_rfl))⟩
  f25 := ⟨Try.f41.name, by decide, Try.func41.trans (congrArg some (by kernel_rfl))⟩
  f26 := ⟨Try.f42.name, by decide, Try.func42.trans (congrArg some (by kernel_rfl))⟩
  f27 := ⟨Try.f43.name, by decide, Try.func43.trans (congrArg some (by kernel_rfl))⟩
  f28 := Try.func44.trans (congrArg some (by kernel_rfl))
  f29 := Try.func45.trans (congrArg some (by kernel_rfl))
  f46 := ⟨Try.f46.name, by decide, Try.func46.trans (congrArg some (by kernel_rfl))⟩
  f47 := Try.func47.trans (congrArg some (by kernel_rfl))
  f48 := Try.func48.trans (congrArg some (by kernel_rfl))
  f49 := ⟨Try.f49.name, by decide, Try.func49.trans (congrArg some (by kernel_rfl))⟩
  f50 := ⟨Try.f50.name, by decide, Try.func50.trans (congrArg some (by kernel_rfl))⟩
  f57 := ⟨Try.f51.name, by decide, Try.func51.trans (congrArg some (by kernel_rfl))⟩
  t0 := Try.underlying0
  a0 := Try.isAgg0
  z0 := Try.sizeOf0
  v0 := Try.zeroValue0
  t3 := Try.underlying3
  a3 := Try.isAgg3
  z3 := Try.sizeOf3
  v3 := Try.zeroValue3
  t4 := Try.underlying4
  a4 := Try.isAgg4
  z4 := Try.sizeOf4
  v4 := Try.zeroValue4
  t5 := Try.underlying5
  a5 := Try.isAgg5
  z5 := Try.sizeOf5
  v5 := Try.zeroValue5
  t9 := Try.underlying9
  a9 := Try.isAgg9
  z9 := Try.sizeOf9
  v9 := Try.zeroValue9
  t22 := Try.underlying34
  a22 := Try.isAgg34
  z22 := Try.sizeOf34
  v22 := Try.zeroValue34
  a24 := Try.isAgg3
  z24 := Try.sizeOf3
  t25 := Try.underlying41
  a25 := Try.isAgg41
  z25 := Try.sizeOf41
  v25 := Try.zeroValue41
  t39 := Try.underlying45
  a39 := Try.isAgg45
  z39 := Try.sizeOf45
  v39 := Try.zeroValue45
  t45 := Try.underlying47
  a45 := Try.isAgg47
  z45 := Try.sizeOf47
  v45 := Try.zeroValue47
  t46 := Try.underlying48
  a46 := Try.isAgg48
  z46 := Try.sizeOf48
  v46 := Try.zeroValue48
  t50 := Try.underlying28
  a50 := Try.isAgg28
  z50 := Try.sizeOf28
  v50 := Try.zeroValue28
  t53 := Try.underlying54
  a53 := Try.isAgg54
  z53 := Try.sizeOf54
  v53 := Try.zeroValue54
  t55 := Try.underlying56
  a55 := Try.isAgg56
  z55 := Try.sizeOf56
  v55 := Try.zeroValue56
  t66 := Try.underlying57
  a66 := Try.isAgg57
  z66 := Try.sizeOf57
  v66 := Try.zeroValue57
  t70 := Try.underlying61
  a70 := Try.isAgg61
  z70 := Try.sizeOf61
  v70 := Try.zeroValue61
  t76 := Try.underlying63
  a76 := Try.isAgg63
  z76 := Try.sizeOf63
  v76 := Try.zeroValue63
  t77 := Try.underlying64
  a77 := Try.isAgg64
  z77 := Try.sizeOf64
  v77 := Try.zeroValue64 }
def Try.cloneI_ren : Go.Shelf.Ren := ⟨fun | 41 => 17 | n => n, fun | 22 => 34 | 23 => 3 | 4 => 4 | n => n, fun | n => n⟩
theorem Try.cloneI : Go.Proofs.SlLaysE0.n41 Try.prog Try.cloneI_ren := {
  mixed := by kernel_rfl
  f41 := ⟨Try.f17.name, by decide, Try.func17.trans (congrArg some (by kernel_rfl))⟩
  t4 := Try.underlying4
  a4 := Try.isAgg4
  z4 := Try.sizeOf4
  v4 := Try.zeroValue4
  t22 := Try.underlying34
  a22 := Try.isAgg34
  z22 := Try.sizeOf34
  v22 := Try.zeroValue34 }
end Go.Proofs
/-
  NUMBERS SORTED BY THE PROGRAM: slices.SortFunc with its comparison, 'sortedFalling', 'SortNumbers', by their contracts.
-/
namespace Go.Proofs.Ytdlkfejcfnflmaa
open Go.RowKit Go.Shelf Go.Lib Go.Sort

theorem below_grow {B : Nat} {a w : World} (h : Below B a w) (hB : B ≤ w.heap.size) (os : Array Obj) : Below B a (grow w os) :=
  ⟨h.os, h.tape, h.output, by simp only [grow, Array.size_append]; have := h.size; omega, fun k hk => by
    rw [← h.block k hk]
    simp only [grow]
    rw [Array.getElem?_append_left (by omega)]⟩
theorem own_grow {w : World} {base : Nat} {e : TypeId} {size n : Nat} {v : Value} {xs : List Value} (h : w.ownsRow base e size v n xs) (os : Array Obj) : (grow w os).ownsRow base e size v n xs :=
  own_below h (below_grow (Below.refl w.heap.size w) (Nat.le_refl _) os) (Nat.le_refl _)

def cmpDown (x y : Int) : Int := cmpI y x
theorem ltDown (x y : Int) : ltOf cmpDown x y = decide (y < x) := by
  unfold ltOf cmpDown cmpI
  by_cases h1 : y < x
  · simp [h1]
  · by_cases h2 : x < y <;> simp [h1, h2]
theorem swoDown : SWO (ltOf cmpDown) where
  irrefl x := by rw [ltDown]; simp
  trans x y z h1 h2 := by rw [ltDown] at *; simp at *; omega
  ntrans x y z h1 h2 := by rw [ltDown] at *; simp at *; omega
theorem totDown (x y : Int) (h1 : ltOf cmpDown x y = false) (h2 : ltOf cmpDown y x = false) : x = y := by rw [ltDown] at *; simp at *; omega
theorem geDown : (fun x y : Int => !ltOf cmpDown y x) = fun x y => decide (y ≤ x) := by
  funext x y
  rw [ltDown]
  by_cases h : y ≤ x
  · have h' : ¬ x < y := by omega
    simp [h, h']
  · have h' : x < y := by omega
    simp [h, h']

set_option maxHeartbeats 400000 in
theorem downClosure_any (x y : Int) (w : World) : Calls Try.prog 31 #[.int .i64 x, .int .i64 y] w fun e w' => e = .returned (.int .i64 (cmpDown x y)) ∧ ∃ q, w' = w.drewN q := by
  unfold cmpDown
  go_enter Try.func31, Try.ntmps31
  go_wp2_with fail
  refine (compare_any y x _).mono ?_
  rintro e w' ⟨rfl, rfl⟩
  go_wp2
  go_ret
  exact ⟨rfl, 0, rfl⟩

set_option maxRecDepth 100000 in
/-- slices.SortFunc over a row of numbers of the call's own: falling. -/
theorem sortI_any (q : List Int) (A : Option Addr) (c : Nat) (base : Nat) (w : World) (hl : q.length ≤ 1048576) (hown : w.ownsRow base 3 1 (.slice A q.length c) q.length (icells q)) :
    Calls Try.prog 30 #[.slice A q.length c, .func (.func 31) #[] #[]] w fun e w' => e = .returned (.tuple #[]) ∧
      w'.ownsRow base 3 1 (.slice A q.length c) q.length (icells (fall q)) ∧ (∀ B, B ≤ base → B ≤ w.heap.size → Below B w w') ∧ w.heap.size ≤ w'.heap.size := by
  by_cases h0 : q.length = 0
  · have hq : q = [] := List.eq_nil_of_length_eq_zero h0
    subst hq
    have h := AnyF.slices_SortFunc_none (P := Try.prog) (ρ := Try.sortI_ren) { Try.sortI with } A c (.func (.func 31) #[] #[]) w
    change Calls Try.prog 30 _ _ _ at h
    refine h.mono ?_
    rintro e w' ⟨rfl, rfl⟩
    exact ⟨rfl, by rw [show fall [] = [] from by simp [fall]]; exact hown, fun B _ _ => Below.refl _ _, Nat.le_refl _⟩
  · obtain ⟨g, rfl⟩ := own_form hown (by omega)
    obtain ⟨g', cap, hv, hbg, hgl, hnc, hcm, _, hH⟩ := holds_of_ownsRow (enc := Value.int .i64) (zs := q) hown (by simp)
    simp only [Value.slice.injEq, Option.some.injEq, Addr.mk.injEq, and_true, true_and] at hv
    obtain ⟨rfl, rfl⟩ := hv
    have eg : ∀ args w, (callFunc 31 args).run Try.prog w = .ok (.enter 31 args) w := enters_of Try.func31 (by kernel_rfl) rfl
    have hr : CmpReads Try.prog 31 #[] (Value.int .i64) cmpDown g 0 q.toArray.size w := fun _ _ _ _ x y => downClosure_any x y _
    have h := Any.slices_SortFunc_total Try.sortI (Value.int .i64) (fun _ => rfl) cmpDown swoDown 31 #[] g 0 c q.toArray w eg hr.lays hH hgl (by simp; omega) totDown
    rw [geDown] at h
    change Calls Try.prog 30 _ _ _ at h
    rw [show q.toArray.size = q.length from by simp] at h
    refine h.mono ?_
    rintro e w' ⟨rfl, n, os, rfl⟩
    have hf : (fall q).length = q.length := fall_length q
    have ho := ownsRow_putRow (enc := Value.int .i64) (q := n) (k := q.length) (ys := fall q) hown hf (Nat.le_refl _)
    rw [List.take_of_length_le (by omega)] at ho
    have hb : ∀ B, B ≤ g → Below B w (putRow (Value.int .i64) (Sort.ahead w n) g 0 (fall q).toArray) := fun B hB => below_putRow (Below.refl B w) hB
    have hs : (putRow (Value.int .i64) (Sort.ahead w n) g 0 (fall q).toArray).heap.size = w.heap.size := by simp [putRow, mapBlock, Sort.ahead]
    refine ⟨rfl, own_grow ho os, fun B hB hB2 => below_grow (hb B (by omega)) (by rw [hs]; exact hB2) os, ?_⟩
    show w.heap.size ≤ (grow (putRow (Value.int .i64) (Sort.ahead w n) g 0 (fall q).toArray) os).heap.size
    simp only [grow, Array.size_append, hs]
    omega

set_option maxHeartbeats 1000000 in
set_option maxRecDepth 100000 in
theorem sortedFalling_any (q : List Int) (A : Option Addr) (c : Nat) (w : World) (hl : q.length ≤ 1048576) (hA : CRead w w.heap.size A (icells q)) :
    Calls Try.prog 27 #[.slice A q.length c] w fun e w' => ∃ A' c', e = .returned (.slice A' (fall q).length c') ∧
      w'.ownsRow w.heap.size 3 1 (.slice A' (fall q).length c') (fall q).length (icells (fall q)) ∧ Below w.heap.size w w' := by
  rw [fall_length]
  go_enter Try.func27, Try.ntmps27
  go_wp2_with fail
  refine (cloneI_any q A c _ hl hA).mono ?_
  rintro e w1 ⟨A1, c1, rfl, own1, hb1⟩
  go_wp2_with fail
  refine (sortI_any q A1 c1 _ _ hl own1).mono ?_
  rintro e w2 ⟨rfl, own2, hb2, hs2⟩
  go_wp2
  go_ret
  exact ⟨A1, c1, rfl, own2, hb1.trans (hb2 _ (Nat.le_refl _) hb1.size)⟩

def resSortNumbers (q : List Int) : List Int × Bool := if isNums q then (fall q, true) else ([], false)
theorem resSortNumbers_len (q : List Int) : (resSortNumbers q).1.length ≤ 1048576 := by
  unfold resSortNumbers
  split
  · rename_i h
    have := isNums_len h
    rw [fall_length]
    omega
  · simp
end Go.Proofs.Ytdlkfejcfnflmaa
/-
  WHERE NUMBERS FAIL, AND WHETHER THEY CAN BE: the model's and the program's, by their contracts.
-/
namespace Go.Proofs.Ytdlkfejcfnflmaa
open Go.RowKit

set_option maxHeartbeats 400000 in
theorem l1Least_any (a b : Int) (w : World) : Calls Try.prog 29 #[.int .i64 a, .int .i64 b] w fun e w' => e = .returned (.int .i64 (if a < b then a else b)) ∧ w = w' := by
  by_cases h : a < b
  · rw [if_pos h]
    go_enter Try.func29, Try.ntmps29
    go_wp2
    go_ret
    exact ⟨rfl, rfl⟩
  · rw [if_neg h]
    go_enter Try.func29, Try.ntmps29
    go_wp2
    go_ret
    exact ⟨rfl, rfl⟩

/-- what the walk of one number k wants to know -/
theorem fails_bounds {s : List Int} (hs : isNums s = true) {k : Nat} (hk : k < s.length) : (0 ≤ sumI (s.take k) ∧ sumI (s.take k) ≤ 144) ∧ (∀ x : Int, s[k]? = some x → 0 ≤ x ∧ x ≤ 12 ∧ sumI (s.take (k + 1)) = sumI (s.take k) + x) ∧
    ((k : Int) + 1) * (k : Int) = ((k + 1) * k : Nat) ∧ (k + 1) * k ≤ 132 ∧ (∀ m, 0 ≤ sumI (minsI ((k : Int) + 1) ((s.drop (k + 1)).take m)) ∧ sumI (minsI ((k : Int) + 1) ((s.drop (k + 1)).take m)) ≤ 12 * m) := by
  have hl := isNums_len hs
  have hall : ∀ x ∈ s, 0 ≤ x ∧ x ≤ 12 := fun x hx => by have := isNums_mem hs x hx; omega
  have h1 := sumI_take_bound (q := s) (m := 12) (by omega) hall k
  refine ⟨⟨h1.1, by omega⟩, fun x hx => ?_, ?_, ?_, fun m => ?_⟩
  · have := hall x (List.mem_of_getElem? hx)
    refine ⟨this.1, this.2, ?_⟩
    rw [List.take_add_one, hx, Option.toList_some, sumI_snoc]
  · rw [Int.natCast_mul, Int.natCast_add]
    rfl
  · have : (k + 1) * k ≤ 12 * 11 := Nat.mul_le_mul (by omega) (by omega)
    omega
  · have hall2 : ∀ x ∈ minsI ((k : Int) + 1) (s.drop (k + 1)), 0 ≤ x ∧ x ≤ 12 := minsI_bound (by omega) fun x hx => hall x (List.mem_of_mem_drop hx)
    have h2 := sumI_take_bound (m := 12) (by omega) hall2 m
    have e : minsI ((k : Int) + 1) ((s.drop (k + 1)).take m) = (minsI ((k : Int) + 1) (s.drop (k + 1))).take m := by unfold minsI; rw [List.map_take]
    rw [e]
    omega

set_option maxHeartbeats 2000000 in
set_option maxRecDepth 100000 in
theorem deFails_any (q : List Int) (A : Option Addr) (c : Nat) (w : World) (hq : isNums q = true) (hA : CRead w w.heap.size A (icells q)) :
    Calls Try.prog 26 #[.slice A q.length c] w fun e w' => e = .returned (.int .i64 (failsI (fall q))) ∧ Below w.heap.size w w' := by
  have hn := fall_nums hq
  have hl := isNums_len hn
  have hlq := isNums_len hq
  have Hq := Lib.hid hq
  clear hq
  go_enter Try.func26, Try.ntmps26
  go_wp2_with fail
  refine (deSorted_any q A c _ Hq.out hA).mono ?_
  rintro e w1 ⟨A1, c1, rfl, own1, hb1⟩
  have hs1 := hb1.size
  obtain ⟨A1', c1', he, hcap, hcm⟩ := own_shape own1
  simp only [Value.slice.injEq] at he
  obtain ⟨rfl, _, rfl⟩ := he
  have Hn := Lib.hid hn
  have hcap' : ((fall q).length : Int) ≤ c1 := by omega
  clear hn
  go_wp2
  go_loopw [4, 5] (fun v i wr => ∃ (k : Nat) (s : Int), k ≤ (fall q).length ∧ i = .int .i64 ((k : Int) + 1) ∧ v = .int .i64 s ∧ s = sumI ((fall q).take k) ∧ (∀ j, j < k → failAt (fall q) (j + 1) = false) ∧ w1 = wr) (fun _ i _ => (fall q).length + 1 - (intOf i).toNat)
  case atStart => exact ⟨0, 0, Nat.zero_le _, rfl, rfl, rfl, fun j hj => by omega, rfl⟩
  case round =>
    obtain ⟨k, s, hk, rfl, rfl, hs, hg, rfl⟩ := hrel
    have Hg := Lib.hid hg
    have Hs := Lib.hid hs
    clear hg hs
    by_cases hlt : k < (fall q).length
    · obtain ⟨g, rfl⟩ := own_form own1 (by omega)
      obtain ⟨⟨b0, b1⟩, bx, bk, bk2, bm⟩ := fails_bounds Hn.out hlt
      rw [← Hs.out] at b0 b1
      obtain ⟨x, hx⟩ := getSome (fall q) k hlt
      obtain ⟨hx0, hx1, hxs⟩ := bx x hx
      rw [← Hs.out] at hxs
      have d0 := own_intAt own1 hx
      have hki : (k : Int) + 1 ≤ (fall q).length := by omega
      have hki2 : (k : Int) < (fall q).length := by omega
      have Hx := Lib.hid hx
      have Hxs := Lib.hid hxs
      have Bm := Lib.hid bm
      generalize hkk : (k + 1) * k = kk at *
      have Hkk := Lib.hid hkk
      clear hx bx hxs bm hkk
      have hck : (k : Int) + 1 ≤ c1 := by omega
      by_cases hcz : c1 = k + 1
      · subst hcz
        go_wp2
        go_loopw [6, 32] (fun v i wx => ∃ (m : Nat) (t : Int), m ≤ (fall q).length - (k + 1) ∧ i = .int .i64 m ∧ v = .int .i64 t ∧ t = kk + sumI (minsI ((k : Int) + 1) (((fall q).drop (k + 1)).take m)) ∧ w1 = wx) (fun _ i _ => (fall q).length - (intOf i).toNat)
        case atStart => exact ⟨0, kk, Nat.zero_le _, rfl, by first | rfl | go_num, by simp [minsI, sumI], rfl⟩
        case round =>
          obtain ⟨m, t, hm, rfl, rfl, ht, rfl⟩ := hrel
          have hbm := Bm.out m
          have ht0 : 0 ≤ t ∧ t ≤ 132 + 12 * m := by omega
          obtain ⟨ht0, ht1⟩ := ht0
          have Ht := Lib.hid ht
          clear ht hbm
          have hml : m = (fall q).length - (k + 1) := by omega
          have hge : ¬ ((m : Int) < (((fall q).length - (k + 1) : Nat) : Int)) := by omega
          have hge2 : ¬ ((m : Int) < ((fall q).length : Int) - ((k : Int) + 1)) := by omega
          have hmost : t = mostI (fall q) (k + 1) := by
            have h1 := Ht.out
            have h2 := Hkk.out
            unfold mostI
            rw [List.take_of_length_le (by rw [List.length_drop]; omega)] at h1
            rw [h1, ← h2]
            have e1 : (((k + 1 : Nat) : Int) * (((k + 1 : Nat) : Int) - 1)) = (((k + 1) * k : Nat) : Int) := by
              rw [show ((k + 1 : Nat) : Int) - 1 = k from by omega, Int.natCast_mul]
            rw [e1]
            have e2 : ((k + 1 : Nat) : Int) = (k : Int) + 1 := by omega
            rw [e2]
          have hsum : s + x = sumI ((fall q).take (k + 1)) := Hxs.out.symm
          by_cases hf : t < s + x
          · have hfail : failAt (fall q) (k + 1) = true := by unfold failAt; rw [← hmost, ← hsum]; exact decide_eq_true hf
            have He := Lib.hid (failsI_at hlt Hg.out hfail)
            clear hmost hsum hfail
            go_wp2
            go_ret
            exact ⟨by rw [He.out]; rfl, hb1⟩
          · have hfail : failAt (fall q) (k + 1) = false := by unfold failAt; rw [← hmost, ← hsum]; exact decide_eq_false hf
            have Hf := Lib.hid hfail
            have Hsum := Lib.hid hsum
            clear hmost hsum hfail
            go_wp2
            go_roundw
            case rel =>
              refine ⟨k + 1, s + x, by omega, by go_num, by go_num, Hsum.out, fun j hj => ?_, by simp⟩
              by_cases hjk : j = k
              · subst hjk; exact Hf.out
              · exact Hg.out j (by omega)
            case measure => simp [intOf]; omega
      · have hcz2 : ¬ (c1 - (k + 1) = 0) := by omega
        go_wp2
        go_loopw [6, 32] (fun v i wx => ∃ (m : Nat) (t : Int), m ≤ (fall q).length - (k + 1) ∧ i = .int .i64 m ∧ v = .int .i64 t ∧ t = kk + sumI (minsI ((k : Int) + 1) (((fall q).drop (k + 1)).take m)) ∧ w1 = wx) (fun _ i _ => (fall q).length - (intOf i).toNat)
        case atStart => exact ⟨0, kk, Nat.zero_le _, rfl, by first | rfl | go_num, by simp [minsI, sumI], rfl⟩
        case round =>
          obtain ⟨m, t, hm, rfl, rfl, ht, rfl⟩ := hrel
          have hbm := Bm.out m
          have ht0 : 0 ≤ t ∧ t ≤ 132 + 12 * m := by omega
          obtain ⟨ht0, ht1⟩ := ht0
          have Ht := Lib.hid ht
          clear ht hbm
          by_cases hmt : m < (fall q).length - (k + 1)
          · obtain ⟨y, hy⟩ := getSome (fall q) (k + 1 + m) (by omega)
            have d1 := own_intAt own1 hy
            have hy0 := isNums_at Hn.out hy
            have hmi : (m : Int) < (((fall q).length - (k + 1) : Nat) : Int) := by omega
            have hmi2 : (m : Int) < ((fall q).length : Int) - ((k : Int) + 1) := by omega
            have Hy := Lib.hid hy
            clear hy
            by_cases hmin : (k : Int) + 1 < y
            · go_wp2_with fail
              refine (l1Least_any _ _ _).mono ?_
              first | rw [if_pos hmin] | rw [if_neg (Int.not_lt.2 hmin)]
              rintro e w3 ⟨rfl, rfl⟩
              go_wp2
              go_roundw
              case rel =>
                refine ⟨m + 1, t + ((k : Int) + 1), by omega, by go_num, by go_num, ?_, by simp⟩
                rw [List.take_add_one, List.getElem?_drop, Hy.out, Option.toList_some, minsI_snoc, sumI_snoc, if_pos (by omega), Ht.out]
                omega
              case measure => simp [intOf]; omega
            · go_wp2_with fail
              refine (l1Least_any _ _ _).mono ?_
              first | rw [if_pos hmin] | rw [if_neg (Int.not_lt.2 hmin)]
              rintro e w3 ⟨rfl, rfl⟩
              go_wp2
              go_roundw
              case rel =>
                refine ⟨m + 1, t + y, by omega, by go_num, by go_num, ?_, by simp⟩
                rw [List.take_add_one, List.getElem?_drop, Hy.out, Option.toList_some, minsI_snoc, sumI_snoc, if_neg (by omega), Ht.out]
                omega
              case measure => simp [intOf]; omega
          · have hml : m = (fall q).length - (k + 1) := by omega
            have hge : ¬ ((m : Int) < (((fall q).length - (k + 1) : Nat) : Int)) := by omega
            have hge2 : ¬ ((m : Int) < ((fall q).length : Int) - ((k : Int) + 1)) := by omega
            have hmost : t = mostI (fall q) (k + 1) := by
              have h1 := Ht.out
              have h2 := Hkk.out
              unfold mostI
              rw [List.take_of_length_le (by rw [List.length_drop]; omega)] at h1
              rw [h1, ← h2]
              have e1 : (((k + 1 : Nat) : Int) * (((k + 1 : Nat) : Int) - 1)) = (((k + 1) * k : Nat) : Int) := by
                rw [show ((k + 1 : Nat) : Int) - 1 = k from by omega, Int.natCast_mul]
              rw [e1]
              have e2 : ((k + 1 : Nat) : Int) = (k : Int) + 1 := by omega
              rw [e2]
            have hsum : s + x = sumI ((fall q).take (k + 1)) := Hxs.out.symm
            by_cases hf : t < s + x
            · have hfail : failAt (fall q) (k + 1) = true := by unfold failAt; rw [← hmost, ← hsum]; exact decide_eq_true hf
              have He := Lib.hid (failsI_at hlt Hg.out hfail)
              clear hmost hsum hfail
              go_wp2
              go_ret
              exact ⟨by rw [He.out]; rfl, hb1⟩
            · have hfail : failAt (fall q) (k + 1) = false := by unfold failAt; rw [← hmost, ← hsum]; exact decide_eq_false hf
              have Hf := Lib.hid hfail
              have Hsum := Lib.hid hsum
              clear hmost hsum hfail
              go_wp2
              go_roundw
              case rel =>
                refine ⟨k + 1, s + x, by omega, by go_num, by go_num, Hsum.out, fun j hj => ?_, by simp⟩
                by_cases hjk : j = k
                · subst hjk; exact Hf.out
                · exact Hg.out j (by omega)
              case measure => simp [intOf]; omega
    · have hkl : k = (fall q).length := by omega
      have He := Lib.hid (failsI_none fun j hj => Hg.out j (by omega))
      have hge : ¬ ((k : Int) + 1 ≤ (fall q).length) := by omega
      have hge2 : ¬ ((k : Int) < (fall q).length) := by omega
      go_wp2
      go_ret
      exact ⟨by rw [He.out]; rfl, hb1⟩

set_option maxHeartbeats 2000000 in
set_option maxRecDepth 100000 in
theorem firstTooGreat_any (q : List Int) (A : Option Addr) (c : Nat) (w : World) (hq : isNums q = true) (hA : CRead w w.heap.size A (icells q)) :
    Calls Try.prog 24 #[.slice A q.length c] w fun e w' => e = .returned (.int .i64 (failsI (fall q))) ∧ Below w.heap.size w w' := by
  have hn := fall_nums hq
  have hl := isNums_len hn
  have hlq := isNums_len hq
  have Hq := Lib.hid hq
  clear hq
  go_enter Try.func24, Try.ntmps24
  go_wp2_with fail
  refine (sortedFalling_any q A c _ (by omega) hA).mono ?_
  rintro e w1 ⟨A1, c1, rfl, own1, hb1⟩
  have hs1 := hb1.size
  obtain ⟨A1', c1', he, hcap, hcm⟩ := own_shape own1
  simp only [Value.slice.injEq] at he
  obtain ⟨rfl, _, rfl⟩ := he
  have Hn := Lib.hid hn
  have hcap' : ((fall q).length : Int) ≤ c1 := by omega
  clear hn
  go_wp2
  go_loopw [4, 15] (fun v i wr => ∃ (k : Nat) (s : Int), k ≤ (fall q).length ∧ i = .int .i64 k ∧ v = .int .i64 s ∧ s = sumI ((fall q).take k) ∧ (∀ j, j < k → failAt (fall q) (j + 1) = false) ∧ w1 = wr) (fun _ i _ => (fall q).length + 1 - (intOf i).toNat)
  case atStart => exact ⟨0, 0, Nat.zero_le _, rfl, rfl, rfl, fun j hj => by omega, rfl⟩
  case round =>
    obtain ⟨k, s, hk, rfl, rfl, hs, hg, rfl⟩ := hrel
    have Hg := Lib.hid hg
    have Hs := Lib.hid hs
    clear hg hs
    by_cases hlt : k < (fall q).length
    · obtain ⟨g, rfl⟩ := own_form own1 (by omega)
      obtain ⟨⟨b0, b1⟩, bx, bk, bk2, bm⟩ := fails_bounds Hn.out hlt
      rw [← Hs.out] at b0 b1
      obtain ⟨x, hx⟩ := getSome (fall q) k hlt
      obtain ⟨hx0, hx1, hxs⟩ := bx x hx
      rw [← Hs.out] at hxs
      have d0 := own_intAt own1 hx
      have hki : (k : Int) + 1 ≤ (fall q).length := by omega
      have hki2 : (k : Int) < (fall q).length := by omega
      have Hx := Lib.hid hx
      have Hxs := Lib.hid hxs
      have Bm := Lib.hid bm
      generalize hkk : (k + 1) * k = kk at *
      have Hkk := Lib.hid hkk
      clear hx bx hxs bm hkk
      have hck : (k : Int) + 1 ≤ c1 := by omega
      by_cases hcz : c1 = k + 1
      · subst hcz
        go_wp2
        go_loopw [8, 33] (fun v i wx => ∃ (m : Nat) (t : Int), m ≤ (fall q).length - (k + 1) ∧ i = .int .i64 m ∧ v = .int .i64 t ∧ t = kk + sumI (minsI ((k : Int) + 1) (((fall q).drop (k + 1)).take m)) ∧ w1 = wx) (fun _ i _ => (fall q).length - (intOf i).toNat)
        case atStart => exact ⟨0, kk, Nat.zero_le _, rfl, by first | rfl | go_num, by simp [minsI, sumI], rfl⟩
        case round =>
          obtain ⟨m, t, hm, rfl, rfl, ht, rfl⟩ := hrel
          have hbm := Bm.out m
          have ht0 : 0 ≤ t ∧ t ≤ 132 + 12 * m := by omega
          obtain ⟨ht0, ht1⟩ := ht0
          have Ht := Lib.hid ht
          clear ht hbm
          have hml : m = (fall q).length - (k + 1) := by omega
          have hge : ¬ ((m : Int) < (((fall q).length - (k + 1) : Nat) : Int)) := by omega
          have hge2 : ¬ ((m : Int) < ((fall q).length : Int) - ((k : Int) + 1)) := by omega
          have hmost : t = mostI (fall q) (k + 1) := by
            have h1 := Ht.out
            have h2 := Hkk.out
            unfold mostI
            rw [List.take_of_length_le (by rw [List.length_drop]; omega)] at h1
            rw [h1, ← h2]
            have e1 : (((k + 1 : Nat) : Int) * (((k + 1 : Nat) : Int) - 1)) = (((k + 1) * k : Nat) : Int) := by
              rw [show ((k + 1 : Nat) : Int) - 1 = k from by omega, Int.natCast_mul]
            rw [e1]
            have e2 : ((k + 1 : Nat) : Int) = (k : Int) + 1 := by omega
            rw [e2]
          have hsum : s + x = sumI ((fall q).take (k + 1)) := Hxs.out.symm
          by_cases hf : t < s + x
          · have hfail : failAt (fall q) (k + 1) = true := by unfold failAt; rw [← hmost, ← hsum]; exact decide_eq_true hf
            have He := Lib.hid (failsI_at hlt Hg.out hfail)
            clear hmost hsum hfail
            go_wp2
            go_ret
            exact ⟨by rw [He.out]; rfl, hb1⟩
          · have hfail : failAt (fall q) (k + 1) = false := by unfold failAt; rw [← hmost, ← hsum]; exact decide_eq_false hf
            have Hf := Lib.hid hfail
            have Hsum := Lib.hid hsum
            clear hmost hsum hfail
            go_wp2
            go_roundw
            case rel =>
              refine ⟨k + 1, s + x, by omega, by go_num, by go_num, Hsum.out, fun j hj => ?_, by simp⟩
              by_cases hjk : j = k
              · subst hjk; exact Hf.out
              · exact Hg.out j (by omega)
            case measure => simp [intOf]; omega
      · have hcz2 : ¬ (c1 - (k + 1) = 0) := by omega
        go_wp2
        go_loopw [8, 33] (fun v i wx => ∃ (m : Nat) (t : Int), m ≤ (fall q).length - (k + 1) ∧ i = .int .i64 m ∧ v = .int .i64 t ∧ t = kk + sumI (minsI ((k : Int) + 1) (((fall q).drop (k + 1)).take m)) ∧ w1 = wx) (fun _ i _ => (fall q).length - (intOf i).toNat)
        case atStart => exact ⟨0, kk, Nat.zero_le _, rfl, by first | rfl | go_num, by simp [minsI, sumI], rfl⟩
        case round =>
          obtain ⟨m, t, hm, rfl, rfl, ht, rfl⟩ := hrel
          have hbm := Bm.out m
          have ht0 : 0 ≤ t ∧ t ≤ 132 + 12 * m := by omega
          obtain ⟨ht0, ht1⟩ := ht0
          have Ht := Lib.hid ht
          clear ht hbm
          by_cases hmt : m < (fall q).length - (k + 1)
          · obtain ⟨y, hy⟩ := getSome (fall q) (k + 1 + m) (by omega)
            have d1 := own_intAt own1 hy
            have hy0 := isNums_at Hn.out hy
            have hmi : (m : Int) < (((fall q).length - (k + 1) : Nat) : Int) := by omega
            have hmi2 : (m : Int) < ((fall q).length : Int) - ((k : Int) + 1) := by omega
            have Hy := Lib.hid hy
            clear hy
            by_cases hmin : (k : Int) + 1 < y
            · go_wp2
              go_roundw
              case rel =>
                refine ⟨m + 1, t + ((k : Int) + 1), by omega, by go_num, by go_num, ?_, by simp⟩
                rw [List.take_add_one, List.getElem?_drop, Hy.out, Option.toList_some, minsI_snoc, sumI_snoc, if_pos (by omega), Ht.out]
                omega
              case measure => simp [intOf]; omega
            · go_wp2
              go_roundw
              case rel =>
                refine ⟨m + 1, t + y, by omega, by go_num, by go_num, ?_, by simp⟩
                rw [List.take_add_one, List.getElem?_drop, Hy.out, Option.toList_some, minsI_snoc, sumI_snoc, if_neg (by omega), Ht.out]
                omega
              case measure => simp [intOf]; omega
          · have hml : m = (fall q).length - (k + 1) := by omega
            have hge : ¬ ((m : Int) < (((fall q).length - (k + 1) : Nat) : Int)) := by omega
            have hge2 : ¬ ((m : Int) < ((fall q).length : Int) - ((k : Int) + 1)) := by omega
            have hmost : t = mostI (fall q) (k + 1) := by
              have h1 := Ht.out
              have h2 := Hkk.out
              unfold mostI
              rw [List.take_of_length_le (by rw [List.length_drop]; omega)] at h1
              rw [h1, ← h2]
              have e1 : (((k + 1 : Nat) : Int) * (((k + 1 : Nat) : Int) - 1)) = (((k + 1) * k : Nat) : Int) := by
                rw [show ((k + 1 : Nat) : Int) - 1 = k from by omega, Int.natCast_mul]
              rw [e1]
              have e2 : ((k + 1 : Nat) : Int) = (k : Int) + 1 := by omega
              rw [e2]
            have hsum : s + x = sumI ((fall q).take (k + 1)) := Hxs.out.symm
            by_cases hf : t < s + x
            · have hfail : failAt (fall q) (k + 1) = true := by unfold failAt; rw [← hmost, ← hsum]; exact decide_eq_true hf
              have He := Lib.hid (failsI_at hlt Hg.out hfail)
              clear hmost hsum hfail
              go_wp2
              go_ret
              exact ⟨by rw [He.out]; rfl, hb1⟩
            · have hfail : failAt (fall q) (k + 1) = false := by unfold failAt; rw [← hmost, ← hsum]; exact decide_eq_false hf
              have Hf := Lib.hid hfail
              have Hsum := Lib.hid hsum
              clear hmost hsum hfail
              go_wp2
              go_roundw
              case rel =>
                refine ⟨k + 1, s + x, by omega, by go_num, by go_num, Hsum.out, fun j hj => ?_, by simp⟩
                by_cases hjk : j = k
                · subst hjk; exact Hf.out
                · exact Hg.out j (by omega)
              case measure => simp [intOf]; omega
    · have hkl : k = (fall q).length := by omega
      have He := Lib.hid (failsI_none fun j hj => Hg.out j (by omega))
      have hge : ¬ ((k : Int) + 1 ≤ (fall q).length) := by omega
      have hge2 : ¬ ((k : Int) < (fall q).length) := by omega
      go_wp2
      go_ret
      exact ⟨by rw [He.out]; rfl, hb1⟩
end Go.Proofs.Ytdlkfejcfnflmaa
/-
  'CanBe', 'FailsAt', 'HangTogether': the model's and the program's, by their contracts.
-/
namespace Go.Proofs.Ytdlkfejcfnflmaa
open Go.RowKit

theorem sumI_bound {q : List Int} (h : isNums q = true) : 0 ≤ sumI q ∧ sumI q ≤ 144 := by
  have hl := isNums_len h
  have hall : ∀ x ∈ q, 0 ≤ x ∧ x ≤ 12 := fun x hx => by have := isNums_mem h x hx; omega
  have h1 := sumI_take_bound (q := q) (m := 12) (by omega) hall q.length
  rw [List.take_length] at h1
  omega

set_option maxHeartbeats 1000000 in
theorem deCan_any (q : List Int) (A : Option Addr) (c : Nat) (w : World) (hq : isNums q = true) (hA : CRead w w.heap.size A (icells q)) :
    Calls Try.prog 21 #[.slice A q.length c] w fun e w' => e = .returned (.bool (canI q)) ∧ Below w.heap.size w w' := by
  have hs := sumI_bound hq
  have Hq := Lib.hid hq
  clear hq
  obtain ⟨s, hse⟩ : ∃ s, sumI q = s := ⟨_, rfl⟩
  rw [hse] at hs
  obtain ⟨hs0, hs1⟩ := hs
  obtain ⟨f, hfe⟩ : ∃ f, failsI (fall q) = f := ⟨_, rfl⟩
  have Hs := Lib.hid hse
  have Hf := Lib.hid hfe
  clear hse hfe
  by_cases hev : s % 2 = 0
  · have e : canI q = decide (f = 0) := by unfold canI; rw [Hs.out, Hf.out, decide_eq_true hev, Bool.true_and]
    rw [e]
    clear e
    go_enter Try.func21, Try.ntmps21
    go_wp2_with fail
    refine (deSum_any q A c _ Hq.out hA).mono ?_
    rw [Hs.out]
    rintro e w' ⟨rfl, rfl⟩
    go_wp2_with fail
    refine (deFails_any q A c _ Hq.out hA).mono ?_
    rw [Hf.out]
    rintro e w2 ⟨rfl, hb2⟩
    go_wp2
    go_ret
    exact ⟨by first | rfl | simp, hb2⟩
  · have e : canI q = false := by unfold canI; rw [Hs.out, decide_eq_false hev, Bool.false_and]
    rw [e]
    clear e
    go_enter Try.func21, Try.ntmps21
    go_wp2_with fail
    refine (deSum_any q A c _ Hq.out hA).mono ?_
    rw [Hs.out]
    rintro e w' ⟨rfl, rfl⟩
    go_wp2
    go_ret
    exact ⟨by first | rfl | simp, Below.refl _ _⟩

set_option maxHeartbeats 1000000 in
theorem canBe_any (q : List Int) (A : Option Addr) (c : Nat) (w : World) (hq : isNums q = true) (hA : CRead w w.heap.size A (icells q)) :
    Calls Try.prog 16 #[.slice A q.length c] w fun e w' => e = .returned (.bool (canI q)) ∧ Below w.heap.size w w' := by
  have hs := sumI_bound hq
  have Hq := Lib.hid hq
  clear hq
  obtain ⟨s, hse⟩ : ∃ s, sumI q = s := ⟨_, rfl⟩
  rw [hse] at hs
  obtain ⟨hs0, hs1⟩ := hs
  obtain ⟨f, hfe⟩ : ∃ f, failsI (fall q) = f := ⟨_, rfl⟩
  have Hs := Lib.hid hse
  have Hf := Lib.hid hfe
  clear hse hfe
  by_cases hev : s % 2 = 0
  · have e : canI q = decide (f = 0) := by unfold canI; rw [Hs.out, Hf.out, decide_eq_true hev, Bool.true_and]
    rw [e]
    clear e
    go_enter Try.func16, Try.ntmps16
    go_wp2_with fail
    refine (sumOf_any q A c _ Hq.out hA).mono ?_
    rw [Hs.out]
    rintro e w' ⟨rfl, rfl⟩
    go_wp2_with fail
    refine (firstTooGreat_any q A c _ Hq.out hA).mono ?_
    rw [Hf.out]
    rintro e w2 ⟨rfl, hb2⟩
    go_wp2
    go_ret
    exact ⟨by first | rfl | simp, hb2⟩
  · have e : canI q = false := by unfold canI; rw [Hs.out, decide_eq_false hev, Bool.false_and]
    rw [e]
    clear e
    go_enter Try.func16, Try.ntmps16
    go_wp2_with fail
    refine (sumOf_any q A c _ Hq.out hA).mono ?_
    rw [Hs.out]
    rintro e w' ⟨rfl, rfl⟩
    go_wp2
    go_ret
    exact ⟨by first | rfl | simp, Below.refl _ _⟩

def resCanBe (q : List Int) : Bool × Bool := if isNums q then (canI q, true) else (false, false)
/-! ## FailsAt -/
def resFailsAt (q : List Int) : Int × Bool := if isNums q then (failsI (fall q), decide (0 < failsI (fall q))) else (0, false)
end Go.Proofs.Ytdlkfejcfnflmaa
/-
  ALL FALLING NUMBERS: both sides, with what the two ask of a list that can be.
-/
namespace Go.Proofs.Ytdlkfejcfnflmaa
open Go.RowKit

theorem specAllNumbers_any (n : Int) (w : World) : Calls Try.prog 5 #[.int .i64 n] w (ReadRowsOk w (resAllNumbers n).1 (resAllNumbers n).2) := specAllNumbers_of deCan_any n w
theorem implAllNumbers_any (n : Int) (w : World) : Calls Try.prog 6 #[.int .i64 n] w (GotRowsOk w (resAllNumbers n).1 (resAllNumbers n).2) := implAllNumbers_of canBe_any n w
theorem specCountNumbers_any (n : Int) (w : World) : Calls Try.prog 10 #[.int .i64 n] w fun e w' => e = .returned (.tuple #[.int .i64 (resCountNumbers n).1, .bool (resCountNumbers n).2]) ∧ Below w.heap.size w w' := specCountNumbers_of deCan_any n w
theorem implCountNumbers_any (n : Int) (w : World) : Calls Try.prog 11 #[.int .i64 n] w fun e w' => e = .returned (.tuple #[.int .i64 (resCountNumbers n).1, .bool (resCountNumbers n).2]) ∧ Below w.heap.size w w' := implCountNumbers_of canBe_any n w
end Go.Proofs.Ytdlkfejcfnflmaa
/-
  THE PROGRAM's HEAD, LOOKED AT ONCE: which make it is, and that a call may enter it. (The head's text is long: the kernel must not read it twice.)
-/
namespace Go.Proofs.Ytdlkfejcfnflmaa

theorem make_of {P : Program} {rest : List (List Char)} (h : behindMainWord (wordsSigns P.initOrder.toList) = "cut".toList :: rest) : P.make = some .cut := by
  unfold Program.make
  rw [h]
  rfl
theorem strip_cut (rest : List (List Char)) : stripLifts liftWords ("cut".toList :: rest) = ([], "cut".toList :: rest) := rfl
theorem lifts_of {P : Program} {rest : List (List Char)} (h : behindMainWord (wordsSigns P.initOrder.toList) = "cut".toList :: rest) : P.headLifts = [] := by
  unfold Program.headLifts
  rw [h, strip_cut]
  rfl
theorem final_of {P : Program} {rest : List (List Char)} (h : behindMainWord (wordsSigns P.initOrder.toList) = "cut".toList :: rest) : P.liftsFinal = false := by
  unfold Program.liftsFinal
  rw [lifts_of h, h]
  rfl
theorem enter_of {P : Program} {rest : List (List Char)} (h : behindMainWord (wordsSigns P.initOrder.toList) = "cut".toList :: rest) (h1 : P.laysLater = false) (h2 : P.bearsReflect = false) (h3 : P.doorFits [] = true) : P.mayEnter = true := by
  unfold Program.mayEnter
  rw [h]
  show (_ || _ || _) = true
  rw [strip_cut, h1, h2, h3]
  rfl
end Go.Proofs.Ytdlkfejcfnflmaa
/-
  THE PROGRAM's CLOSED FACTS, EACH ONCE; and how a row's facts are put together out of them.
-/
namespace Go.Proofs.Ytdlkfejcfnflmaa
open Go.ChangeShapes Go.WideShapes Go.ChangeAt Go.RowKit

def headSigns : List Char := ([104, 97, 114, 110, 101, 115, 115, 32, 55, 48, 50, 53, 99, 49, 50, 100, 53, 55, 50, 54, 49, 55, 51, 102, 52, 54, 50, 55, 48, 54, 51, 101, 49, 50, 102, 52, 99, 48, 51, 55, 49, 52, 50, 97, 53, 53, 55, 99, 55, 50, 52, 49, 98, 57, 50, 49, 51, 52, 53, 56, 57, 54, 51, 97, 97, 49, 56, 55, 99, 48, 48, 49, 32, 99, 117, 116, 32, 97, 116, 32, 108, 111, 111, 112, 46, 101, 120, 97, 109, 112, 108, 101, 47, 103, 48, 49, 50, 53, 55, 47, 108, 97, 119, 115, 46, 70, 110, 69, 120, 97, 99, 116, 65, 108, 108, 78, 117, 109, 98, 101, 114, 115, 32, 108, 111, 111, 112, 46, 101, 120, 97, 109, 112, 108, 101, 47, 103, 48, 49, 50, 53, 55, 47, 108, 97, 119, 115, 46, 70, 110, 69, 120, 97, 99, 116, 67, 111, 117, 110, 116, 78, 117, 109, 98, 101, 114, 115] : List Nat).map Char.ofNat
set_option maxRecDepth 100000 in
theorem Try.initOrder_is : Try.prog.initOrder = String.ofList headSigns := by kernel_rfl
theorem Try.initOrder_signs : Try.prog.initOrder.toList = headSigns := by rw [Try.initOrder_is]; exact String.toList_ofList
set_option maxRecDepth 100000 in
theorem head_words : (behindMainWord (wordsSigns headSigns)).take 1 = ["cut".toList] := by kernel_rfl
theorem Try.words : ∃ rest, behindMainWord (wordsSigns Try.prog.initOrder.toList) = "cut".toList :: rest := by
  rw [Try.initOrder_signs]
  have h := List.take_append_drop 1 (behindMainWord (wordsSigns headSigns))
  rw [head_words] at h
  exact ⟨_, h.symm⟩
theorem Try.make : Try.prog.make = some .cut := by obtain ⟨_, h⟩ := Try.words; exact make_of h
theorem Try.liftsFinal : Try.prog.liftsFinal = false := by obtain ⟨_, h⟩ := Try.words; exact final_of h
theorem Try.laysLater : Try.prog.laysLater = false := by kernel_rfl
theorem Try.bearsReflect : Try.prog.bearsReflect = false := by kernel_rfl
theorem Try.doorFits : Try.prog.doorFits [] = true := by kernel_rfl
theorem Try.mayEnter : Try.prog.mayEnter = true := by obtain ⟨_, h⟩ := Try.words; exact enter_of h Try.laysLater Try.bearsReflect Try.doorFits
theorem Try.mapsRowed : mapsRowed Try.prog = true := by kernel_rfl
theorem Try.stops : (Try.prog.stops == []) = true := by kernel_rfl
theorem Try.stopKnobs : (Try.prog.stopKnobs == []) = true := by kernel_rfl
theorem Try.plainKeys : Try.prog.plainKeys = true := by kernel_rfl
theorem Try.stopsHeard : Try.prog.stopsHeard = true := by kernel_rfl

/-- What the types of one law give: closed facts on its parameters and its result. -/
def typeFacts (P : Program) (fn : Func) (s : ChangeSpec) (c : OpenClaim) : Bool :=
  fn.params.all (P.readableRec ·) && namedTie P c.named s.vars && (c.stops == []) && (c.knobs == []) &&
  (c.maps == (fn.params.toList ++ s.plain.varTypes P).any (P.mapsRec ·)) && (c.ifaces == (fn.params.toList ++ s.plain.varTypes P).any (P.ifacesRec ·)) && (c.mapsOut == P.mapsAmong fn.resultTypes.toList) &&
  (c.loops == (fn.params.toList ++ s.plain.varTypes P).any (P.loopsFrom ·)) && (c.wideKeys == (fn.params.toList ++ s.plain.varTypes P ++ fn.resultTypes.toList).any (P.wideKeysFrom ·)) &&
  s.vars.all (P.varReadable ·) && fn.resultTypes.all (fun t => P.readableRec t && decide (t < P.types.size)) && (c.ifacesOut == fn.resultTypes.toList.any (P.ifacesRec ·)) && (c.loopsOut == fn.resultTypes.toList.any (P.loopsFrom ·)) && c.shortTexts.isNone &&
  (c.kinds == (if c.domain.isEmpty then [] else fn.params.toList.map fun t => match P.underlying t with | some (.int k) => some k | _ => none)) && (c.pinned == c.pinnedBy) &&
  (c.veiled == (fn.params.toList ++ s.plain.varTypes P ++ fn.resultTypes.toList).any (P.veiledRec ·)) && c.veiledFits P fn.params.toList (fn.params.toList ++ s.plain.varTypes P ++ fn.resultTypes.toList)
theorem joined_all {P : Program} {f : FuncId} {fn : Func} {s : ChangeSpec} {c : OpenClaim} (k1 : c.wf (OpenSpec.ofChange s) = true) (kt : typeFacts P fn s c = true)
    (k10 : (c.inPlace == P.inPlace f) = true) (k11 : (c.unfollowed == P.unfollowed f) = true) (k12 : (c.recurses == P.recurses f) = true) (k13 : (c.named == P.varsNamed f) = true)
    (e2 : laidOutB P = true) (e3 : mapsRowed P = true) (e7 : (P.stops == []) = true) (e9 : (P.stopKnobs == []) = true) (e22 : (c.plainKeys == P.plainKeys) = true) (e23 : P.stopsHeard = true) (e24 : P.mayEnter = true)
    (e24b : (c.lifted == P.liftsFinal) = true) (e24c : (P.make == some c.make) = true) : joinedFacts P f fn s c = true := by
  unfold typeFacts at kt
  unfold joinedFacts
  simp only [Bool.and_eq_true] at kt ⊢
  obtain ⟨⟨⟨⟨⟨⟨⟨⟨⟨⟨⟨⟨⟨⟨⟨⟨⟨t1, t2⟩, t3⟩, t4⟩, t5⟩, t6⟩, t7⟩, t8⟩, t9⟩, t10⟩, t11⟩, t12⟩, t13⟩, t14⟩, t15⟩, t16⟩, t17⟩, t18⟩ := kt
  exact ⟨⟨⟨⟨⟨⟨⟨⟨⟨⟨⟨⟨⟨⟨⟨⟨⟨⟨⟨⟨⟨⟨⟨⟨⟨⟨⟨⟨⟨⟨⟨k1, e2⟩, e3⟩, t1⟩, t2⟩, t3⟩, e7⟩, t4⟩, e9⟩, k10⟩, k11⟩, k12⟩, k13⟩, t5⟩, t6⟩, t7⟩, t8⟩, t9⟩, t10⟩, t11⟩, t12⟩, t13⟩, e22⟩, t14⟩, e23⟩, e24⟩, e24b⟩, e24c⟩, t15⟩, t16⟩, t17⟩, t18⟩
theorem joined_of {f : FuncId} {fn : Func} {s : ChangeSpec} {c : OpenClaim} (k1 : c.wf (OpenSpec.ofChange s) = true) (kt : typeFacts Try.prog fn s c = true)
    (k10 : (c.inPlace == Try.prog.inPlace f) = true) (k11 : (c.unfollowed == Try.prog.unfollowed f) = true) (k12 : (c.recurses == Try.prog.recurses f) = true) (k13 : (c.named == Try.prog.varsNamed f) = true)
    (k22 : c.plainKeys = true) (k24b : c.lifted = false) (k24c : c.make = .cut) : joinedFacts Try.prog f fn s c = true :=
  joined_all k1 kt k10 k11 k12 k13 Try.laidOut Try.mapsRowed Try.stops Try.stopKnobs (by rw [k22, Try.plainKeys]; rfl) Try.stopsHeard Try.mayEnter (by rw [k24b, Try.liftsFinal]; rfl) (by rw [k24c, Try.make]; rfl)
end Go.Proofs.Ytdlkfejcfnflmaa
