/-
  'TreeOfNumbers' of the model, by its contract.
-/
import Derived.Test.YtaemodpolopcfaaTreeQ
import Derived.Test.YtaemodpolopcfaaOwn
import Derived.Test.YtaemodpolopcfaaNumsW
import Derived.Test.YtaemodpolopcfaaTable
import Derived.Test.YtaemodpolopcfaaJoinT
namespace Go.Proofs.Ytaemodpolopcfaa
open Go.RowKit

/-- the first one with more than 1 left lies at u, or there is none and u is how many there are -/
structure KindB (l : List Int) (a b u : Nat) : Prop where
  le : u ≤ l.length
  ne : a ≠ b
  lt : b < l.length
  one : ∀ (j : Nat) (y : Int), j < u → l[j]? = some y → ¬ 1 < y
  hit : u < l.length → u = b ∧ ∀ y : Int, l[b]? = some y → 1 < y
  none : u = l.length → l[b]? = some 1 ∧ ∀ j, j ≠ a → l[j]? = some 1 → j = b
theorem kindB {l : List Int} {a b : Nat} (h : IsB l a b) : ∃ u, KindB l a b u := by
  obtain ⟨x0, hx0, _⟩ := h.val
  have hbl := (List.getElem?_eq_some_iff.1 hx0).1
  rcases h.2 with ⟨x, hx, h1, h2⟩ | ⟨h1, h2, h3⟩
  · exact ⟨b, by omega, h.1, hbl, h2, fun _ => ⟨rfl, fun y hy => by rw [hx] at hy; simp only [Option.some.injEq] at hy; omega⟩, fun e => by omega⟩
  · exact ⟨l.length, Nat.le_refl _, h.1, hbl, fun j y _ hy => h1 j y hy, fun e => by omega, fun _ => ⟨h2, h3⟩⟩
theorem gb_setCell (w : World) (p : Addr) (v : Value) : w.grownBy (w.setCell p v) (some p.block) := ⟨rfl, rfl, rfl, by simp, fun i _ hi => Below.heap_setCell w _ _ i (fun e => hi (by rw [e]))⟩
theorem tree_not {q : List Int} (h : isNums q = false ∨ q.length < 2 ∨ hasI q 0 = true ∨ sumI q ≠ 2 * ((q.length : Int) - 1)) : resTreeOfNumbers q = (0, [], false) := by
  have : treeI q = false := by
    rw [Bool.eq_false_iff]
    intro ht
    obtain ⟨h1, h2, h3, h4⟩ := treeI_parts ht
    rcases h with h | h | h | h
    · rw [h1] at h; cases h
    · omega
    · rw [h3] at h; cases h
    · exact h h4
  unfold resTreeOfNumbers
  rw [this]
  rfl
theorem tree_is {q : List Int} (h1 : isNums q = true) (h2 : 2 ≤ q.length) (h3 : hasI q 0 = false) (h4 : sumI q = 2 * ((q.length : Int) - 1)) : treeI q = true := by
  unfold treeI
  rw [h1, h3, decide_eq_true h2, decide_eq_true h4]
  rfl

set_option maxHeartbeats 8000000 in
set_option maxRecDepth 100000 in
theorem specTreeOfNumbers_any (q : List Int) (A : Option Addr) (c : Nat) (w : World) (hl : q.length ≤ 1048576) (hA : CRead w w.heap.size A (icells q)) :
    Calls Try.prog 30 #[.slice A q.length c] w (GotPartyOk w (resTreeOfNumbers q).1 (resTreeOfNumbers q).2.1 (resTreeOfNumbers q).2.2) := by
  generalize hW : w.alloc (Obj.cells #[.int .i64 0, .slice none 0 0] 29) = W
  have X0 : W.cell? ⟨w.heap.size, 0, none⟩ = some (.int .i64 0) := by rw [← hW]; simp
  have X1 : W.cell? ⟨w.heap.size, 1, none⟩ = some (.slice none 0 0) := by rw [← hW]; simp
  have Z0 : W.frozen? ⟨w.heap.size, 0, none⟩ = false := by rw [← hW]; simp
  have Z1 : W.frozen? ⟨w.heap.size, 1, none⟩ = false := by rw [← hW]; simp
  have kW : Below w.heap.size w W := by rw [← hW]; go_grown
  have sW1 : w.heap.size < W.heap.size := by rw [← hW]; simp
  have RA := (hA.below kW (Nat.le_refl _)).more kW.size
  obtain ⟨r, hres⟩ : ∃ r, resTreeOfNumbers q = r := ⟨_, rfl⟩
  rw [hres]
  have Hres := Lib.hid hres
  have HW := Lib.hid hW
  clear hres hW
  cases hn : isNums q with
  | false =>
    have Er := Lib.hid (show r = (0, [], false) by rw [← Hres.out]; exact tree_not (.inl hn))
    have Hn := Lib.hid hn
    clear hn
    go_enter Try.func30, Try.ntmps30
    go_wp2_with fail
    rw [HW.out]
    refine (deGood_any q A c _ hl RA).mono ?_
    rw [Hn.out]
    rintro e w' ⟨rfl, rfl⟩
    go_wp2
    refine bodyPost_ret (v := .tuple #[.agg #[.int .i64 0, .slice none 0 0], .bool false]) (by simp [results, Try.results30, go_sem, X0, X1]) rfl ?_
    rw [Er.out]
    exact ⟨none, 0, rfl, World.ownsRow_nil _ _ _ _, (kW.setCell (p := ⟨w.heap.size, 0, none⟩) (by simp) _).setCell (p := ⟨w.heap.size, 1, none⟩) (by simp) _⟩
  | true =>
    have Hn := Lib.hid hn
    have h12 := isNums_len hn
    have hsb := sumI_take_bound (q := q) (m := 12) (by omega) (fun x hx => by have := isNums_mem hn x hx; omega) q.length
    rw [List.take_length] at hsb
    clear hn
    by_cases h2 : q.length < 2
    · have Er := Lib.hid (show r = (0, [], false) by rw [← Hres.out]; exact tree_not (.inr (.inl h2)))
      have h2' : (q.length : Int) < 2 := by omega
      go_enter Try.func30, Try.ntmps30
      go_wp2_with fail
      rw [HW.out]
      refine (deGood_any q A c _ hl RA).mono ?_
      rw [Hn.out]
      rintro e w' ⟨rfl, rfl⟩
      go_wp2
      refine bodyPost_ret (v := .tuple #[.agg #[.int .i64 0, .slice none 0 0], .bool false]) (by simp [results, Try.results30, go_sem, X0, X1]) rfl ?_
      rw [Er.out]
      exact ⟨none, 0, rfl, World.ownsRow_nil _ _ _ _, (kW.setCell (p := ⟨w.heap.size, 0, none⟩) (by simp) _).setCell (p := ⟨w.heap.size, 1, none⟩) (by simp) _⟩
    · have h2' : ¬ ((q.length : Int) < 2) := by omega
      cases h0 : hasI q 0 with
      | true =>
        have Er := Lib.hid (show r = (0, [], false) by rw [← Hres.out]; exact tree_not (.inr (.inr (.inl h0))))
        have H0 := Lib.hid h0
        clear h0
        go_enter Try.func30, Try.ntmps30
        go_wp2_with fail
        rw [HW.out]
        refine (deGood_any q A c _ hl RA).mono ?_
        rw [Hn.out]
        rintro e w' ⟨rfl, rfl⟩
        go_wp2_with fail
        refine (l1Has_any q 0 A c _ hl RA).mono ?_
        rw [H0.out]
        rintro e w' ⟨rfl, rfl⟩
        go_wp2
        refine bodyPost_ret (v := .tuple #[.agg #[.int .i64 0, .slice none 0 0], .bool false]) (by simp [results, Try.results30, go_sem, X0, X1]) rfl ?_
        rw [Er.out]
        exact ⟨none, 0, rfl, World.ownsRow_nil _ _ _ _, (kW.setCell (p := ⟨w.heap.size, 0, none⟩) (by simp) _).setCell (p := ⟨w.heap.size, 1, none⟩) (by simp) _⟩
      | false =>
        have H0 := Lib.hid h0
        clear h0
        obtain ⟨s, hs⟩ : ∃ s, sumI q = s := ⟨_, rfl⟩
        rw [hs] at hsb
        have Hs := Lib.hid hs
        obtain ⟨hsb0, hsb1⟩ := hsb
        by_cases h4 : s = 2 * ((q.length : Int) - 1)
        · have Ht := Lib.hid (tree_is Hn.out (by omega) H0.out (by rw [hs]; exact h4))
          have Er := Lib.hid (show r = ((q.length : Int), sortP (stP q (q.length - 1)), true) by rw [← Hres.out]; unfold resTreeOfNumbers; rw [Ht.out, if_pos rfl])
          clear hs
          go_enter Try.func30, Try.ntmps30
          go_wp2_with fail
          rw [HW.out]
          refine (deGood_any q A c _ hl RA).mono ?_
          rw [Hn.out]
          rintro e w' ⟨rfl, rfl⟩
          go_wp2_with fail
          refine (l1Has_any q 0 A c _ hl RA).mono ?_
          rw [H0.out]
          rintro e w' ⟨rfl, rfl⟩
          go_wp2_with fail
          refine (deSum_any q A c _ Hn.out RA).mono ?_
          rw [Hs.out]
          rintro e w' ⟨rfl, rfl⟩
          subst h4
          go_wp2_with fail
          refine (l1Own_any q A c _ hl (by omega) RA).mono ?_
          rintro e w3 ⟨A3, c3, rfl, own3, hb3⟩
          have s3 := hb3.size
          have hnil : isP (q.length : Int) [] = true := by simp [isP]; omega
          have Hnil := Lib.hid hnil
          obtain ⟨gl, rfl⟩ := own_form own3 (by omega)
          have hl3 := own_lt own3
          clear hnil
          go_wp2_with fail
          refine (paTable_any (q.length : Int) [] none 0 _ Hnil.out CRead.nil).mono ?_
          rw [Int.toNat_natCast]
          rintro e w4 ⟨A4, c4, G, rfl, tab4, hb4⟩
          have s4 := hb4.size
          have g4 := hb3.trans (hb4.mono s3)
          have own4 := own_below own3 hb4 (Nat.le_refl _)
          obtain ⟨gt, rfl⟩ := own_form tab4.own (by omega)
          clear own3
          have tab0 := tab4.congr (t' := stT q 0) (fun i j _ _ => congrFun (congrFun adj_nil i) j)
          have hgl : gl < w3.heap.size := hl3.2
          have HX0 := Lib.hid X0
          have HX1 := Lib.hid X1
          have HZ0 := Lib.hid Z0
          have HZ1 := Lib.hid Z1
          clear tab4 hb4 hb3 X0 X1 Z0 Z1
          go_wp2
          go_loopw [7] (fun i wr => ∃ k : Nat, k ≤ q.length - 1 ∧ i = .int .i64 k ∧ wr.ownsRow W.heap.size 3 1 (.slice (some ⟨gl, 0, none⟩) q.length c3) q.length (icells (stL q k)) ∧ TabG wr w3.heap.size (.slice (some ⟨gt, 0, none⟩) q.length c4) q.length q.length G (stT q k) ∧ Below W.heap.size W wr) (fun i _ => q.length - (intOf i).toNat)
          case atStart => exact ⟨0, Nat.zero_le _, rfl, own4, tab0, g4⟩
          case round =>
            clear own4 tab0 g4 s4
            obtain ⟨k, hk, rfl, own, tab, hb⟩ := hrel
            have hs := hb.size
            by_cases hlt : k + 1 < q.length
            · have hki : (k : Int) < (q.length : Int) - 1 := by omega
              obtain ⟨_, hIsA, hIsB⟩ := tree_left Ht.out k hlt
              obtain ⟨u, KB⟩ := kindB hIsB
              obtain ⟨ha, hb2, hab, h1, ⟨x, hx, hx0, hx22⟩, hLr⟩ := tree_step Ht.out hlt
              have hLl := stL_length q k
              have Hnx := Lib.hid (show stL q (k + 1) = ((stL q k).set (stA q k) 0).set (stB q k) (x - 1) from stepL_at hab h1 hx)
              have HnT := Lib.hid (show stT q (k + 1) = upd2 (stT q k) (stA q k) (stB q k) true from rfl)
              have hno := hIsA.2
              clear hIsA hIsB
              generalize stL q k = L at *
              generalize stT q k = T at *
              generalize stA q k = a at *
              generalize stB q k = b at *
              have KBl := KB.le
              rw [hLl] at KBl
              have Hone := Lib.hid KB.one
              have Hhit := Lib.hid (show u < q.length → u = b ∧ ∀ y : Int, L[b]? = some y → 1 < y by have := KB.hit; rwa [hLl] at this)
              have Hnone := Lib.hid (show u = q.length → L[b]? = some 1 ∧ ∀ j, j ≠ a → L[j]? = some 1 → j = b by have := KB.none; rwa [hLl] at this)
              have HLr := Lib.hid hLr
              have Hno := Lib.hid hno
              have H1 := Lib.hid h1
              have Hx := Lib.hid hx
              have Tab := Lib.hid tab
              have Hb := Lib.hid hb
              have hLl' := Lib.hid hLl
              clear KB hLr hno h1 hx tab hb hLl
              obtain ⟨wo, rfl⟩ : ∃ wo, wo = wr := ⟨wr, rfl⟩
              go_wp2
              go_loop [8, 9, 49] (fun av bv i => ∃ (m : Nat) (x1 x2 : Int), m ≤ q.length ∧ i = .int .i64 m ∧ av = .int .i64 x1 ∧ bv = .int .i64 x2 ∧ (m ≤ a → x1 = -1) ∧ (a < m → x1 = a) ∧ (m ≤ u → x2 = -1) ∧ (u < m → x2 = u)) (fun _ _ i => q.length - (intOf i).toNat)
              case atStart => exact ⟨0, -1, -1, Nat.zero_le _, rfl, rfl, rfl, fun _ => rfl, fun h => by omega, fun _ => rfl, fun h => by omega⟩
              case round =>
                obtain ⟨m, x1, x2, hm, rfl, rfl, rfl, e1, e2, e3, e4⟩ := hrel
                by_cases hmt : m < q.length
                · obtain ⟨y, hy⟩ := getSome L m (by rw [hLl'.out]; exact hmt)
                  have d0 := own_intAt own hy
                  have hmi : (m : Int) < (q.length : Int) := by omega
                  have f1 : m < a → y ≠ 1 := fun h e => Hno.out m h (by rw [hy, e])
                  have f2 : m = a → y = 1 := fun h => by have := H1.out; rw [← h, hy] at this; simpa using this
                  have f3 : m < u → ¬ 1 < y := fun h => by have := Hone.out m y h hy; omega
                  have f4 : m = u → 1 < y := fun h => by have := Hhit.out (by omega); exact this.2 y (by rw [← this.1, ← h]; exact hy)
                  clear hy
                  by_cases c1 : m < a
                  · have z1 : x1 = -1 := e1 (by omega)
                    have z2 : ¬ y = 1 := f1 c1
                    have z2b : (y == 1) = false := beq_eq_false_iff_ne.2 z2
                    subst z1
                    by_cases g1 : m < u
                    · have z3 : x2 = -1 := e3 (by omega)
                      have z4 : ¬ 1 < y := f3 g1
                      have z4b : decide (1 < y) = false := decide_eq_false z4
                      subst z3
                      clear f1 f2 f3 f4
                      go_wp2
                      go_round
                      case rel => exact ⟨m + 1, _, _, by omega, by go_num, rfl, rfl, fun h => by first | omega | (have := G2.out; omega) | (have := C2.out; omega), fun h => by first | omega | (have := G2.out; omega) | (have := C2.out; omega), fun h => by first | omega | (have := G2.out; omega) | (have := C2.out; omega), fun h => by first | omega | (have := G2.out; omega) | (have := C2.out; omega)⟩
                      case measure => simp [intOf]; omega
                    · by_cases g2 : m = u
                      · have z3 : x2 = -1 := e3 (by omega)
                        have z4 : 1 < y := f4 g2
                        have G2 := Lib.hid g2
                        have z4b : decide (1 < y) = true := decide_eq_true z4
                        clear g2
                        subst z3
                        clear f1 f2 f3 f4
                        go_wp2
                        go_round
                        case rel => exact ⟨m + 1, _, _, by omega, by go_num, rfl, rfl, fun h => by first | omega | (have := G2.out; omega) | (have := C2.out; omega), fun h => by first | omega | (have := G2.out; omega) | (have := C2.out; omega), fun h => by first | omega | (have := G2.out; omega) | (have := C2.out; omega), fun h => by first | omega | (have := G2.out; omega) | (have := C2.out; omega)⟩
                        case measure => simp [intOf]; omega
                      · have z3 : x2 = u := e4 (by omega)
                        subst z3
                        clear f1 f2 f3 f4
                        cases g3 : decide (1 < y)
                        · go_wp2
                          go_round
                          case rel => exact ⟨m + 1, _, _, by omega, by go_num, rfl, rfl, fun h => by first | omega | (have := G2.out; omega) | (have := C2.out; omega), fun h => by first | omega | (have := G2.out; omega) | (have := C2.out; omega), fun h => by first | omega | (have := G2.out; omega) | (have := C2.out; omega), fun h => by first | omega | (have := G2.out; omega) | (have := C2.out; omega)⟩
                          case measure => simp [intOf]; omega
                        · go_wp2
                          go_round
                          case rel => exact ⟨m + 1, _, _, by omega, by go_num, rfl, rfl, fun h => by first | omega | (have := G2.out; omega) | (have := C2.out; omega), fun h => by first | omega | (have := G2.out; omega) | (have := C2.out; omega), fun h => by first | omega | (have := G2.out; omega) | (have := C2.out; omega), fun h => by first | omega | (have := G2.out; omega) | (have := C2.out; omega)⟩
                          case measure => simp [intOf]; omega
                  · by_cases c2 : m = a
                    · have z1 : x1 = -1 := e1 (by omega)
                      have z2 : y = 1 := f2 c2
                      have C2 := Lib.hid c2
                      have z2b : (y == 1) = true := beq_iff_eq.2 z2
                      clear c2
                      subst z1
                      by_cases g1 : m < u
                      · have z3 : x2 = -1 := e3 (by omega)
                        have z4 : ¬ 1 < y := f3 g1
                        have z4b : decide (1 < y) = false := decide_eq_false z4
                        subst z3
                        clear f1 f2 f3 f4
                        go_wp2
                        go_round
                        case rel => exact ⟨m + 1, _, _, by omega, by go_num, rfl, rfl, fun h => by first | omega | (have := G2.out; omega) | (have := C2.out; omega), fun h => by first | omega | (have := G2.out; omega) | (have := C2.out; omega), fun h => by first | omega | (have := G2.out; omega) | (have := C2.out; omega), fun h => by first | omega | (have := G2.out; omega) | (have := C2.out; omega)⟩
                        case measure => simp [intOf]; omega
                      · by_cases g2 : m = u
                        · exact absurd (f4 g2) (by omega)
                        · have z3 : x2 = u := e4 (by omega)
                          subst z3
                          clear f1 f2 f3 f4
                          go_wp2
                          go_round
                          case rel => exact ⟨m + 1, _, _, by omega, by go_num, rfl, rfl, fun h => by first | omega | (have := G2.out; omega) | (have := C2.out; omega), fun h => by first | omega | (have := G2.out; omega) | (have := C2.out; omega), fun h => by first | omega | (have := G2.out; omega) | (have := C2.out; omega), fun h => by first | omega | (have := G2.out; omega) | (have := C2.out; omega)⟩
                          case measure => simp [intOf]; omega
                    · have z1 : x1 = a := e2 (by omega)
                      subst z1
                      by_cases c3 : y = 1
                      · have z2b : (y == 1) = true := beq_iff_eq.2 c3
                        by_cases g1 : m < u
                        · have z3 : x2 = -1 := e3 (by omega)
                          have z4 : ¬ 1 < y := f3 g1
                          have z4b : decide (1 < y) = false := decide_eq_false z4
                          subst z3
                          clear f1 f2 f3 f4
                          go_wp2
                          go_round
                          case rel => exact ⟨m + 1, _, _, by omega, by go_num, rfl, rfl, fun h => by first | omega | (have := G2.out; omega) | (have := C2.out; omega), fun h => by first | omega | (have := G2.out; omega) | (have := C2.out; omega), fun h => by first | omega | (have := G2.out; omega) | (have := C2.out; omega), fun h => by first | omega | (have := G2.out; omega) | (have := C2.out; omega)⟩
                          case measure => simp [intOf]; omega
                        · by_cases g2 : m = u
                          · exact absurd (f4 g2) (by omega)
                          · have z3 : x2 = u := e4 (by omega)
                            subst z3
                            clear f1 f2 f3 f4
                            go_wp2
                            go_round
                            case rel => exact ⟨m + 1, _, _, by omega, by go_num, rfl, rfl, fun h => by first | omega | (have := G2.out; omega) | (have := C2.out; omega), fun h => by first | omega | (have := G2.out; omega) | (have := C2.out; omega), fun h => by first | omega | (have := G2.out; omega) | (have := C2.out; omega), fun h => by first | omega | (have := G2.out; omega) | (have := C2.out; omega)⟩
                            case measure => simp [intOf]; omega
                      · have z2b : (y == 1) = false := beq_eq_false_iff_ne.2 c3
                        by_cases g1 : m < u
                        · have z3 : x2 = -1 := e3 (by omega)
                          have z4 : ¬ 1 < y := f3 g1
                          have z4b : decide (1 < y) = false := decide_eq_false z4
                          subst z3
                          clear f1 f2 f3 f4
                          go_wp2
                          go_round
                          case rel => exact ⟨m + 1, _, _, by omega, by go_num, rfl, rfl, fun h => by first | omega | (have := G2.out; omega) | (have := C2.out; omega), fun h => by first | omega | (have := G2.out; omega) | (have := C2.out; omega), fun h => by first | omega | (have := G2.out; omega) | (have := C2.out; omega), fun h => by first | omega | (have := G2.out; omega) | (have := C2.out; omega)⟩
                          case measure => simp [intOf]; omega
                        · by_cases g2 : m = u
                          · have z3 : x2 = -1 := e3 (by omega)
                            have z4 : 1 < y := f4 g2
                            have G2 := Lib.hid g2
                            have z4b : decide (1 < y) = true := decide_eq_true z4
                            clear g2
                            subst z3
                            clear f1 f2 f3 f4
                            go_wp2
                            go_round
                            case rel => exact ⟨m + 1, _, _, by omega, by go_num, rfl, rfl, fun h => by first | omega | (have := G2.out; omega) | (have := C2.out; omega), fun h => by first | omega | (have := G2.out; omega) | (have := C2.out; omega), fun h => by first | omega | (have := G2.out; omega) | (have := C2.out; omega), fun h => by first | omega | (have := G2.out; omega) | (have := C2.out; omega)⟩
                            case measure => simp [intOf]; omega
                          · have z3 : x2 = u := e4 (by omega)
                            subst z3
                            clear f1 f2 f3 f4
                            cases g3 : decide (1 < y)
                            · go_wp2
                              go_round
                              case rel => exact ⟨m + 1, _, _, by omega, by go_num, rfl, rfl, fun h => by first | omega | (have := G2.out; omega) | (have := C2.out; omega), fun h => by first | omega | (have := G2.out; omega) | (have := C2.out; omega), fun h => by first | omega | (have := G2.out; omega) | (have := C2.out; omega), fun h => by first | omega | (have := G2.out; omega) | (have := C2.out; omega)⟩
                              case measure => simp [intOf]; omega
                            · go_wp2
                              go_round
                              case rel => exact ⟨m + 1, _, _, by omega, by go_num, rfl, rfl, fun h => by first | omega | (have := G2.out; omega) | (have := C2.out; omega), fun h => by first | omega | (have := G2.out; omega) | (have := C2.out; omega), fun h => by first | omega | (have := G2.out; omega) | (have := C2.out; omega), fun h => by first | omega | (have := G2.out; omega) | (have := C2.out; omega)⟩
                              case measure => simp [intOf]; omega
                · have hmn : m = q.length := by omega
                  have hge : ¬ ((m : Int) < (q.length : Int)) := by omega
                  have z1 : x1 = a := e2 (by omega)
                  subst z1
                  clear e1 e2
                  have z3 : u < q.length → x2 = b := fun h => by have h1 := Hhit.out h; have h2 := e4 (by omega); omega
                  have z4 : u = q.length → x2 = -1 := fun h => e3 (by omega)
                  have Z3 := Lib.hid z3
                  have Z4 := Lib.hid z4
                  clear e3 e4 hmn hge hm z3 z4
                  have hge : ¬ ((m : Int) < (q.length : Int)) := by omega
                  clear hmt
                  go_wp2
                  clear hge
                  go_loop [9, 71] (fun bv i => ∃ (m : Nat) (x2 : Int), m ≤ q.length ∧ i = .int .i64 m ∧ bv = .int .i64 x2 ∧ (u < q.length → x2 = b) ∧ (u = q.length → (m ≤ b → x2 = -1) ∧ (b < m → x2 = b))) (fun _ i => q.length - (intOf i).toNat)
                  case atStart => exact ⟨0, x2, Nat.zero_le _, rfl, rfl, Z3.out, fun h => ⟨fun _ => Z4.out h, fun h' => by omega⟩⟩
                  case round =>
                    clear Z3 Z4
                    obtain ⟨m, x2, hm, rfl, rfl, e1, e2⟩ := hrel
                    by_cases hmt : m < q.length
                    · obtain ⟨y, hy⟩ := getSome L m (by rw [hLl'.out]; exact hmt)
                      have d0 := own_intAt own hy
                      have hmi : (m : Int) < (q.length : Int) := by omega
                      by_cases hu : u < q.length
                      · have z := e1 hu
                        subst z
                        clear e1 e2 hy
                        have hb0 : decide ((b : Int) < 0) = false := decide_eq_false (by omega)
                        go_wp2
                        go_round
                        case rel => exact ⟨m + 1, _, by omega, by go_num, rfl, fun h => by first | omega | (have := G3.out; omega) | (have := G4.out; omega) | (have := G3.out; have := G4.out; omega), fun h => ⟨fun h' => by first | omega | (have := G3.out; omega) | (have := G4.out; omega) | (have := G3.out; have := G4.out; omega), fun h' => by first | omega | (have := G3.out; omega) | (have := G4.out; omega) | (have := G3.out; have := G4.out; omega)⟩⟩
                        case measure => simp [intOf]; omega
                      · have hu2 : u = q.length := by omega
                        have G3 := Lib.hid hu2
                        obtain ⟨n1, n2⟩ := Hnone.out hu2
                        obtain ⟨e3, e4⟩ := e2 hu2
                        clear e1 e2 hu2
                        by_cases c1 : b < m
                        · have z := e4 c1
                          subst z
                          clear e3 e4 hy
                          have hb0 : decide ((b : Int) < 0) = false := decide_eq_false (by omega)
                          go_wp2
                          go_round
                          case rel => exact ⟨m + 1, _, by omega, by go_num, rfl, fun h => by first | omega | (have := G3.out; omega) | (have := G4.out; omega) | (have := G3.out; have := G4.out; omega), fun h => ⟨fun h' => by first | omega | (have := G3.out; omega) | (have := G4.out; omega) | (have := G3.out; have := G4.out; omega), fun h' => by first | omega | (have := G3.out; omega) | (have := G4.out; omega) | (have := G3.out; have := G4.out; omega)⟩⟩
                          case measure => simp [intOf]; omega
                        · have z := e3 (by omega)
                          subst z
                          clear e3 e4
                          by_cases c2 : m = b
                          · have G4 := Lib.hid c2
                            have z1 : y = 1 := by rw [← c2, hy] at n1; simpa using n1
                            have z1b : (y == 1) = true := beq_iff_eq.2 z1
                            have z2b : ((m : Int) != (a : Int)) = true := bne_iff_ne.2 (by omega)
                            clear hy c2 n1
                            go_wp2
                            go_round
                            case rel => exact ⟨m + 1, _, by omega, by go_num, rfl, fun h => by first | omega | (have := G3.out; omega) | (have := G4.out; omega) | (have := G3.out; have := G4.out; omega), fun h => ⟨fun h' => by first | omega | (have := G3.out; omega) | (have := G4.out; omega) | (have := G3.out; have := G4.out; omega), fun h' => by first | omega | (have := G3.out; omega) | (have := G4.out; omega) | (have := G3.out; have := G4.out; omega)⟩⟩
                            case measure => simp [intOf]; omega
                          · by_cases c3 : y = 1
                            · have z1b : (y == 1) = true := beq_iff_eq.2 c3
                              have hma : m = a := by
                                refine Classical.byContradiction fun hne => ?_
                                exact c2 (n2 m hne (by rw [hy, c3]))
                              have z2b : ((m : Int) != (a : Int)) = false := by rw [hma]; simp
                              have G4 := Lib.hid hma
                              clear hy hma
                              go_wp2
                              go_round
                              case rel => exact ⟨m + 1, _, by omega, by go_num, rfl, fun h => by first | omega | (have := G3.out; omega) | (have := G4.out; omega) | (have := G3.out; have := G4.out; omega), fun h => ⟨fun h' => by first | omega | (have := G3.out; omega) | (have := G4.out; omega) | (have := G3.out; have := G4.out; omega), fun h' => by first | omega | (have := G3.out; omega) | (have := G4.out; omega) | (have := G3.out; have := G4.out; omega)⟩⟩
                              case measure => simp [intOf]; omega
                            · have z1b : (y == 1) = false := beq_eq_false_iff_ne.2 c3
                              clear hy
                              go_wp2
                              go_round
                              case rel => exact ⟨m + 1, _, by omega, by go_num, rfl, fun h => by first | omega | (have := G3.out; omega) | (have := G4.out; omega) | (have := G3.out; have := G4.out; omega), fun h => ⟨fun h' => by first | omega | (have := G3.out; omega) | (have := G4.out; omega) | (have := G3.out; have := G4.out; omega), fun h' => by first | omega | (have := G3.out; omega) | (have := G4.out; omega) | (have := G3.out; have := G4.out; omega)⟩⟩
                              case measure => simp [intOf]; omega
                    · have hge : ¬ ((m : Int) < (q.length : Int)) := by omega
                      have z : x2 = b := by
                        by_cases hu : u < q.length
                        · exact e1 hu
                        · exact (e2 (by omega)).2 (by omega)
                      subst z
                      clear e1 e2
                      have hai : (a : Int) < (q.length : Int) := by omega
                      have hbi : (b : Int) < (q.length : Int) := by omega
                      have d0 := own_intAt own H1.out
                      have d1 := own.frozenAt a
                      have own1 := own_setInt own a 0
                      have hx' : (L.set a 0)[b]? = some x := by rw [List.getElem?_set_ne hab]; exact Hx.out
                      have d2 := own_intAt own1 hx'
                      have d3 := own1.frozenAt b
                      have own2 := own_setInt own1 b (x - 1)
                      have tabA := Tab.out.apart (gb_setCell wo ⟨gl, a, none⟩ (.int .i64 0)) hgl
                      have tabB := tabA.apart (gb_setCell (wo.setCell ⟨gl, a, none⟩ (.int .i64 0)) ⟨gl, b, none⟩ (.int .i64 (x - 1))) hgl
                      have o1 := tabB.outer ha
                      have o2 := tabB.cell ha hb2
                      have o3 := tabB.frozen ha b
                      have t1 := tabB.set (b := b) ha true
                      have p1 := t1.outer hb2
                      have p2 := t1.cell hb2 ha
                      have p3 := t1.frozen hb2 a
                      have t2 := t1.set (b := a) hb2 true
                      have hGa := Tab.out.blk ha
                      have hGb := Tab.out.blk hb2
                      have own3 := own_far own2 (p := ⟨G a, b, none⟩) (by simp; omega) (.bool true)
                      have own4 := own_far own3 (p := ⟨G b, a, none⟩) (by simp; omega) (.bool true)
                      have hWl := (own_lt own).1
                      have hb5 := (((Hb.out.setCell (p := ⟨gl, a, none⟩) hWl (.int .i64 0)).setCell (p := ⟨gl, b, none⟩) hWl (.int .i64 (x - 1))).setCell (p := ⟨G a, b, none⟩) (by show W.heap.size ≤ G a; omega) (.bool true)).setCell (p := ⟨G b, a, none⟩) (by show W.heap.size ≤ G b; omega) (.bool true)
                      have Own4 := Lib.hid own4
                      have T2 := Lib.hid t2
                      have HB5 := Lib.hid hb5
                      clear own own1 own2 own3 own4 tabA tabB t1 t2 hb5 hx'
                      go_wp2
                      go_roundw
                      case rel => exact ⟨k + 1, by omega, by go_num, by rw [Hnx.out]; exact Own4.out, by rw [HnT.out]; exact T2.out, HB5.out⟩
                      case measure => simp [intOf]; omega
            · have hkl : k = q.length - 1 := by omega
              have hge : ¬ ((k : Int) < (q.length : Int) - 1) := by omega
              have Htab := Lib.hid (tabP_tree Ht.out)
              have Tab := Lib.hid tab
              have hge2 : ¬ (k < q.length - 1) := by omega
              have k5 := kW.trans (hb.mono kW.size)
              have Hkl := Lib.hid hkl
              clear tab own hkl hge2
              go_wp2_with fail
              refine (paOf_any q.length _ _ _ G _ _ (by omega) Tab.out).mono ?_
              rw [Hkl.out, Htab.out]
              rintro e w5 ⟨A5, c5, rfl, own5, hb5⟩
              have g5 := hb.trans (hb5.mono hs)
              have u0 := carry g5 HX0.out sW1
              have u1 := carry g5 HX1.out sW1
              have u2 := (g5.frozen (p := ⟨w.heap.size, 0, none⟩) sW1).trans HZ0.out
              have u3 := (g5.frozen (p := ⟨w.heap.size, 1, none⟩) sW1).trans HZ1.out
              have k6 := kW.trans (g5.mono kW.size)
              go_wp2
              refine bodyPost_ret (v := .tuple #[.agg #[.int .i64 q.length, .slice A5 (sortP (stP q (q.length - 1))).length c5], .bool true]) (by simp [results, Try.results30, go_sem, u0, u1]) rfl ?_
              rw [Er.out]
              exact ⟨A5, c5, rfl, own_lower (ownsRow_setCell_below (ownsRow_setCell_below own5 (a := ⟨w.heap.size, 0, none⟩) (by simp; omega) _) (a := ⟨w.heap.size, 1, none⟩) (by simp; omega) _) (by omega), (k6.setCell (p := ⟨w.heap.size, 0, none⟩) (by simp) _).setCell (p := ⟨w.heap.size, 1, none⟩) (by simp) _⟩
        · have Er := Lib.hid (show r = (0, [], false) by rw [← Hres.out]; exact tree_not (.inr (.inr (.inr (by rw [hs]; exact h4)))))
          have h4' : (s != 2 * ((q.length : Int) - 1)) = true := bne_iff_ne.2 h4
          clear hs
          go_enter Try.func30, Try.ntmps30
          go_wp2_with fail
          rw [HW.out]
          refine (deGood_any q A c _ hl RA).mono ?_
          rw [Hn.out]
          rintro e w' ⟨rfl, rfl⟩
          go_wp2_with fail
          refine (l1Has_any q 0 A c _ hl RA).mono ?_
          rw [H0.out]
          rintro e w' ⟨rfl, rfl⟩
          go_wp2_with fail
          refine (deSum_any q A c _ Hn.out RA).mono ?_
          rw [Hs.out]
          rintro e w' ⟨rfl, rfl⟩
          go_wp2
          refine bodyPost_ret (v := .tuple #[.agg #[.int .i64 0, .slice none 0 0], .bool false]) (by simp [results, Try.results30, go_sem, X0, X1]) rfl ?_
          rw [Er.out]
          exact ⟨none, 0, rfl, World.ownsRow_nil _ _ _ _, (kW.setCell (p := ⟨w.heap.size, 0, none⟩) (by simp) _).setCell (p := ⟨w.heap.size, 1, none⟩) (by simp) _⟩
end Go.Proofs.Ytaemodpolopcfaa
