/-
  Texts put together for the claim of 'CountMixed' (pack 5): AreOne, TrsI, TrsO, LawCountMixed, Head, Facts.
-/
import Derived.Test.YtepoabbkalhifaaCountMixedP1
import Derived.Test.YtepoabbkalhifaaCountMixedP3
import Derived.Test.YtepoabbkalhifaaCountMixedP4
import Derived.BigQuiet
import Derived.ChangeKeysEq
import Derived.Deep.RegionHeld3
import Derived.Test.YtepoabbkalhifaaRows
/-
  'areOne', by its contract.
-/
namespace Go.Proofs.Ytepoabbkalhifaa
open Go.RowKit

theorem eqItems_step {P : Program} {d : Nat} {e : TypeId} {c : Nat} {xs ys : Array Value} {i : Nat} {is : List Nat} {w : World} {va vb : Value} {r : Bool} (h1 : (part e xs (i * c)).run P w = .ok va w) (h2 : (part e ys (i * c)).run P w = .ok vb w) (h3 : (Op.equalIn d e va vb).run P w = .ok r w) :
    (Op.eqItems d e c xs ys (i :: is)).run P w = if r then (Op.eqItems d e c xs ys is).run P w else .ok false w := by
  simp only [Op.eqItems, Sem.run_bind, h1, h2, h3, Result.andThen_ok]
  cases r <;> simp
theorem beq_swap (a b : Int) : (a == b) = (b == a) := by
  rw [Bool.eq_iff_iff, beq_iff_eq, beq_iff_eq]
  exact eq_comm
theorem equal_ints (d : Nat) (a b : Int) (w : World) : (Op.equalIn (d + 1) 3 (.int .i64 a) (.int .i64 b)).run Try.prog w = .ok (a == b) w := by
  simp only [Op.equalIn, Sem.run_bind, run_underlying Try.underlying3, Result.andThen_ok, if_true, Sem.run_pure]
theorem run_equal_three (x y z : Int) (w : World) : (binOp .eql 130 (.agg #[.int .i64 x, .int .i64 y, .int .i64 z]) (.agg #[.int .i64 x, .int .i64 x, .int .i64 x])).run Try.prog w = .ok (.bool ((x == y) && (x == z))) w := by
  obtain ⟨i0, hi, hz0, hz1, hz2⟩ := info_parts Try.infoInt
  have z4 : Try.prog.underlying 130 = some (.array 3 3) := by kernel_rfl
  have z6 : Try.prog.cellsOf 3 = 1 := by kernel_rfl
  have hp : ∀ (xs : Array Value) (i : Nat) (v : Value), xs[i]? = some v → (part 3 xs i).run Try.prog w = .ok v w := fun xs i v hv => run_part_plain w (by kernel_rfl) hv
  have e : ∀ d, (Op.equalIn (d + 1 + 1) 130 (.agg #[.int .i64 x, .int .i64 y, .int .i64 z]) (.agg #[.int .i64 x, .int .i64 x, .int .i64 x])).run Try.prog w = .ok ((x == y) && (x == z)) w := fun d => by
    rw [run_equalIn_array w (d + 1) _ _ z4 hi, z6]
    simp only [List.range_succ, List.range_zero, List.nil_append, List.cons_append]
    rw [eqItems_step (hp _ _ (.int .i64 x) (by rfl)) (hp _ _ (.int .i64 x) (by rfl)) (equal_ints d x x w), beq_self_eq_true, if_pos rfl]
    rw [eqItems_step (hp _ _ (.int .i64 y) (by rfl)) (hp _ _ (.int .i64 x) (by rfl)) (equal_ints d y x w)]
    rw [eqItems_step (hp _ _ (.int .i64 z) (by rfl)) (hp _ _ (.int .i64 x) (by rfl)) (equal_ints d z x w)]
    rw [beq_swap y x, beq_swap z x]
    cases (x == y) <;> cases (x == z) <;> simp [Op.eqItems]
  have e2 := e 9998
  have e3 : (Op.equal 130 (.agg #[.int .i64 x, .int .i64 y, .int .i64 z]) (.agg #[.int .i64 x, .int .i64 x, .int .i64 x])).run Try.prog w = .ok ((x == y) && (x == z)) w := e2
  simp [binOp, go_sem, e3]
set_option maxHeartbeats 4000000 in
set_option maxRecDepth 100000 in
theorem areOne_any (f : Nat → Nat → Int) (a b c : Nat) (ha : a < 8) (hb : b < 8) (hc : c < 8) (w : World) :
    Calls Try.prog 109 #[.agg (shC f), .int .i64 a, .int .i64 b, .int .i64 c] w fun e w' => e = .returned (.bool (oneP f a b c)) ∧ Below w.heap.size w w' := by
  obtain ⟨W, hW⟩ : ∃ W, w.alloc (Obj.cells (shC f) 78) = W := ⟨_, rfl⟩
  have kW : Below w.heap.size w W := by rw [← hW]; go_grown
  have row0 : W.rowIs w.heap.size 78 64 (fun q => .int .i64 (f (q / 8) (q % 8))) := by rw [← hW]; exact rowIs_sh w f _
  have c1 := row0.cell (show a * 8 + b < 64 by omega)
  have c2 := row0.cell (show a * 8 + c < 64 by omega)
  have c3 := row0.cell (show b * 8 + c < 64 by omega)
  have e1 : (a * 8 + b) / 8 = a := by omega
  have e2 : (a * 8 + b) % 8 = b := by omega
  have e3 : (a * 8 + c) / 8 = a := by omega
  have e4 : (a * 8 + c) % 8 = c := by omega
  have e5 : (b * 8 + c) / 8 = b := by omega
  have e6 : (b * 8 + c) % 8 = c := by omega
  simp only [e1, e2, e3, e4, e5, e6] at c1 c2 c3
  obtain ⟨x, hx⟩ : ∃ x, f a b = x := ⟨_, rfl⟩
  obtain ⟨y, hy⟩ : ∃ y, f a c = y := ⟨_, rfl⟩
  obtain ⟨z, hz⟩ : ∃ z, f b c = z := ⟨_, rfl⟩
  have e : oneP f a b c = ((x == y) && (x == z)) := by unfold oneP; rw [hx, hy, hz]
  rw [e]
  rw [hx] at c1
  rw [hy] at c2
  rw [hz] at c3
  have hai : (a : Int) < 8 := by omega
  have hbi : (b : Int) < 8 := by omega
  have hci : (c : Int) < 8 := by omega
  have HW := Lib.hid hW
  clear e e1 e2 e3 e4 e5 e6 hx hy hz hW row0
  go_enter Try.func109, Try.ntmps109
  go_upto_region 1 with fail
  rw [HW.out]
  go_wp2_with fail
  have heq := run_equal_three x y z
  go_quiet (fail)
  go_wp2
  go_ret
  exact ⟨rfl, ⟨kW.os, kW.tape, kW.output, kW.size, kW.block⟩⟩
end Go.Proofs.Ytepoabbkalhifaa
/-
  'oneColourThrees' of the program, by its contract.
-/
namespace Go.Proofs.Ytepoabbkalhifaa
open Go.RowKit

set_option maxHeartbeats 8000000 in
set_option maxRecDepth 100000 in
theorem oneColourThrees_any (n : Nat) (k : Int) (l : List Int) (A : Option Addr) (c0 : Nat) (w : World) (hx : isX n k l = true) (hA : CRead w w.heap.size A (icells l)) :
    Calls Try.prog 88 #[.agg #[.int .i64 n, .int .i64 k, .slice A l.length c0]] w fun e w' => ∃ A' c' R C, e = .returned (.slice A' (threesX n l).length c') ∧ RowsL w' w.heap.size (.slice A' (threesX n l).length c') (threesX n l) R C ∧ Below w.heap.size w w' := by
  obtain ⟨i0, hi, hz0, hz1, hz2⟩ := info_parts Try.infoRowT
  have hn := (isX_parts hx).1
  have hn8 : n ≤ 8 := by omega
  obtain ⟨F, hF⟩ : ∃ F, shC (shX n l) = F := ⟨_, rfl⟩
  have call := fun (X : World) (hR : CRead X X.heap.size A (icells l)) => shadesOf_any n k l A c0 X hx hR
  have calo := fun (a b c : Nat) (ha : a < 8) (hb : b < 8) (hc : c < 8) (X : World) => areOne_any (shX n l) a b c ha hb hc X
  have hFs : F.size = 64 := by rw [← hF]; exact shC_size _
  have hF1 : F.all (·.oneCell') = true := by rw [← hF]; exact shC_one _
  have hiF : (Try.prog.info? 78).map (·.size) = some F.size := by rw [hFs]; exact sh_info
  simp only [hF] at call calo
  obtain ⟨f, hf⟩ : ∃ f, shX n l = f := ⟨_, rfl⟩
  simp only [hf] at calo
  obtain ⟨T, hT⟩ : ∃ T, threesX n l = T := ⟨_, rfl⟩
  have hT' : T = l3T (oneP f) n 0 := by rw [← hT, ← hf]; rfl
  have hTl : T.length ≤ 512 := by rw [hT']; exact l3T_len _ n 0 hn8
  rw [hT]
  obtain ⟨W0, hW⟩ : ∃ W, w.alloc (Obj.cells #[.int .i64 n, .int .i64 k, .slice A l.length c0] 27) = W := ⟨_, rfl⟩
  have a0 : W0.cell? ⟨w.heap.size, 0, none⟩ = some (.int .i64 n) := by rw [← hW]; simp
  have a1 : W0.cell? ⟨w.heap.size, 1, none⟩ = some (.int .i64 k) := by rw [← hW]; simp
  have a2 : W0.cell? ⟨w.heap.size, 2, none⟩ = some (.slice A l.length c0) := by rw [← hW]; simp
  have kW0 : Below w.heap.size w W0 := by rw [← hW]; go_grown
  have sW0 : w.heap.size < W0.heap.size := by rw [← hW]; simp
  have RA : CRead W0 W0.heap.size A (icells l) := (hA.below kW0 (Nat.le_refl _)).more kW0.size
  have Call := Lib.hid call
  have Calo := Lib.hid calo
  have HFs := Lib.hid hFs
  have HF1 := Lib.hid hF1
  have HW := Lib.hid hW
  have HT := Lib.hid hT'
  have st3 : ∀ a, a < n → l3T (oneP f) n a = l2T (oneP f) n a (a + 1) ++ l3T (oneP f) n (a + 1) := fun a h => l3T_step h
  have st2 : ∀ a b, b < n → l2T (oneP f) n a b = l1T (oneP f) n a b (b + 1) ++ l2T (oneP f) n a (b + 1) := fun a b h => l2T_step h
  have st1 : ∀ a b c, c < n → l1T (oneP f) n a b c = (if oneP f a b c then [[(a : Int), (b : Int), (c : Int)]] else []) ++ l1T (oneP f) n a b (c + 1) := fun a b c h => l1T_step h
  have St3 := Lib.hid st3
  have St2 := Lib.hid st2
  have St1 := Lib.hid st1
  clear call calo hW hf hF hFs hF1 hT hT' st3 st2 st1 hx
  go_enter Try.func88, Try.ntmps88
  go_upto_region 1 with fail
  rw [HW.out]
  go_wp2_with fail
  refine (Call.out _ RA).mono ?_
  rintro e w1 ⟨rfl, hb1⟩
  have u0 := carry hb1 a0 sW0
  have k1 := kW0.trans (hb1.mono kW0.size)
  have s1 := hb1.size
  have sw1 : w.heap.size < w1.heap.size := by omega
  clear a0 a1 a2 RA hb1
  go_upto_region 2 with (refine wpList_store_row rfl 78 _ _ rfl w1.heap.size F rfl rfl 78 _ (heap_alloc_new w1 _) hiF (by rw [HFs.out]; rfl) HF1.out ?_)
  rw [World.setRow_alloc_new]
  obtain ⟨W, hW⟩ : ∃ W, w1.alloc (Obj.cells F 78) = W := ⟨_, rfl⟩
  obtain ⟨G, hG⟩ : ∃ G, w1.heap.size = G := ⟨_, rfl⟩
  have kW : Below w.heap.size w W := by rw [← hW]; exact k1.alloc k1.size _
  have sW : w.heap.size < W.heap.size := by rw [← hW]; simp; omega
  have A0 := Lib.hid (show W.cell? ⟨w.heap.size, 0, none⟩ = some (.int .i64 n) by rw [← hW]; exact (World.cell?_alloc_lt _ _ _ (by simp; omega)).trans u0)
  have sG : G < W.heap.size := by rw [← hG, ← hW]; simp
  have BG := Lib.hid (show W.heap[G]? = some (.cells F 78 (0, 0)) by rw [← hG, ← hW]; exact heap_alloc_new w1 _)
  rw [hW, hG]
  clear u0 hW hG k1 s1 sw1
  go_upto_region 3 with fail
  have u0 := A0.out
  go_wp2_with fail
  clear u0
  go_loopw [4, 12] (fun v i wa => ∃ (a : Nat) (LL : List (List Int)) (R : Nat → Option Addr) (C : Nat → Nat), a ≤ n ∧ i = .int .i64 a ∧ RowsL wa W.heap.size v LL R C ∧ Below W.heap.size W wa ∧ LL ++ l3T (oneP f) n a = T) (fun _ i _ => n - (intOf i).toNat)
  case atStart => exact ⟨0, [], _, _, Nat.zero_le _, rfl, RowsL.none _ _, Below.refl _ _, by rw [HT.out]; rfl⟩
  case round =>
    obtain ⟨a, LL, R, C, ha, rfl, hG, hb, hLL⟩ := hrel
    have u0 := carry hb A0.out sW
    have HG := Lib.hid hG
    have Hb := Lib.hid hb
    have HLL := Lib.hid hLL
    clear hG hb hLL
    by_cases hlt : a < n
    · have hai : (a : Int) < n := by omega
      go_wp2_with fail
      clear u0
      go_loopw [4, 6] (fun v i wb => ∃ (b : Nat) (LL : List (List Int)) (R : Nat → Option Addr) (C : Nat → Nat), a < b ∧ b ≤ n ∧ i = .int .i64 b ∧ RowsL wb W.heap.size v LL R C ∧ Below W.heap.size W wb ∧ LL ++ (l2T (oneP f) n a b ++ l3T (oneP f) n (a + 1)) = T) (fun _ i _ => n - (intOf i).toNat)
      case atStart => exact ⟨a + 1, LL, R, C, by omega, by omega, by go_num, HG.out, Hb.out, by rw [← St3.out a hlt]; exact HLL.out⟩
      case round =>
        clear HG Hb HLL
        obtain ⟨b, LL, R, C, hab, hbn, rfl, hG, hb, hLL⟩ := hrel
        have u0 := carry hb A0.out sW
        have HG := Lib.hid hG
        have Hb := Lib.hid hb
        have HLL := Lib.hid hLL
        clear hG hb hLL
        by_cases hbt : b < n
        · have hbi : (b : Int) < n := by omega
          go_wp2_with fail
          clear u0
          go_loopw [4, 7] (fun v i wc => ∃ (c : Nat) (LL : List (List Int)) (R : Nat → Option Addr) (C : Nat → Nat), b < c ∧ c ≤ n ∧ i = .int .i64 c ∧ RowsL wc W.heap.size v LL R C ∧ Below W.heap.size W wc ∧ LL ++ (l1T (oneP f) n a b c ++ (l2T (oneP f) n a (b + 1) ++ l3T (oneP f) n (a + 1))) = T) (fun _ i _ => n - (intOf i).toNat)
          case atStart => exact ⟨b + 1, LL, R, C, by omega, by omega, by go_num, HG.out, Hb.out, by rw [← List.append_assoc (l1T _ _ _ _ _), ← St2.out a b hbt]; exact HLL.out⟩
          case round =>
            clear HG Hb HLL
            obtain ⟨c, LL, R, C, hbc, hcn, rfl, hG, hb, hLL⟩ := hrel
            have u0 := carry hb A0.out sW
            have HG := Lib.hid hG
            have Hb := Lib.hid hb
            have HLL := Lib.hid hLL
            have hLl : LL.length ≤ 512 := by have := congrArg List.length hLL; rw [List.length_append] at this; omega
            clear hG hLL
            by_cases hct : c < n
            · have hci : (c : Int) < n := by omega
              have calo := Calo.out a b c (by omega) (by omega) (by omega)
              have bg := (hb.block G sG).trans BG.out
              obtain ⟨r, hr⟩ : ∃ r, oneP f a b c = r := ⟨_, rfl⟩
              simp only [hr] at calo
              have Bg := Lib.hid bg
              have Calo2 := Lib.hid calo
              have Hr := Lib.hid hr
              have sb := hb.size
              clear calo bg hr hb
              cases r with
              | false =>
                have hno := St1.out a b c hct
                rw [Hr.out, if_neg Bool.false_ne_true, List.nil_append] at hno
                have Hno := Lib.hid hno
                clear hno
                go_wp2_with (first | (go_at_call 109; refine (Calo2.out _).mono ?_; rintro e w1 ⟨rfl, hb1⟩; clear u0; have HG2 := Lib.hid (HG.out.below hb1); have Hb2 := Lib.hid (Hb.out.trans (hb1.mono sb)); clear hb1) | (refine wpList_load_row rfl 78 _ rfl G rfl 78 F (0, 0) _ Bg.out sh_under rfl hiF ?_))
                go_roundw
                case rel => exact ⟨c + 1, LL, R, C, by omega, by omega, by go_num, HG2.out, Hb2.out, by rw [← Hno.out]; exact HLL.out⟩
                case measure => simp [intOf]; omega
              | true =>
                have hno := St1.out a b c hct
                rw [Hr.out, if_pos rfl] at hno
                have Hno := Lib.hid hno
                clear hno
                go_wp2_with (first | (go_at_call 109; refine (Calo2.out _).mono ?_; rintro e w1 ⟨rfl, hb1⟩; clear u0; have s1 := hb1.size; have hG2 := HG.out.below hb1; have hb2 := Hb.out.trans (hb1.mono sb); have hoW := hG2.own; have HG2 := Lib.hid hG2; have Hb2 := Lib.hid hb2; clear hG2 hb2 hb1) | (refine wpList_load_row rfl 78 _ rfl G rfl 78 F (0, 0) _ Bg.out sh_under rfl hiF ?_) | (at_builtin; refine wpList_append_own _ rfl _ _ 53 rfl W.heap.size 22 i0 (.slice none 0 0) 1 24 Try.underlying53 hi hz0 hz1 hz2 rfl (by decide) _ _ _ rfl ((hoW.alloc _).alloc _) ⟨w1.heap.size + 1, 0, none⟩ 1 1 [.slice (some ⟨w1.heap.size, 0, none⟩) 3 3] rfl rfl (one_cell (by simp)) (one_one rfl) (by unfold maxLen; omega) (by omega) (by simp; omega) ?_; intro v1 w3 hown3 hg3 _))
                have hb3 : Below W.heap.size W w3 := ((Hb2.out.alloc (by omega) _).alloc (by simp; omega) _).grown hg3 (by simp; omega) (fun b hb => (hoW.lt b hb).1)
                have row1 := own_built3 w1 (.int .i64 a) (.int .i64 b) (.int .i64 c) 3
                have ch3 := RowsL.push (l := [(a : Int), (b : Int), (c : Int)]) (HG2.out.below (((Below.refl w1.heap.size w1).alloc (Nat.le_refl _) _).alloc (by simp) _)) (own_lower (row1.alloc _) (by omega)) (HG2.out.fresh (own_lies row1) (Nat.le_refl _)) hg3 hown3
                have Ch3 := Lib.hid ch3
                have Hb3 := Lib.hid hb3
                clear ch3 hb3 hown3 hg3 hoW row1
                go_roundw
                case rel => exact ⟨c + 1, _, _, _, by omega, by omega, by go_num, Ch3.out, Hb3.out, by rw [List.append_assoc, ← List.append_assoc [_], ← Hno.out]; exact HLL.out⟩
                case measure => simp [intOf]; omega
            · have hcn2 : c = n := by omega
              have hge : ¬ ((c : Int) < n) := by omega
              have hlf : LL ++ (l2T (oneP f) n a (b + 1) ++ l3T (oneP f) n (a + 1)) = T := by have h := HLL.out; rw [l1T_end (by omega), List.nil_append] at h; exact h
              have Hlf := Lib.hid hlf
              clear hlf hb
              subst hcn2
              go_wp2
              go_roundw
              case rel => exact ⟨b + 1, LL, R, C, by omega, by omega, by go_num, HG.out, Hb.out, Hlf.out⟩
              case measure => simp [intOf]; omega
        · have hge : ¬ ((b : Int) < n) := by omega
          have hlf : LL ++ l3T (oneP f) n (a + 1) = T := by have h := HLL.out; rw [l2T_end (by omega), List.nil_append] at h; exact h
          have Hlf := Lib.hid hlf
          clear hlf
          go_wp2
          go_roundw
          case rel => exact ⟨a + 1, LL, R, C, by omega, by go_num, HG.out, Hb.out, Hlf.out⟩
          case measure => simp [intOf]; omega
    · have hge : ¬ ((a : Int) < n) := by omega
      have hlf : LL = T := by have h := HLL.out; rw [l3T_end (by omega), List.append_nil] at h; exact h
      subst hlf
      have hsh := HG.out.own
      obtain ⟨Av, cv, rfl, _⟩ := own_shape hsh
      have kw := kW.trans (Hb.out.mono (by omega))
      clear hsh
      go_wp2
      go_ret
      exact ⟨Av, cv, rfl, ⟨R, C, HG.out.lower (by omega)⟩, kw⟩
end Go.Proofs.Ytepoabbkalhifaa
/-
  'OneColourThrees', 'CountOneColour', 'CountMixed': the model's and the program's, by their contracts. Written by wip/tools/gen_threes.py.
-/
namespace Go.Proofs.Ytepoabbkalhifaa
open Go.RowKit

def resOneColourThrees (p k : Int) (l : List Int) : List (List Int) × Bool := if isX p k l then (threesX p.toNat l, true) else ([], false)
theorem resOneColourThrees_len (p k : Int) (l : List Int) : (resOneColourThrees p k l).1.length ≤ 1048576 ∧ sumL (resOneColourThrees p k l).1 ≤ 1048576 := by
  unfold resOneColourThrees
  split
  · rename_i h
    have h1 := (isX_parts h).1
    have h2 := l3T_len (oneP (shX p.toNat l)) p.toNat 0 (by omega)
    exact ⟨by unfold threesX; simp only; omega, l3T_sum _ _ (by omega)⟩
  · simp [sumL]
def resCountOneColour (p k : Int) (l : List Int) : Int × Bool := if isX p k l then ((threesX p.toNat l).length, true) else (0, false)
def resCountMixed (p k : Int) (l : List Int) : Int × Bool := if isX p k l then (waysI p 3 - (threesX p.toNat l).length, true) else (0, false)
theorem mixed_all : ∀ n : Fin 9, ((n.val : Int) * ((n.val : Int) - 1) * ((n.val : Int) - 2)).tdiv 6 = waysI (n.val : Int) 3 ∧ (0 ≤ (n.val : Int) * ((n.val : Int) - 1) ∧ (n.val : Int) * ((n.val : Int) - 1) ≤ 1000) ∧ (0 ≤ (n.val : Int) * ((n.val : Int) - 1) * ((n.val : Int) - 2) ∧ (n.val : Int) * ((n.val : Int) - 1) * ((n.val : Int) - 2) ≤ 1000) ∧ (0 ≤ waysI (n.val : Int) 3 ∧ waysI (n.val : Int) 3 ≤ 1000) := by decide +kernel

set_option maxHeartbeats 4000000 in
set_option maxRecDepth 100000 in
theorem implOneColourThrees_any (p k : Int) (l : List Int) (A : Option Addr) (c : Nat) (w : World) (hl : l.length ≤ 1048576) (hA : CRead w w.heap.size A (icells l)) :
    Calls Try.prog 38 #[.agg #[.int .i64 p, .int .i64 k, .slice A l.length c]] w (GotRowsOk w (resOneColourThrees p k l).1 (resOneColourThrees p k l).2) := by
  obtain ⟨w0, hW⟩ : ∃ W, w.alloc (Obj.cells #[.int .i64 p, .int .i64 k, .slice A l.length c] 27) = W := ⟨_, rfl⟩
  have a0_0 : w0.cell? ⟨w.heap.size, 0, none⟩ = some (.int .i64 p) := by rw [← hW]; simp
  have a1_0 : w0.cell? ⟨w.heap.size, 1, none⟩ = some (.int .i64 k) := by rw [← hW]; simp
  have a2_0 : w0.cell? ⟨w.heap.size, 2, none⟩ = some (.slice A l.length c) := by rw [← hW]; simp
  have k0 : Below w.heap.size w w0 := by rw [← hW]; go_grown
  have sP_0 : w.heap.size < w0.heap.size := by rw [← hW]; simp only [World.size_alloc]; omega
  have RA0 : CRead w0 w0.heap.size A (icells l) := (hA.below k0 (Nat.le_refl _)).more k0.size
  have HW := Lib.hid hW
  clear hW
  cases h1 : isX p k l with
  | false =>
    have e : resOneColourThrees p k l = ([], false) := by simp [resOneColourThrees, h1]
    rw [e]
    have H1 := Lib.hid h1
    clear e h1
    go_enter Try.func38, Try.ntmps38
    go_wp2_with fail
    rw [HW.out]
    refine (isPainting_any p k l A c _ hl RA0).mono ?_
    rw [H1.out]
    rintro e w1 ⟨rfl, hb1⟩
    have k1 := k0.trans (hb1.mono k0.size)
    have RA1 := (RA0.below hb1 (Nat.le_refl _)).more hb1.size
    have a0_1 := carry hb1 a0_0 sP_0
    have a1_1 := carry hb1 a1_0 sP_0
    have a2_1 := carry hb1 a2_0 sP_0
    have sP_1 := Nat.lt_of_lt_of_le sP_0 hb1.size
    clear RA0 hb1 a0_0 a1_0 a2_0 sP_0
    go_wp2
    go_ret2
    exact ⟨none, 0, fun _ => none, fun _ => 0, rfl, RowsL.none _ _, k1⟩
  | true =>
    have H1 := Lib.hid h1
    obtain ⟨n, rfl⟩ : ∃ n : Nat, p = n := ⟨p.toNat, by have := (isX_parts h1).1; omega⟩
    have hn8 := (isX_parts h1).1
    have hn9 : n ≤ 8 := by omega
    have e : resOneColourThrees n k l = (threesX n l, true) := by unfold resOneColourThrees; rw [h1, if_pos rfl]; simp
    rw [e]
    have call := fun (X : World) (hR : CRead X X.heap.size A (icells l)) => oneColourThrees_any n k l A c X h1 hR
    have hT512 : (threesX n l).length ≤ 512 := l3T_len _ n 0 hn9
    obtain ⟨T, hT⟩ : ∃ T, threesX n l = T := ⟨_, rfl⟩
    simp only [hT] at call hT512 ⊢
    have Call := Lib.hid call
    clear e h1 hT call
    go_enter Try.func38, Try.ntmps38
    go_wp2_with fail
    rw [HW.out]
    refine (isPainting_any n k l A c _ hl RA0).mono ?_
    rw [H1.out]
    rintro e w1 ⟨rfl, hb1⟩
    have k1 := k0.trans (hb1.mono k0.size)
    have RA1 := (RA0.below hb1 (Nat.le_refl _)).more hb1.size
    have a0_1 := carry hb1 a0_0 sP_0
    have a1_1 := carry hb1 a1_0 sP_0
    have a2_1 := carry hb1 a2_0 sP_0
    have sP_1 := Nat.lt_of_lt_of_le sP_0 hb1.size
    clear RA0 hb1 a0_0 a1_0 a2_0 sP_0
    go_wp2_with fail
    refine (Call.out _ RA1).mono ?_
    rintro e w3 ⟨A3, c3, R, C, rfl, rows, hb3⟩
    have k3 := k1.trans (hb3.mono k1.size)
    have Rows := Lib.hid rows
    have s1 := k1.size
    clear a0_1 a1_1 a2_1 hb3 RA1 rows
    go_wp2
    go_ret2
    exact ⟨A3, c3, R, C, rfl, Rows.out.lower s1, k3⟩
set_option maxHeartbeats 4000000 in
set_option maxRecDepth 100000 in
theorem specOneColourThrees_any (p k : Int) (l : List Int) (A : Option Addr) (c : Nat) (w : World) (hl : l.length ≤ 1048576) (hA : CRead w w.heap.size A (icells l)) :
    Calls Try.prog 37 #[.agg #[.int .i64 p, .int .i64 k, .slice A l.length c]] w (ReadRowsOk w (resOneColourThrees p k l).1 (resOneColourThrees p k l).2) := by
  obtain ⟨w0, hW⟩ : ∃ W, w.alloc (Obj.cells #[.int .i64 p, .int .i64 k, .slice A l.length c] 27) = W := ⟨_, rfl⟩
  have a0_0 : w0.cell? ⟨w.heap.size, 0, none⟩ = some (.int .i64 p) := by rw [← hW]; simp
  have a1_0 : w0.cell? ⟨w.heap.size, 1, none⟩ = some (.int .i64 k) := by rw [← hW]; simp
  have a2_0 : w0.cell? ⟨w.heap.size, 2, none⟩ = some (.slice A l.length c) := by rw [← hW]; simp
  have k0 : Below w.heap.size w w0 := by rw [← hW]; go_grown
  have sP_0 : w.heap.size < w0.heap.size := by rw [← hW]; simp only [World.size_alloc]; omega
  have RA0 : CRead w0 w0.heap.size A (icells l) := (hA.below k0 (Nat.le_refl _)).more k0.size
  have HW := Lib.hid hW
  clear hW
  cases h1 : isX p k l with
  | false =>
    have e : resOneColourThrees p k l = ([], false) := by simp [resOneColourThrees, h1]
    rw [e]
    have H1 := Lib.hid h1
    clear e h1
    go_enter Try.func37, Try.ntmps37
    go_wp2_with fail
    rw [HW.out]
    refine (ptGood_any p k l A c _ hl RA0).mono ?_
    rw [H1.out]
    rintro e w1 ⟨rfl, hb1⟩
    have k1 := k0.trans (hb1.mono k0.size)
    have RA1 := (RA0.below hb1 (Nat.le_refl _)).more hb1.size
    have a0_1 := carry hb1 a0_0 sP_0
    have a1_1 := carry hb1 a1_0 sP_0
    have a2_1 := carry hb1 a2_0 sP_0
    have sP_1 := Nat.lt_of_lt_of_le sP_0 hb1.size
    clear RA0 hb1 a0_0 a1_0 a2_0 sP_0
    go_wp2
    go_ret2
    exact ⟨none, 0, rfl, SRead.nil _ _ _, k1⟩
  | true =>
    have H1 := Lib.hid h1
    obtain ⟨n, rfl⟩ : ∃ n : Nat, p = n := ⟨p.toNat, by have := (isX_parts h1).1; omega⟩
    have hn8 := (isX_parts h1).1
    have hn9 : n ≤ 8 := by omega
    have e : resOneColourThrees n k l = (threesX n l, true) := by unfold resOneColourThrees; rw [h1, if_pos rfl]; simp
    rw [e]
    have call := fun (X : World) (hR : CRead X X.heap.size A (icells l)) => ptThrees_any n k l A c X h1 hR
    have hT512 : (threesX n l).length ≤ 512 := l3T_len _ n 0 hn9
    obtain ⟨T, hT⟩ : ∃ T, threesX n l = T := ⟨_, rfl⟩
    simp only [hT] at call hT512 ⊢
    have Call := Lib.hid call
    clear e h1 hT call
    go_enter Try.func37, Try.ntmps37
    go_wp2_with fail
    rw [HW.out]
    refine (ptGood_any n k l A c _ hl RA0).mono ?_
    rw [H1.out]
    rintro e w1 ⟨rfl, hb1⟩
    have k1 := k0.trans (hb1.mono k0.size)
    have RA1 := (RA0.below hb1 (Nat.le_refl _)).more hb1.size
    have a0_1 := carry hb1 a0_0 sP_0
    have a1_1 := carry hb1 a1_0 sP_0
    have a2_1 := carry hb1 a2_0 sP_0
    have sP_1 := Nat.lt_of_lt_of_le sP_0 hb1.size
    clear RA0 hb1 a0_0 a1_0 a2_0 sP_0
    go_wp2_with fail
    refine (Call.out _ RA1).mono ?_
    rintro e w3 ⟨A3, c3, R, C, rfl, rows, hb3⟩
    have k3 := k1.trans (hb3.mono k1.size)
    have Rows := Lib.hid rows
    have s1 := k1.size
    clear a0_1 a1_1 a2_1 hb3 RA1 rows
    go_wp2
    go_ret2
    exact ⟨A3, c3, rfl, Rows.out.read, k3⟩
set_option maxHeartbeats 4000000 in
set_option maxRecDepth 100000 in
theorem implCountOneColour_any (p k : Int) (l : List Int) (A : Option Addr) (c : Nat) (w : World) (hl : l.length ≤ 1048576) (hA : CRead w w.heap.size A (icells l)) :
    Calls Try.prog 43 #[.agg #[.int .i64 p, .int .i64 k, .slice A l.length c]] w fun e w' => e = .returned (.tuple #[.int .i64 (resCountOneColour p k l).1, .bool (resCountOneColour p k l).2]) ∧ Below w.heap.size w w' := by
  obtain ⟨w0, hW⟩ : ∃ W, w.alloc (Obj.cells #[.int .i64 p, .int .i64 k, .slice A l.length c] 27) = W := ⟨_, rfl⟩
  have a0_0 : w0.cell? ⟨w.heap.size, 0, none⟩ = some (.int .i64 p) := by rw [← hW]; simp
  have a1_0 : w0.cell? ⟨w.heap.size, 1, none⟩ = some (.int .i64 k) := by rw [← hW]; simp
  have a2_0 : w0.cell? ⟨w.heap.size, 2, none⟩ = some (.slice A l.length c) := by rw [← hW]; simp
  have k0 : Below w.heap.size w w0 := by rw [← hW]; go_grown
  have sP_0 : w.heap.size < w0.heap.size := by rw [← hW]; simp only [World.size_alloc]; omega
  have RA0 : CRead w0 w0.heap.size A (icells l) := (hA.below k0 (Nat.le_refl _)).more k0.size
  have HW := Lib.hid hW
  clear hW
  cases h1 : isX p k l with
  | false =>
    have e : resCountOneColour p k l = (0, false) := by simp [resCountOneColour, h1]
    rw [e]
    have H1 := Lib.hid h1
    clear e h1
    go_enter Try.func43, Try.ntmps43
    go_wp2_with fail
    rw [HW.out]
    refine (isPainting_any p k l A c _ hl RA0).mono ?_
    rw [H1.out]
    rintro e w1 ⟨rfl, hb1⟩
    have k1 := k0.trans (hb1.mono k0.size)
    have RA1 := (RA0.below hb1 (Nat.le_refl _)).more hb1.size
    have a0_1 := carry hb1 a0_0 sP_0
    have a1_1 := carry hb1 a1_0 sP_0
    have a2_1 := carry hb1 a2_0 sP_0
    have sP_1 := Nat.lt_of_lt_of_le sP_0 hb1.size
    clear RA0 hb1 a0_0 a1_0 a2_0 sP_0
    go_wp2
    go_ret2
    exact ⟨rfl, k1⟩
  | true =>
    have H1 := Lib.hid h1
    obtain ⟨n, rfl⟩ : ∃ n : Nat, p = n := ⟨p.toNat, by have := (isX_parts h1).1; omega⟩
    have hn8 := (isX_parts h1).1
    have hn9 : n ≤ 8 := by omega
    have e : resCountOneColour n k l = (((threesX n l).length : Int), true) := by unfold resCountOneColour; rw [h1, if_pos rfl]; simp
    rw [e]
    have call := fun (X : World) (hR : CRead X X.heap.size A (icells l)) => oneColourThrees_any n k l A c X h1 hR
    have hT512 : (threesX n l).length ≤ 512 := l3T_len _ n 0 hn9
    obtain ⟨T, hT⟩ : ∃ T, threesX n l = T := ⟨_, rfl⟩
    simp only [hT] at call hT512 ⊢
    have Call := Lib.hid call
    clear e h1 hT call
    go_enter Try.func43, Try.ntmps43
    go_wp2_with fail
    rw [HW.out]
    refine (isPainting_any n k l A c _ hl RA0).mono ?_
    rw [H1.out]
    rintro e w1 ⟨rfl, hb1⟩
    have k1 := k0.trans (hb1.mono k0.size)
    have RA1 := (RA0.below hb1 (Nat.le_refl _)).more hb1.size
    have a0_1 := carry hb1 a0_0 sP_0
    have a1_1 := carry hb1 a1_0 sP_0
    have a2_1 := carry hb1 a2_0 sP_0
    have sP_1 := Nat.lt_of_lt_of_le sP_0 hb1.size
    clear RA0 hb1 a0_0 a1_0 a2_0 sP_0
    go_wp2_with fail
    refine (Call.out _ RA1).mono ?_
    rintro e w3 ⟨A3, c3, R, C, rfl, rows, hb3⟩
    have k3 := k1.trans (hb3.mono k1.size)
    have Rows := Lib.hid rows
    have s1 := k1.size
    clear a0_1 a1_1 a2_1 hb3 RA1 rows
    go_wp2
    go_ret2
    exact ⟨rfl, k3⟩
set_option maxHeartbeats 4000000 in
set_option maxRecDepth 100000 in
theorem specCountOneColour_any (p k : Int) (l : List Int) (A : Option Addr) (c : Nat) (w : World) (hl : l.length ≤ 1048576) (hA : CRead w w.heap.size A (icells l)) :
    Calls Try.prog 42 #[.agg #[.int .i64 p, .int .i64 k, .slice A l.length c]] w fun e w' => e = .returned (.tuple #[.int .i64 (resCountOneColour p k l).1, .bool (resCountOneColour p k l).2]) ∧ Below w.heap.size w w' := by
  obtain ⟨w0, hW⟩ : ∃ W, w.alloc (Obj.cells #[.int .i64 p, .int .i64 k, .slice A l.length c] 27) = W := ⟨_, rfl⟩
  have a0_0 : w0.cell? ⟨w.heap.size, 0, none⟩ = some (.int .i64 p) := by rw [← hW]; simp
  have a1_0 : w0.cell? ⟨w.heap.size, 1, none⟩ = some (.int .i64 k) := by rw [← hW]; simp
  have a2_0 : w0.cell? ⟨w.heap.size, 2, none⟩ = some (.slice A l.length c) := by rw [← hW]; simp
  have k0 : Below w.heap.size w w0 := by rw [← hW]; go_grown
  have sP_0 : w.heap.size < w0.heap.size := by rw [← hW]; simp only [World.size_alloc]; omega
  have RA0 : CRead w0 w0.heap.size A (icells l) := (hA.below k0 (Nat.le_refl _)).more k0.size
  have HW := Lib.hid hW
  clear hW
  cases h1 : isX p k l with
  | false =>
    have e : resCountOneColour p k l = (0, false) := by simp [resCountOneColour, h1]
    rw [e]
    have H1 := Lib.hid h1
    clear e h1
    go_enter Try.func42, Try.ntmps42
    go_wp2_with fail
    rw [HW.out]
    refine (ptGood_any p k l A c _ hl RA0).mono ?_
    rw [H1.out]
    rintro e w1 ⟨rfl, hb1⟩
    have k1 := k0.trans (hb1.mono k0.size)
    have RA1 := (RA0.below hb1 (Nat.le_refl _)).more hb1.size
    have a0_1 := carry hb1 a0_0 sP_0
    have a1_1 := carry hb1 a1_0 sP_0
    have a2_1 := carry hb1 a2_0 sP_0
    have sP_1 := Nat.lt_of_lt_of_le sP_0 hb1.size
    clear RA0 hb1 a0_0 a1_0 a2_0 sP_0
    go_wp2
    go_ret2
    exact ⟨rfl, k1⟩
  | true =>
    have H1 := Lib.hid h1
    obtain ⟨n, rfl⟩ : ∃ n : Nat, p = n := ⟨p.toNat, by have := (isX_parts h1).1; omega⟩
    have hn8 := (isX_parts h1).1
    have hn9 : n ≤ 8 := by omega
    have e : resCountOneColour n k l = (((threesX n l).length : Int), true) := by unfold resCountOneColour; rw [h1, if_pos rfl]; simp
    rw [e]
    have call := fun (X : World) (hR : CRead X X.heap.size A (icells l)) => ptThrees_any n k l A c X h1 hR
    have hT512 : (threesX n l).length ≤ 512 := l3T_len _ n 0 hn9
    obtain ⟨T, hT⟩ : ∃ T, threesX n l = T := ⟨_, rfl⟩
    simp only [hT] at call hT512 ⊢
    have Call := Lib.hid call
    clear e h1 hT call
    go_enter Try.func42, Try.ntmps42
    go_wp2_with fail
    rw [HW.out]
    refine (ptGood_any n k l A c _ hl RA0).mono ?_
    rw [H1.out]
    rintro e w1 ⟨rfl, hb1⟩
    have k1 := k0.trans (hb1.mono k0.size)
    have RA1 := (RA0.below hb1 (Nat.le_refl _)).more hb1.size
    have a0_1 := carry hb1 a0_0 sP_0
    have a1_1 := carry hb1 a1_0 sP_0
    have a2_1 := carry hb1 a2_0 sP_0
    have sP_1 := Nat.lt_of_lt_of_le sP_0 hb1.size
    clear RA0 hb1 a0_0 a1_0 a2_0 sP_0
    go_wp2_with fail
    refine (Call.out _ RA1).mono ?_
    rintro e w3 ⟨A3, c3, R, C, rfl, rows, hb3⟩
    have k3 := k1.trans (hb3.mono k1.size)
    have Rows := Lib.hid rows
    have s1 := k1.size
    clear a0_1 a1_1 a2_1 hb3 RA1 rows
    go_wp2
    go_ret2
    exact ⟨rfl, k3⟩
set_option maxHeartbeats 4000000 in
set_option maxRecDepth 100000 in
theorem implCountMixed_any (p k : Int) (l : List Int) (A : Option Addr) (c : Nat) (w : World) (hl : l.length ≤ 1048576) (hA : CRead w w.heap.size A (icells l)) :
    Calls Try.prog 45 #[.agg #[.int .i64 p, .int .i64 k, .slice A l.length c]] w fun e w' => e = .returned (.tuple #[.int .i64 (resCountMixed p k l).1, .bool (resCountMixed p k l).2]) ∧ Below w.heap.size w w' := by
  obtain ⟨w0, hW⟩ : ∃ W, w.alloc (Obj.cells #[.int .i64 p, .int .i64 k, .slice A l.length c] 27) = W := ⟨_, rfl⟩
  have a0_0 : w0.cell? ⟨w.heap.size, 0, none⟩ = some (.int .i64 p) := by rw [← hW]; simp
  have a1_0 : w0.cell? ⟨w.heap.size, 1, none⟩ = some (.int .i64 k) := by rw [← hW]; simp
  have a2_0 : w0.cell? ⟨w.heap.size, 2, none⟩ = some (.slice A l.length c) := by rw [← hW]; simp
  have k0 : Below w.heap.size w w0 := by rw [← hW]; go_grown
  have sP_0 : w.heap.size < w0.heap.size := by rw [← hW]; simp only [World.size_alloc]; omega
  have RA0 : CRead w0 w0.heap.size A (icells l) := (hA.below k0 (Nat.le_refl _)).more k0.size
  have HW := Lib.hid hW
  clear hW
  cases h1 : isX p k l with
  | false =>
    have e : resCountMixed p k l = (0, false) := by simp [resCountMixed, h1]
    rw [e]
    have H1 := Lib.hid h1
    clear e h1
    go_enter Try.func45, Try.ntmps45
    go_wp2_with fail
    rw [HW.out]
    refine (isPainting_any p k l A c _ hl RA0).mono ?_
    rw [H1.out]
    rintro e w1 ⟨rfl, hb1⟩
    have k1 := k0.trans (hb1.mono k0.size)
    have RA1 := (RA0.below hb1 (Nat.le_refl _)).more hb1.size
    have a0_1 := carry hb1 a0_0 sP_0
    have a1_1 := carry hb1 a1_0 sP_0
    have a2_1 := carry hb1 a2_0 sP_0
    have sP_1 := Nat.lt_of_lt_of_le sP_0 hb1.size
    clear RA0 hb1 a0_0 a1_0 a2_0 sP_0
    go_wp2
    go_ret2
    exact ⟨rfl, k1⟩
  | true =>
    have H1 := Lib.hid h1
    obtain ⟨n, rfl⟩ : ∃ n : Nat, p = n := ⟨p.toNat, by have := (isX_parts h1).1; omega⟩
    have hn8 := (isX_parts h1).1
    have hn9 : n ≤ 8 := by omega
    have e : resCountMixed n k l = (waysI n 3 - ((threesX n l).length : Int), true) := by unfold resCountMixed; rw [h1, if_pos rfl]; simp
    rw [e]
    have call := fun (X : World) (hR : CRead X X.heap.size A (icells l)) => oneColourThrees_any n k l A c X h1 hR
    have hT512 : (threesX n l).length ≤ 512 := l3T_len _ n 0 hn9
    obtain ⟨T, hT⟩ : ∃ T, threesX n l = T := ⟨_, rfl⟩
    simp only [hT] at call hT512 ⊢
    have Call := Lib.hid call
    clear e h1 hT call
    obtain ⟨m1, ⟨m2, m3⟩, ⟨m4, m5⟩, m6, m7⟩ := mixed_all ⟨n, by omega⟩
    simp only at m1 m2 m3 m4 m5 m6 m7
    have w1 : IntKind.i64.wrap ((n : Int) * ((n : Int) - 1)) = (n : Int) * ((n : Int) - 1) := wrap_small (by omega)
    have w2 : IntKind.i64.wrap ((n : Int) * ((n : Int) - 1) * ((n : Int) - 2)) = (n : Int) * ((n : Int) - 1) * ((n : Int) - 2) := wrap_small (by omega)
    have w3 : IntKind.i64.wrap (((n : Int) * ((n : Int) - 1) * ((n : Int) - 2)).tdiv 6) = ((n : Int) * ((n : Int) - 1) * ((n : Int) - 2)).tdiv 6 := wrap_small (by rw [m1]; omega)
    have ways := fun X : World => waysToChoose_any n 3 X (.inl (by omega))
    obtain ⟨M, hM⟩ : ∃ M, waysI (n : Int) 3 = M := ⟨_, rfl⟩
    rw [hM] at m1 m6 m7 ⊢
    simp only [hM] at ways
    rw [m1] at w3
    have w4 : IntKind.i64.wrap (M - (T.length : Int)) = M - (T.length : Int) := wrap_small (by omega)
    have Ways := Lib.hid ways
    clear hM ways
    go_enter Try.func45, Try.ntmps45
    go_wp2_with fail
    rw [HW.out]
    refine (isPainting_any n k l A c _ hl RA0).mono ?_
    rw [H1.out]
    rintro e w1 ⟨rfl, hb1⟩
    have k1 := k0.trans (hb1.mono k0.size)
    have RA1 := (RA0.below hb1 (Nat.le_refl _)).more hb1.size
    have a0_1 := carry hb1 a0_0 sP_0
    have a1_1 := carry hb1 a1_0 sP_0
    have a2_1 := carry hb1 a2_0 sP_0
    have sP_1 := Nat.lt_of_lt_of_le sP_0 hb1.size
    clear RA0 hb1 a0_0 a1_0 a2_0 sP_0
    go_wp2_with fail
    have rA := (hA.below k1.drew (Nat.le_refl _)).more k1.size
    go_region_held3 (fun w' => w'.cell? ⟨w.heap.size, 0, none⟩ = some (.int .i64 n) ∧ w'.cell? ⟨w.heap.size, 1, none⟩ = some (.int .i64 k) ∧ w'.cell? ⟨w.heap.size, 2, none⟩ = some (.slice A l.length c)) (first | exact ⟨a0_1, a1_1, a2_1⟩ | exact ⟨b0, b1, b2⟩) ((first
      | (go_at_call 65; refine (Ways.out _).mono ?_; rintro e w' ⟨rfl, rfl⟩)
      | (go_at_call 88; refine (Call.out _ rA).mono ?_; rintro e v1 ⟨A3, c3, R, C, rfl, rows, hb4⟩; have g1 : Below w1.heap.size w1 v1 := (Below.refl _ _).drew.trans hb4; have b0 := carry g1 a0_1 sP_1; have b1 := carry g1 a1_1 sP_1; have b2 := carry g1 a2_1 sP_1)))
    all_goals (go_wp2)
    all_goals (go_ret2)
    all_goals (exact ⟨rfl, k1.trans (g1.mono k1.size)⟩)
set_option maxHeartbeats 4000000 in
set_option maxRecDepth 100000 in
theorem specCountMixed_any (p k : Int) (l : List Int) (A : Option Addr) (c : Nat) (w : World) (hl : l.length ≤ 1048576) (hA : CRead w w.heap.size A (icells l)) :
    Calls Try.prog 44 #[.agg #[.int .i64 p, .int .i64 k, .slice A l.length c]] w fun e w' => e = .returned (.tuple #[.int .i64 (resCountMixed p k l).1, .bool (resCountMixed p k l).2]) ∧ Below w.heap.size w w' := by
  obtain ⟨w0, hW⟩ : ∃ W, w.alloc (Obj.cells #[.int .i64 p, .int .i64 k, .slice A l.length c] 27) = W := ⟨_, rfl⟩
  have a0_0 : w0.cell? ⟨w.heap.size, 0, none⟩ = some (.int .i64 p) := by rw [← hW]; simp
  have a1_0 : w0.cell? ⟨w.heap.size, 1, none⟩ = some (.int .i64 k) := by rw [← hW]; simp
  have a2_0 : w0.cell? ⟨w.heap.size, 2, none⟩ = some (.slice A l.length c) := by rw [← hW]; simp
  have k0 : Below w.heap.size w w0 := by rw [← hW]; go_grown
  have sP_0 : w.heap.size < w0.heap.size := by rw [← hW]; simp only [World.size_alloc]; omega
  have RA0 : CRead w0 w0.heap.size A (icells l) := (hA.below k0 (Nat.le_refl _)).more k0.size
  have HW := Lib.hid hW
  clear hW
  cases h1 : isX p k l with
  | false =>
    have e : resCountMixed p k l = (0, false) := by simp [resCountMixed, h1]
    rw [e]
    have H1 := Lib.hid h1
    clear e h1
    go_enter Try.func44, Try.ntmps44
    go_wp2_with fail
    rw [HW.out]
    refine (ptGood_any p k l A c _ hl RA0).mono ?_
    rw [H1.out]
    rintro e w1 ⟨rfl, hb1⟩
    have k1 := k0.trans (hb1.mono k0.size)
    have RA1 := (RA0.below hb1 (Nat.le_refl _)).more hb1.size
    have a0_1 := carry hb1 a0_0 sP_0
    have a1_1 := carry hb1 a1_0 sP_0
    have a2_1 := carry hb1 a2_0 sP_0
    have sP_1 := Nat.lt_of_lt_of_le sP_0 hb1.size
    clear RA0 hb1 a0_0 a1_0 a2_0 sP_0
    go_wp2
    go_ret2
    exact ⟨rfl, k1⟩
  | true =>
    have H1 := Lib.hid h1
    obtain ⟨n, rfl⟩ : ∃ n : Nat, p = n := ⟨p.toNat, by have := (isX_parts h1).1; omega⟩
    have hn8 := (isX_parts h1).1
    have hn9 : n ≤ 8 := by omega
    have e : resCountMixed n k l = (waysI n 3 - ((threesX n l).length : Int), true) := by unfold resCountMixed; rw [h1, if_pos rfl]; simp
    rw [e]
    have call := fun (X : World) (hR : CRead X X.heap.size A (icells l)) => ptThrees_any n k l A c X h1 hR
    have hT512 : (threesX n l).length ≤ 512 := l3T_len _ n 0 hn9
    obtain ⟨T, hT⟩ : ∃ T, threesX n l = T := ⟨_, rfl⟩
    simp only [hT] at call hT512 ⊢
    have Call := Lib.hid call
    clear e h1 hT call
    obtain ⟨m1, ⟨m2, m3⟩, ⟨m4, m5⟩, m6, m7⟩ := mixed_all ⟨n, by omega⟩
    simp only at m1 m2 m3 m4 m5 m6 m7
    have w1 : IntKind.i64.wrap ((n : Int) * ((n : Int) - 1)) = (n : Int) * ((n : Int) - 1) := wrap_small (by omega)
    have w2 : IntKind.i64.wrap ((n : Int) * ((n : Int) - 1) * ((n : Int) - 2)) = (n : Int) * ((n : Int) - 1) * ((n : Int) - 2) := wrap_small (by omega)
    have w3 : IntKind.i64.wrap (((n : Int) * ((n : Int) - 1) * ((n : Int) - 2)).tdiv 6) = ((n : Int) * ((n : Int) - 1) * ((n : Int) - 2)).tdiv 6 := wrap_small (by rw [m1]; omega)
    have ways := fun X : World => waysToChoose_any n 3 X (.inl (by omega))
    obtain ⟨M, hM⟩ : ∃ M, waysI (n : Int) 3 = M := ⟨_, rfl⟩
    rw [hM] at m1 m6 m7 ⊢
    simp only [hM] at ways
    rw [m1] at w3
    have w4 : IntKind.i64.wrap (M - (T.length : Int)) = M - (T.length : Int) := wrap_small (by omega)
    have Ways := Lib.hid ways
    clear hM ways
    go_enter Try.func44, Try.ntmps44
    go_wp2_with fail
    rw [HW.out]
    refine (ptGood_any n k l A c _ hl RA0).mono ?_
    rw [H1.out]
    rintro e w1 ⟨rfl, hb1⟩
    have k1 := k0.trans (hb1.mono k0.size)
    have RA1 := (RA0.below hb1 (Nat.le_refl _)).more hb1.size
    have a0_1 := carry hb1 a0_0 sP_0
    have a1_1 := carry hb1 a1_0 sP_0
    have a2_1 := carry hb1 a2_0 sP_0
    have sP_1 := Nat.lt_of_lt_of_le sP_0 hb1.size
    clear RA0 hb1 a0_0 a1_0 a2_0 sP_0
    go_wp2_with fail
    refine (Call.out _ RA1).mono ?_
    rintro e w3 ⟨A3, c3, R, C, rfl, rows, hb3⟩
    have k3 := k1.trans (hb3.mono k1.size)
    have Rows := Lib.hid rows
    have s1 := k1.size
    clear a0_1 a1_1 a2_1 hb3 RA1 rows
    go_wp2
    go_ret2
    exact ⟨rfl, k3⟩
end Go.Proofs.Ytepoabbkalhifaa
/-
  'laws.FnExactCountMixed' returns true, whatever its arguments: out of the contracts of the model's function and of the program's.
-/
namespace Go.Proofs.Ytepoabbkalhifaa
open Go.RowKit

set_option maxHeartbeats 4000000 in
set_option maxRecDepth 100000 in
theorem lawCountMixed_any (p0 k0 : Int) (l0 : List Int) (A0 : Option Addr) (c0 : Nat) (W : World) (hl0 : l0.length ≤ maxLen) (hA0 : CRead W W.heap.size A0 (icells l0)) :
    Calls Try.prog 10 #[.agg #[.int .i64 p0, .int .i64 k0, .slice A0 l0.length c0]] W fun e w' => e = .returned (.bool true) ∧ Below W.heap.size W w' := by
  have hone : (0 : Int) ≤ 1 ∧ (1 : Int) ≤ 16777216 := by omega
  by_cases hz0 : szI (1048576) l0.length < 0
  · go_enter Try.func10, Try.ntmps10
    go_wp2_with fail
    refine (szPainting_any _ _ _ _ _ _ hl0 (by omega) (by omega) _).mono ?_
    rintro e w1 ⟨rfl, hb1⟩
    simp only [World.size_alloc] at hb1
    have g1 : Below W.heap.size W w1 := Below.trans (b := _) (by go_grown) (hb1.mono (by omega))
    have s1 := hb1.size
    simp only [World.size_alloc] at s1
    have f1_0 : w1.cell? ⟨W.heap.size, 0, none⟩ = some (.int .i64 p0) := carry hb1 (by simp) (by omega)
    have f1_1 : w1.cell? ⟨W.heap.size, 1, none⟩ = some (.int .i64 k0) := carry hb1 (by simp) (by omega)
    have f1_2 : w1.cell? ⟨W.heap.size, 2, none⟩ = some (.slice A0 l0.length c0) := carry hb1 (by simp) (by omega)
    have k1 : Below W.heap.size W w1 := g1
    go_wp2
    go_ret
    exact ⟨rfl, k1⟩
  have hn0 : l0.length ≤ 1048576 := by have h1 := szI_len _ _ hz0; have h2 := szI_hi (1048576) l0.length (by omega); omega
  have hz0' : 0 ≤ szI (1048576) l0.length := by omega
  have hz0'' : szI (1048576) l0.length ≤ 1048576 := by have h2 := szI_hi (1048576) l0.length (by omega); omega
  obtain ⟨⟨rb, rok⟩, hres⟩ : ∃ r, resCountMixed p0 k0 l0 = r := ⟨_, rfl⟩
  have Hres := Lib.hid hres
  clear hres
  go_enter Try.func10, Try.ntmps10
  go_wp2_with fail
  refine (szPainting_any _ _ _ _ _ _ hl0 (by omega) (by omega) _).mono ?_
  rintro e w1 ⟨rfl, hb1⟩
  simp only [World.size_alloc] at hb1
  have g1 : Below W.heap.size W w1 := Below.trans (b := _) (by go_grown) (hb1.mono (by omega))
  have s1 := hb1.size
  simp only [World.size_alloc] at s1
  have f1_0 : w1.cell? ⟨W.heap.size, 0, none⟩ = some (.int .i64 p0) := carry hb1 (by simp) (by omega)
  have f1_1 : w1.cell? ⟨W.heap.size, 1, none⟩ = some (.int .i64 k0) := carry hb1 (by simp) (by omega)
  have f1_2 : w1.cell? ⟨W.heap.size, 2, none⟩ = some (.slice A0 l0.length c0) := carry hb1 (by simp) (by omega)
  have k1 : Below W.heap.size W w1 := g1
  go_wp2_with fail
  refine (toPainting_any p0 k0 l0 A0 c0 _ hn0 ((hA0.below k1 (Nat.le_refl _)).more k1.size)).mono ?_
  rintro e w2 ⟨T2, d2, rfl, n2, hb2⟩
  have g2 : Below w1.heap.size w1 w2 := hb2
  have s2 := hb2.size
  have f2_0 := carry g2 f1_0 (by omega)
  have f2_1 := carry g2 f1_1 (by omega)
  have f2_2 := carry g2 f1_2 (by omega)
  have k2 := k1.trans (g2.mono k1.size)
  clear f1_0 f1_1 f1_2
  have r2 : Lies (.slice T2 l0.length d2) (w1.heap.size) w2.heap.size := own_lies n2
  go_wp2_with fail
  refine (specCountMixed_any p0 k0 l0 _ _ _ hn0 (CRead.of_own n2)).mono ?_
  rw [Hres.out]
  rintro e w3 ⟨rfl, hb3⟩
  have g3 : Below w2.heap.size w2 w3 := hb3
  have s3 := hb3.size
  have f3_0 := carry g3 f2_0 (by omega)
  have f3_1 := carry g3 f2_1 (by omega)
  have f3_2 := carry g3 f2_2 (by omega)
  have o3_0 := own_below n2 g3 (Nat.le_refl _)
  have k3 := k2.trans (g3.mono k2.size)
  clear f2_0 f2_1 f2_2 n2
  clear o3_0 r2
  go_wp2_with fail
  refine (toPainting_any p0 k0 l0 A0 c0 _ hn0 ((hA0.below k3 (Nat.le_refl _)).more k3.size)).mono ?_
  rintro e w4 ⟨T4, d4, rfl, n4, hb4⟩
  have g4 : Below w3.heap.size w3 w4 := hb4
  have s4 := hb4.size
  have f4_0 := carry g4 f3_0 (by omega)
  have f4_1 := carry g4 f3_1 (by omega)
  have f4_2 := carry g4 f3_2 (by omega)
  have k4 := k3.trans (g4.mono k3.size)
  clear f3_0 f3_1 f3_2
  have r4 : Lies (.slice T4 l0.length d4) (w3.heap.size) w4.heap.size := own_lies n4
  have q5_0 : (w4.alloc (Obj.cells #[.int .i64 p0, .int .i64 k0, .slice T4 l0.length d4] 27)).cell? ⟨W.heap.size, 0, none⟩ = some (.int .i64 p0) := (World.cell?_alloc_lt _ _ _ (show W.heap.size < w4.heap.size by omega)).trans f4_0
  have q5_1 : (w4.alloc (Obj.cells #[.int .i64 p0, .int .i64 k0, .slice T4 l0.length d4] 27)).cell? ⟨W.heap.size, 1, none⟩ = some (.int .i64 k0) := (World.cell?_alloc_lt _ _ _ (show W.heap.size < w4.heap.size by omega)).trans f4_1
  have q5_2 : (w4.alloc (Obj.cells #[.int .i64 p0, .int .i64 k0, .slice T4 l0.length d4] 27)).cell? ⟨W.heap.size, 2, none⟩ = some (.slice A0 l0.length c0) := (World.cell?_alloc_lt _ _ _ (show W.heap.size < w4.heap.size by omega)).trans f4_2
  go_wp2_with fail
  refine (implCountMixed_any p0 k0 l0 _ _ _ hn0 (((CRead.of_own n4).below (B' := w4.heap.size) (by go_grown) (Nat.le_refl _)).more (by go_size))).mono ?_
  rw [Hres.out]
  rintro e w6 ⟨rfl, hb6⟩
  simp only [World.size_alloc] at hb6
  have g6 : Below w4.heap.size w4 w6 := Below.trans (b := _) (by go_grown) (hb6.mono (by omega))
  have s6 := hb6.size
  simp only [World.size_alloc] at s6
  have f6_0 := carry g6 f4_0 (by omega)
  have f6_1 := carry g6 f4_1 (by omega)
  have f6_2 := carry g6 f4_2 (by omega)
  have f6_3 : w6.cell? ⟨w4.heap.size, 0, none⟩ = some (.int .i64 p0) := carry hb6 (by simp) (by omega)
  have f6_4 : w6.cell? ⟨w4.heap.size, 1, none⟩ = some (.int .i64 k0) := carry hb6 (by simp) (by omega)
  have f6_5 : w6.cell? ⟨w4.heap.size, 2, none⟩ = some (.slice T4 l0.length d4) := carry hb6 (by simp) (by omega)
  have o6_0 := own_below n4 g6 (Nat.le_refl _)
  have k6 := k4.trans (g6.mono k4.size)
  clear f4_0 f4_1 f4_2 n4 q5_0 q5_1 q5_2
  go_wp2
  go_region_held3 (fun w' => w'.cell? ⟨W.heap.size, 0, none⟩ = some (.int .i64 p0) ∧ w'.cell? ⟨W.heap.size, 1, none⟩ = some (.int .i64 k0) ∧ w'.cell? ⟨W.heap.size, 2, none⟩ = some (.slice A0 l0.length c0) ∧ w'.cell? ⟨w4.heap.size, 0, none⟩ = some (.int .i64 p0) ∧ w'.cell? ⟨w4.heap.size, 1, none⟩ = some (.int .i64 k0) ∧ w'.cell? ⟨w4.heap.size, 2, none⟩ = some (.slice T4 l0.length d4)) (first | exact ⟨f6_0, f6_1, f6_2, f6_3, f6_4, f6_5⟩ | exact ⟨f7_0, f7_1, f7_2, f7_3, f7_4, f7_5⟩ | exact ⟨f8_0, f8_1, f8_2, f8_3, f8_4, f8_5⟩) ((first | (go_at_call 19; refine (toPainting_any p0 k0 l0 A0 c0 _ hn0 ((hA0.below k6.drew (Nat.le_refl _)).more k6.size)).mono ?_; rintro e w7 ⟨T7, d7, rfl, n7, hb7⟩; have g7 : Below w6.heap.size w6 w7 := (Below.refl _ _).drew.trans hb7; have s7 := g7.size; have f7_0 := carry g7 f6_0 (by omega); have f7_1 := carry g7 f6_1 (by omega); have f7_2 := carry g7 f6_2 (by omega); have f7_3 := carry g7 f6_3 (by omega); have f7_4 := carry g7 f6_4 (by omega); have f7_5 := carry g7 f6_5 (by omega); have o7_0 := own_below o6_0 g7 (Nat.le_refl _); have k7 := k6.trans (g7.mono k6.size)) | (go_at_call 21; refine (eqPainting_any p0 p0 k0 k0 l0 l0 _ _ _ _ _ hl0 hl0 (CRead.of_own o7_0) (CRead.of_own n7)).mono ?_; rw [decide_eq_true ⟨rfl, rfl, rfl⟩]; rintro e w8 ⟨rfl, hb8⟩; have g8 : Below w7.heap.size w7 w8 := hb8; have s8 := g8.size; have f8_0 := carry g8 f7_0 (by omega); have f8_1 := carry g8 f7_1 (by omega); have f8_2 := carry g8 f7_2 (by omega); have f8_3 := carry g8 f7_3 (by omega); have f8_4 := carry g8 f7_4 (by omega); have f8_5 := carry g8 f7_5 (by omega); have o8_0 := own_below o7_0 g8 (Nat.le_refl _); have k8 := k7.trans (g8.mono k7.size))))
  clear f6_0 f6_1 f6_2 f6_3 f6_4 f6_5 o6_0 f7_0 f7_1 f7_2 f7_3 f7_4 f7_5 o7_0 n7
  go_wp2
  go_ret
  exact ⟨rfl, k8⟩
end Go.Proofs.Ytepoabbkalhifaa
/-
  THE PROGRAM's HEAD, LOOKED AT ONCE: which make it is, and that a call may enter it. (The head's text is long: the kernel must not read it twice.)
-/
namespace Go.Proofs.Ytepoabbkalhifaa

theorem make_of {P : Program} {rest : List (List Char)} (h : behindMainWord (wordsSigns P.initOrder.toList) = "cut".toList :: rest) : P.make = some .cut := by
  unfold Program.make
  rw [h]
  rfl
theorem strip_cut (rest : List (List Char)) : stripLifts liftWords ("cut".toList :: rest) = ([], "cut".toList :: rest) := rfl
theorem lifts_of {P : Program} {rest : List (List Char)} (h : behindMainWord (wordsSigns P.initOrder.toList) = "cut".toList :: rest) : P.headLifts = [] := by
  unfold Program.headLifts
  rw [h, strip_cut]
  rfl
theorem final_of {P : Program} {rest : List (List Char)} (h : behindMainWord (wordsSigns P.initOrder.toList) = "cut".toList :: rest) : P.liftsFinal = false := by
  unfold Program.liftsFinal
  rw [lifts_of h, h]
  rfl
theorem enter_of {P : Program} {rest : List (List Char)} (h : behindMainWord (wordsSigns P.initOrder.toList) = "cut".toList :: rest) (h1 : P.laysLater = false) (h2 : P.bearsReflect = false) (h3 : P.doorFits [] = true) : P.mayEnter = true := by
  unfold Program.mayEnter
  rw [h]
  show (_ || _ || _) = true
  rw [strip_cut, h1, h2, h3]
  rfl
end Go.Proofs.Ytepoabbkalhifaa
/-
  THE PROGRAM's CLOSED FACTS, EACH ONCE; and how a row's facts are put together out of them.
-/
namespace Go.Proofs.Ytepoabbkalhifaa
open Go.ChangeShapes Go.WideShapes Go.ChangeAt Go.RowKit

def headSigns : List Char := ([104, 97, 114, 110, 101, 115, 115, 32, 99, 100, 56, 97, 99, 56, 48, 53, 55, 98, 98, 102, 57, 52, 102, 101, 100, 56, 100, 102, 101, 49, 51, 97, 54, 57, 57, 97, 55, 99, 57, 97, 55, 57, 53, 56, 99, 49, 48, 55, 52, 99, 98, 98, 49, 53, 56, 97, 55, 55, 97, 56, 102, 51, 55, 52, 50, 57, 53, 48, 52, 53, 99, 52, 32, 99, 117, 116, 32, 97, 116, 32, 108, 111, 111, 112, 46, 101, 120, 97, 109, 112, 108, 101, 47, 103, 48, 49, 50, 53, 55, 47, 108, 97, 119, 115, 46, 70, 110, 69, 120, 97, 99, 116, 73, 115, 80, 97, 105, 110, 116, 105, 110, 103, 32, 108, 111, 111, 112, 46, 101, 120, 97, 109, 112, 108, 101, 47, 103, 48, 49, 50, 53, 55, 47, 108, 97, 119, 115, 46, 70, 110, 69, 120, 97, 99, 116, 67, 111, 108, 111, 117, 114, 79, 102, 32, 108, 111, 111, 112, 46, 101, 120, 97, 109, 112, 108, 101, 47, 103, 48, 49, 50, 53, 55, 47, 108, 97, 119, 115, 46, 70, 110, 69, 120, 97, 99, 116, 80, 97, 105, 110, 116, 80, 97, 105, 114, 32, 108, 111, 111, 112, 46, 101, 120, 97, 109, 112, 108, 101, 47, 103, 48, 49, 50, 53, 55, 47, 108, 97, 119, 115, 46, 70, 110, 69, 120, 97, 99, 116, 80, 97, 105, 110, 116, 105, 110, 103, 79, 102, 32, 108, 111, 111, 112, 46, 101, 120, 97, 109, 112, 108, 101, 47, 103, 48, 49, 50, 53, 55, 47, 108, 97, 119, 115, 46, 70, 110, 69, 120, 97, 99, 116, 80, 97, 114, 116, 121, 79, 102, 67, 111, 108, 111, 117, 114, 32, 108, 111, 111, 112, 46, 101, 120, 97, 109, 112, 108, 101, 47, 103, 48, 49, 50, 53, 55, 47, 108, 97, 119, 115, 46, 70, 110, 69, 120, 97, 99, 116, 79, 110, 101, 67, 111, 108, 111, 117, 114, 84, 104, 114, 101, 101, 115, 32, 108, 111, 111, 112, 46, 101, 120, 97, 109, 112, 108, 101, 47, 103, 48, 49, 50, 53, 55, 47, 108, 97, 119, 115, 46, 70, 110, 69, 120, 97, 99, 116, 67, 111, 117, 110, 116, 79, 110, 101, 67, 111, 108, 111, 117, 114, 32, 108, 111, 111, 112, 46, 101, 120, 97, 109, 112, 108, 101, 47, 103, 48, 49, 50, 53, 55, 47, 108, 97, 119, 115, 46, 70, 110, 69, 120, 97, 99, 116, 67, 111, 117, 110, 116, 77, 105, 120, 101, 100, 32, 108, 111, 111, 112, 46, 101, 120, 97, 109, 112, 108, 101, 47, 103, 48, 49, 50, 53, 55, 47, 108, 97, 119, 115, 46, 70, 110, 69, 120, 97, 99, 116, 76, 101, 97, 115, 116, 84, 104, 114, 101, 101, 115, 32, 108, 111, 111, 112, 46, 101, 120, 97, 109, 112, 108, 101, 47, 103, 48, 49, 50, 53, 55, 47, 108, 97, 119, 115, 46, 70, 110, 69, 120, 97, 99, 116, 70, 105, 114, 115, 116, 65, 118, 111, 105, 100, 105, 110, 103, 32, 108, 111, 111, 112, 46, 101, 120, 97, 109, 112, 108, 101, 47, 103, 48, 49, 50, 53, 55, 47, 108, 97, 119, 115, 46, 70, 110, 69, 120, 97, 99, 116, 67, 111, 117, 110, 116, 65, 118, 111, 105, 100, 105, 110, 103, 32, 108, 111, 111, 112, 46, 101, 120, 97, 109, 112, 108, 101, 47, 103, 48, 49, 50, 53, 55, 47, 108, 97, 119, 115, 46, 70, 110, 69, 120, 97, 99, 116, 69, 120, 99, 104, 97, 110, 103, 101, 67, 111, 108, 111, 117, 114, 115, 32, 108, 111, 111, 112, 46, 101, 120, 97, 109, 112, 108, 101, 47, 103, 48, 49, 50, 53, 55, 47, 108, 97, 119, 115, 46, 70, 110, 69, 120, 97, 99, 116, 82, 101, 110, 97, 109, 101, 80, 97, 105, 110, 116, 105, 110, 103, 32, 108, 111, 111, 112, 46, 101, 120, 97, 109, 112, 108, 101, 47, 103, 48, 49, 50, 53, 55, 47, 108, 97, 119, 115, 46, 70, 110, 69, 120, 97, 99, 116, 76, 101, 97, 115, 116, 79, 110, 101, 75, 105, 110, 100] : List Nat).map Char.ofNat
set_option maxRecDepth 100000 in
theorem Try.initOrder_is : Try.prog.initOrder = String.ofList headSigns := by kernel_rfl
theorem Try.initOrder_signs : Try.prog.initOrder.toList = headSigns := by rw [Try.initOrder_is]; exact String.toList_ofList
set_option maxRecDepth 100000 in
theorem head_words : (behindMainWord (wordsSigns headSigns)).take 1 = ["cut".toList] := by kernel_rfl
theorem Try.words : ∃ rest, behindMainWord (wordsSigns Try.prog.initOrder.toList) = "cut".toList :: rest := by
  rw [Try.initOrder_signs]
  have h := List.take_append_drop 1 (behindMainWord (wordsSigns headSigns))
  rw [head_words] at h
  exact ⟨_, h.symm⟩
theorem Try.make : Try.prog.make = some .cut := by obtain ⟨_, h⟩ := Try.words; exact make_of h
theorem Try.liftsFinal : Try.prog.liftsFinal = false := by obtain ⟨_, h⟩ := Try.words; exact final_of h
theorem Try.laysLater : Try.prog.laysLater = false := by kernel_rfl
theorem Try.bearsReflect : Try.prog.bearsReflect = false := by kernel_rfl
theorem Try.doorFits : Try.prog.doorFits [] = true := by kernel_rfl
theorem Try.mayEnter : Try.prog.mayEnter = true := by obtain ⟨_, h⟩ := Try.words; exact enter_of h Try.laysLater Try.bearsReflect Try.doorFits
theorem Try.mapsRowed : mapsRowed Try.prog = true := by kernel_rfl
theorem Try.stops : (Try.prog.stops == []) = true := by kernel_rfl
theorem Try.stopKnobs : (Try.prog.stopKnobs == []) = true := by kernel_rfl
theorem Try.plainKeys : Try.prog.plainKeys = true := by kernel_rfl
theorem Try.stopsHeard : Try.prog.stopsHeard = true := by kernel_rfl

/-- What the types of one law give: closed facts on its parameters and its result. -/
def typeFacts (P : Program) (fn : Func) (s : ChangeSpec) (c : OpenClaim) : Bool :=
  fn.params.all (P.readableRec ·) && namedTie P c.named s.vars && (c.stops == []) && (c.knobs == []) &&
  (c.maps == (fn.params.toList ++ s.plain.varTypes P).any (P.mapsRec ·)) && (c.ifaces == (fn.params.toList ++ s.plain.varTypes P).any (P.ifacesRec ·)) && (c.mapsOut == P.mapsAmong fn.resultTypes.toList) &&
  (c.loops == (fn.params.toList ++ s.plain.varTypes P).any (P.loopsFrom ·)) && (c.wideKeys == (fn.params.toList ++ s.plain.varTypes P ++ fn.resultTypes.toList).any (P.wideKeysFrom ·)) &&
  s.vars.all (P.varReadable ·) && fn.resultTypes.all (fun t => P.readableRec t && decide (t < P.types.size)) && (c.ifacesOut == fn.resultTypes.toList.any (P.ifacesRec ·)) && (c.loopsOut == fn.resultTypes.toList.any (P.loopsFrom ·)) && c.shortTexts.isNone &&
  (c.kinds == (if c.domain.isEmpty then [] else fn.params.toList.map fun t => match P.underlying t with | some (.int k) => some k | _ => none)) && (c.pinned == c.pinnedBy) &&
  (c.veiled == (fn.params.toList ++ s.plain.varTypes P ++ fn.resultTypes.toList).any (P.veiledRec ·)) && c.veiledFits P fn.params.toList (fn.params.toList ++ s.plain.varTypes P ++ fn.resultTypes.toList)
theorem joined_all {P : Program} {f : FuncId} {fn : Func} {s : ChangeSpec} {c : OpenClaim} (k1 : c.wf (OpenSpec.ofChange s) = true) (kt : typeFacts P fn s c = true)
    (k10 : (c.inPlace == P.inPlace f) = true) (k11 : (c.unfollowed == P.unfollowed f) = true) (k12 : (c.recurses == P.recurses f) = true) (k13 : (c.named == P.varsNamed f) = true)
    (e2 : laidOutB P = true) (e3 : mapsRowed P = true) (e7 : (P.stops == []) = true) (e9 : (P.stopKnobs == []) = true) (e22 : (c.plainKeys == P.plainKeys) = true) (e23 : P.stopsHeard = true) (e24 : P.mayEnter = true)
    (e24b : (c.lifted == P.liftsFinal) = true) (e24c : (P.make == some c.make) = true) : joinedFacts P f fn s c = true := by
  unfold typeFacts at kt
  unfold joinedFacts
  simp only [Bool.and_eq_true] at kt ⊢
  obtain ⟨⟨⟨⟨⟨⟨⟨⟨⟨⟨⟨⟨⟨⟨⟨⟨⟨t1, t2⟩, t3⟩, t4⟩, t5⟩, t6⟩, t7⟩, t8⟩, t9⟩, t10⟩, t11⟩, t12⟩, t13⟩, t14⟩, t15⟩, t16⟩, t17⟩, t18⟩ := kt
  exact ⟨⟨⟨⟨⟨⟨⟨⟨⟨⟨⟨⟨⟨⟨⟨⟨⟨⟨⟨⟨⟨⟨⟨⟨⟨⟨⟨⟨⟨⟨⟨k1, e2⟩, e3⟩, t1⟩, t2⟩, t3⟩, e7⟩, t4⟩, e9⟩, k10⟩, k11⟩, k12⟩, k13⟩, t5⟩, t6⟩, t7⟩, t8⟩, t9⟩, t10⟩, t11⟩, t12⟩, t13⟩, e22⟩, t14⟩, e23⟩, e24⟩, e24b⟩, e24c⟩, t15⟩, t16⟩, t17⟩, t18⟩
theorem joined_of {f : FuncId} {fn : Func} {s : ChangeSpec} {c : OpenClaim} (k1 : c.wf (OpenSpec.ofChange s) = true) (kt : typeFacts Try.prog fn s c = true)
    (k10 : (c.inPlace == Try.prog.inPlace f) = true) (k11 : (c.unfollowed == Try.prog.unfollowed f) = true) (k12 : (c.recurses == Try.prog.recurses f) = true) (k13 : (c.named == Try.prog.varsNamed f) = true)
    (k22 : c.plainKeys = true) (k24b : c.lifted = false) (k24c : c.make = .cut) : joinedFacts Try.prog f fn s c = true :=
  joined_all k1 kt k10 k11 k12 k13 Try.laidOut Try.mapsRowed Try.stops Try.stopKnobs (by rw [k22, Try.plainKeys]; rfl) Try.stopsHeard Try.mayEnter (by rw [k24b, Try.liftsFinal]; rfl) (by rw [k24c, Try.make]; rfl)
end Go.Proofs.Ytepoabbkalhifaa
