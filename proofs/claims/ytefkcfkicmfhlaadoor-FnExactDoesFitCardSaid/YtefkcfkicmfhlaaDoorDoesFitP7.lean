/-
  Texts put together for the claims of 'DoesFit' (pack 7): PartM, FitS, FitM, PartOf.
-/
import Derived.Test.YtefkcfkicmfhlaaDoorDoesFitP3
import Derived.Test.YtefkcfkicmfhlaaDoorDoesFitP5
import Derived.Test.YtefkcfkicmfhlaaDoorDoesFitP6
import Derived.Deep.RegionHeld3
import Derived.Deep.RegionLawGrows
import Derived.Deep.RegionLaw
import Derived.Deep.AppendLies
/-
  'spec.paParts', by its contract; 'PartsOfParty' of the model.
-/
namespace Go.Proofs.YtefkcfkicmfhlaaDoor
open Go.RowKit

theorem Tryd.infoRowP : (Tryd.prog.info? 64).map (fun i => (i.zero, i.size, i.bytes)) = some (some (.slice none 0 0), 1, 24) := by kernel_rfl
theorem Tryd.infoBoolP : (Tryd.prog.info? 4).map (fun i => (i.zero, i.size, i.bytes)) = some (some (.bool false), 1, 1) := by kernel_rfl
theorem own_boolFn {w : World} {B g n c x : Nat} {s : Nat → Bool} (h : w.ownsRow B 4 1 (.slice (some ⟨g, 0, none⟩) n c) n (bcells ((List.range n).map s))) (hx : x < n) : w.cell? ⟨g, x, none⟩ = some (.bool (s x)) :=
  own_boolAt h (by rw [List.getElem?_map, List.getElem?_range hx]; rfl)
theorem own_setBoolFn {w : World} {B g n c b : Nat} {s : Nat → Bool} (h : w.ownsRow B 4 1 (.slice (some ⟨g, 0, none⟩) n c) n (bcells ((List.range n).map s))) :
    (w.setCell ⟨g, b, none⟩ (.bool true)).ownsRow B 4 1 (.slice (some ⟨g, 0, none⟩) n c) n (bcells ((List.range n).map fun x => if x = b then true else s x)) := by
  have h2 := own_setBool h b true
  rw [map_range_set] at h2
  exact h2
theorem grown_far {W0 W W' : World} {gs : Nat} {row : Option Nat} (h : W0.grownBy W (some gs)) (hg : W.grownBy W' row) (hr : ∀ k, row = some k → W0.heap.size ≤ k) : W0.grownBy W' (some gs) :=
  ⟨hg.os.trans h.os, hg.tape.trans h.tape, hg.output.trans h.output, Nat.le_trans h.size hg.size, fun k hk hne => (hg.block k (by have := h.size; omega) (fun e => by have := hr k e.symm; omega)).trans (h.block k hk hne)⟩
theorem grown_set (W : World) (gs y : Nat) (v : Value) : W.grownBy (W.setCell ⟨gs, y, none⟩ v) (some gs) :=
  ⟨rfl, rfl, rfl, by simp, fun k _ hk => Below.heap_setCell W _ _ k (fun e => hk (by rw [e]))⟩
set_option maxHeartbeats 2000000 in
set_option maxRecDepth 100000 in
theorem paParts_any (n : Nat) (l : PL) (A : Option Addr) (c : Nat) (w : World) (hp : isP n l = true) (hA : CRead w w.heap.size A (pcells l)) :
    Calls Tryd.prog 98 #[.agg #[.int .i64 n, .slice A l.length c]] w fun e w' => ∃ A' c' R C, e = .returned (.slice A' (partsI (lab n l) n).length c') ∧ RowsL w' w.heap.size (.slice A' (partsI (lab n l) n).length c') (partsI (lab n l) n) R C ∧ Below w.heap.size w w' := by
  have hr : CRead (w.alloc (Obj.cells #[.int .i64 n, .slice A l.length c] 34)) (w.alloc (Obj.cells #[.int .i64 n, .slice A l.length c] 34)).heap.size A (pcells l) := (hA.below (B' := w.heap.size) (by go_grown) (Nat.le_refl _)).more (by go_size)
  obtain ⟨i0, hi, hz0, hz1, hz2⟩ := info_parts Tryd.infoInt
  obtain ⟨i1, hj, hy0, hy1, hy2⟩ := info_parts Tryd.infoBoolP
  obtain ⟨i2, hk, hx0, hx1, hx2⟩ := info_parts Tryd.infoRowP
  have hn := isP_range hp
  have hn12 : n ≤ 12 := by omega
  have calt := paTable_any n l A c _ hp hr
  simp only [Int.toNat_natCast] at calt
  have hown := fun c hc => lab_own (lab_in hp) c hc
  have hnew := fun a => partsTo_new (f := lab n l) (n := n) (a := a)
  have hold := fun a => partsTo_old (f := lab n l) (n := n) (a := a)
  have hfew := partsTo_few (lab n l) n
  rw [← partsTo_all]
  have Calt := Lib.hid calt
  have Hp := Lib.hid hp
  have Hown := Lib.hid hown
  have Hnew := Lib.hid hnew
  have Hold := Lib.hid hold
  have Hfew := Lib.hid hfew
  clear calt hp hown hnew hold hfew
  go_enter Tryd.func98, Tryd.ntmps98
  go_wp2_with fail
  refine Calt.out.mono ?_
  rintro e w3 ⟨A3, c3, G, rfl, tab, hb3⟩
  have p0 : w3.cell? ⟨w.heap.size, 0, none⟩ = some (.int .i64 n) := carry hb3 (by simp) (by simp)
  have p1 : w3.cell? ⟨w.heap.size, 1, none⟩ = some (.slice A l.length c) := carry hb3 (by simp) (by simp)
  have s3 := hb3.size
  simp only [World.size_alloc] at hb3 s3 tab
  have k3 : Below w.heap.size w w3 := Below.trans (b := _) (by go_grown) (hb3.mono (by omega))
  have Tab := Lib.hid tab
  have K3 := Lib.hid k3
  clear tab hb3 k3 Calt
  go_wp2_with (at_make; refine wpList_make_full _ rfl _ _ 109 rfl w3.heap.size 4 i1 _ 1 Tryd.underlying109 hj hy0 hy1 _ _ _ _ n rfl rfl (by omega) (by omega) (by rw [hy2]; omega) (by unfold maxLen; omega) (Nat.le_refl _) ?_; intro w4 hown4 hgr4)
  rw [show Value.cells (.bool false) = #[.bool false] from rfl, made_bools] at hown4
  obtain ⟨gs, hgs⟩ : ∃ gs, w3.heap.size = gs := ⟨_, rfl⟩
  rw [hgs] at hown4
  have hs0 : bcells (List.replicate n false) = bcells ((List.range n).map (snQ n l 0 [])) := by
    congr 1
    symm
    rw [List.eq_replicate_iff]
    refine ⟨by simp, fun x hx => ?_⟩
    obtain ⟨y, hy, rfl⟩ := List.mem_map.1 hx
    rw [snQ_nil]
    exact decide_eq_false (by have := (Hown.out y (List.mem_range.1 hy)).1; omega)
  rw [hs0] at hown4
  have k4 : Below w3.heap.size w3 w4 := below_of_gb hgr4 (Nat.le_refl _)
  have s4 := (own_lt hown4).2
  obtain ⟨B0, hB0⟩ : ∃ B0, w4.heap.size = B0 := ⟨_, rfl⟩
  rw [hB0] at s4
  rw [hgs] at k4 s3
  have Own4 := Lib.hid hown4
  have K4 := Lib.hid k4
  have hB04 : B0 ≤ w4.heap.size := by omega
  have hgs3 : w3.heap.size ≤ gs := by omega
  rw [hgs]
  clear hown4 hgr4 k4 hgs hB0 hs0
  go_loopw [5, 19] (fun v av wr => ∃ (a : Nat) (Av : Option Addr) (cv : Nat) (R : Nat → Option Addr) (C : Nat → Nat), a ≤ n ∧ av = .int .i64 a ∧ v = .slice Av (partsTo (lab n l) n a).length cv ∧ RowsL wr B0 (.slice Av (partsTo (lab n l) n a).length cv) (partsTo (lab n l) n a) R C ∧
    wr.ownsRow gs 4 1 (.slice (some ⟨gs, 0, none⟩) n n) n (bcells ((List.range n).map (snQ n l a []))) ∧ B0 ≤ wr.heap.size ∧ Below gs w3 wr) (fun _ av _ => n - (intOf av).toNat)
  case atStart => exact ⟨0, none, 0, _, _, Nat.zero_le _, rfl, rfl, RowsL.none _ _, Own4.out, hB04, K4.out⟩
  case round =>
    obtain ⟨a, Av, cv, R, C, ha, rfl, rfl, rows, seen, hsz, hb⟩ := hrel
    by_cases hlt : a < n
    · have hai : (a : Int) < (n : Int) := by omega
      have ca := own_boolFn seen hlt
      have hfa := Hown.out a hlt
      rw [snQ_nil] at ca
      by_cases hseen : lab n l a < a
      · rw [decide_eq_true hseen] at ca
        have hpt := Hold.out a (by omega)
        have hsn : bcells ((List.range n).map (snQ n l a [])) = bcells ((List.range n).map (snQ n l (a + 1) [])) := by
          congr 1
          refine List.map_congr_left fun x hx => ?_
          have hx2 := Hown.out x (List.mem_range.1 hx)
          rw [snQ_nil, snQ_nil, Bool.eq_iff_iff, decide_eq_true_eq, decide_eq_true_eq]
          constructor
          · intro h; omega
          · intro h
            by_cases he : lab n l x = a
            · exfalso
              rw [he] at hx2
              have h9 := hx2.2.2
              rw [Int.toNat_natCast] at h9
              omega
            · omega
        rw [hsn] at seen
        rw [← hpt] at rows
        have Rows := Lib.hid rows
        have Seen := Lib.hid seen
        have Hpt := Lib.hid (show (partsTo (lab n l) n (a + 1)).length = (partsTo (lab n l) n a).length by rw [hpt])
        clear rows seen hpt hsn hseen hfa
        go_wp2
        go_roundw
        case rel => exact ⟨a + 1, Av, cv, R, C, by omega, by go_num, by rw [Hpt.out], Rows.out, Seen.out, hsz, hb⟩
        case measure => simp [intOf]; omega
      · rw [decide_eq_false hseen] at ca
        have hfe : lab n l a = a := by omega
        have hpt := Hnew.out a hfe
        have fa := seen.frozenAt a
        have seen1 := own_setBoolFn (b := a) seen
        rw [snQ_push] at seen1
        rw [List.nil_append] at seen1
        have hbeg := Pfs.begin hlt hfe
        have Hbeg := Lib.hid hbeg
        obtain ⟨W0, hW0⟩ : ∃ W0, wr.setCell ⟨gs, a, none⟩ (.bool true) = W0 := ⟨_, rfl⟩
        rw [hW0] at seen1
        have z0 : W0.heap.size = wr.heap.size := by rw [← hW0]; simp
        have hbW : Below gs w3 W0 := by rw [← hW0]; exact hb.setCell (p := ⟨gs, a, none⟩) (Nat.le_refl _) _
        have hgsB : gs < B0 := s4
        have rowsW : RowsL W0 B0 (.slice Av (partsTo (lab n l) n a).length cv) (partsTo (lab n l) n a) R C := by
          refine rows.keptG (x := .slice (some ⟨gs, 0, none⟩) n n) (lo := gs) (hi := gs + 1) ?_ (fun k hk => by simp [Value.ownBlock] at hk; omega) (by omega)
          rw [← hW0]
          exact ⟨rfl, rfl, rfl, by simp, fun k _ hk => Below.heap_setCell wr _ _ k (fun e => hk (by simp [Value.ownBlock]; exact e))⟩
        have RowsW := Lib.hid rowsW
        have Seen1 := Lib.hid seen1
        have HbW := Lib.hid hbW
        have HW0 := Lib.hid hW0
        have Hpt := Lib.hid hpt
        have hszW : B0 ≤ W0.heap.size := by omega
        clear rows seen seen1 hbeg hW0 hbW rowsW hpt hb
        obtain ⟨N0, hN0⟩ : ∃ N0, wr.heap.size = N0 := ⟨_, rfl⟩
        go_wp2
        go_loopw [7, 8, 9] (fun q pv kv w2 => ∃ (Q : List Nat) (i : Nat), kv = .int .i64 i ∧ i ≤ Q.length ∧ Pfs n l a Q i ∧ (i = 0 → pv = .slice none 0 0) ∧ w2.ownsRow N0 3 1 q Q.length (qcells Q) ∧ w2.ownsRow N0 3 1 pv i (icells (partQ Q i)) ∧
          w2.ownsRow gs 4 1 (.slice (some ⟨gs, 0, none⟩) n n) n (bcells ((List.range n).map (snQ n l a Q))) ∧ N0 ≤ w2.heap.size ∧ W0.grownBy w2 (some gs) ∧ Below gs w3 w2) (fun _ _ kv _ => n - (intOf kv).toNat)
        case atStart =>
          have own3 := own_built1 (wr.setCell ⟨gs, a, none⟩ (.bool true)) a
          rw [show (wr.setCell ⟨gs, a, none⟩ (.bool true)).heap.size = N0 by rw [HW0.out, z0, hN0]] at own3
          refine ⟨[a], 0, rfl, Nat.zero_le _, Hbeg.out, fun _ => rfl, ?_, by rw [partQ_zero]; exact World.ownsRow_nil _ _ _ _, ?_, ?_, ?_, ?_⟩
          · exact own3
          · rw [HW0.out]; exact Seen1.out.alloc _
          · simp; omega
          · rw [HW0.out]; exact World.grownBy_alloc W0 _ _
          · rw [HW0.out]; exact HbW.out.alloc (by omega) _
        case round =>
          obtain ⟨Q, i, rfl, hiQ, hpfs, hp0, hq, hpart, hseen, hsz2, hg, hb⟩ := hrel
          have hfew := hpfs.few
          have Hpfs := Lib.hid hpfs
          have HG := Lib.hid hg
          clear hpfs hg
          by_cases hlt2 : i < Q.length
          · obtain ⟨u, hu⟩ := getSome Q i hlt2
            have hun := Hpfs.out.inn u (List.mem_of_getElem? hu)
            obtain ⟨Aq, cq, rfl, _⟩ := own_shape hq
            obtain ⟨gq, rfl⟩ := own_form hq (by omega)
            have hcu : ∀ v : World, v.ownsRow N0 3 1 (.slice (some ⟨gq, 0, none⟩) Q.length cq) Q.length (qcells Q) → v.cell? ⟨gq, i, none⟩ = some (.int .i64 u) := fun v h => own_intAt h (by rw [List.getElem?_map, hu]; rfl)
            have cu := hcu _ hq
            have hpn := partQ_next Hpfs.out.nodup hu
            have hput : Calls Tryd.prog 128 #[u8, .int .i64 u] wr fun e w' => ∃ A' c', e = .returned (.slice A' (i + 1) c') ∧ w'.ownsRow wr.heap.size 3 1 (.slice A' (i + 1) c') (i + 1) (icells (partQ Q (i + 1))) ∧ Below wr.heap.size wr w' := by
              by_cases hi0 : i = 0
              · subst hi0
                rw [hp0 rfl]
                have h := l1Put_nil u wr
                have e : partQ Q (0 + 1) = [(u : Int)] := by rw [← hpn.2, partQ_zero]; rfl
                rw [e]
                exact h
              · obtain ⟨Ap, cp, rfl, _⟩ := own_shape hpart
                obtain ⟨gp, rfl⟩ := own_form hpart (by omega)
                have hl := partQ_length (Q := Q) (i := i) (by omega)
                have h := l1Put_any (partQ Q i) u gp cp wr (by omega) (by rw [hl]; exact own_cap hpart) hpn.1 (CRead.of_own hpart) (own_lt hpart).2
                rw [hl, hpn.2] at h
                exact h
            have Hput := Lib.hid hput
            obtain ⟨S1, hS1⟩ : ∃ S1, wr.heap.size = S1 := ⟨_, rfl⟩
            have gqS : gq < S1 := by have := (own_lt hq).2; omega
            have calf := fun (X : World) (hX : Below w3.heap.size w3 X) => paFriends_any n u (adj l) A3 c3 G _ X hn12 hun (Tab.out.below hX (Nat.le_refl _))
            have hfat : ∀ (j : Nat) (x : Int), (friendR n (adj l u))[j]? = some x → ∃ y : Nat, x = y ∧ y < n ∧ adj l u y = true := fun j x h => friendR_at h
            have hfall : ∀ b, b < n → adj l u b = true → ∃ j : Nat, (friendR n (adj l u))[j]? = some (b : Int) := fun b hb1 hb2 => friendR_all hb1 hb2
            have hflen : (friendR n (adj l u)).length ≤ 12 := Nat.le_trans (friendR_le n _) hn12
            obtain ⟨fs, hfs⟩ : ∃ fs, friendR n (adj l u) = fs := ⟨_, rfl⟩
            simp only [hfs] at calf hfat hfall hflen
            have Calf := Lib.hid calf
            have Hu := Lib.hid hu
            have Hfat := Lib.hid hfat
            have Hfall := Lib.hid hfall
            have hii : (i : Int) < (Q.length : Int) := by omega
            have Hq := Lib.hid hq
            have Hseen := Lib.hid hseen
            clear calf hu hfat hfall hfs hput hpn hp0 hpart hseen
            go_wp2_with fail
            refine Hput.out.mono ?_
            rintro e w5 ⟨A5, c5, rfl, own5, hb5⟩
            rw [hS1] at own5 hb5
            have q5 := own_below Hq.out hb5 (by omega)
            have cu5 := hcu _ q5
            have s5 := hb5.size
            have kb5 : Below gs w3 w5 := hb.trans (hb5.mono (by omega))
            have seen5 := own_below Hseen.out hb5 (by omega)
            have Own5 := Lib.hid own5
            have Seen5 := Lib.hid seen5
            have Q5 := Lib.hid q5
            have G5 : W0.grownBy w5 (some gs) := HG.out.trans (below_grownBy hb5 (by omega) _)
            have HG5 := Lib.hid G5
            clear own5 seen5 q5 hq cu G5 Hput Hq Hseen
            go_wp2_with fail
            refine (Calf.out w5 (kb5.mono (by omega))).mono ?_
            rintro e w6 ⟨A6, c6, rfl, own6, hb6⟩
            obtain ⟨S2, hS2⟩ : ∃ S2, w5.heap.size = S2 := ⟨_, rfl⟩
            rw [hS2] at own6 hb6 s5
            have s6 := hb6.size
            have kb6 : Below gs w3 w6 := kb5.trans (hb6.mono (by omega))
            have Own6 := Lib.hid own6
            have Part6 := Lib.hid (own_below Own5.out hb6 (by omega))
            have Seen6 := Lib.hid (own_below Seen5.out hb6 (by omega))
            have Q6 := Lib.hid (own_below Q5.out hb6 (by omega))
            have HG6 := Lib.hid (HG5.out.trans (below_grownBy hb6 (by omega) _))
            have KB6 := Lib.hid kb6
            clear own6 kb6 kb5 cu5 hb5 Own5 Seen5 Q5 HG5 hb6 hb Calf
            go_wp2
            go_loopw [7, 50] (fun q jv wi => ∃ (Q' : List Nat) (j : Nat), jv = .int .i64 j ∧ j ≤ fs.length ∧ Pfs n l a Q' i ∧ Q'[i]? = some u ∧ Q'.take (i + 1) = Q.take (i + 1) ∧ (∀ (j' : Nat) (y : Nat), j' < j → fs[j']? = some (y : Int) → y ∈ Q') ∧
              wi.ownsRow N0 3 1 q Q'.length (qcells Q') ∧ wi.ownsRow gs 4 1 (.slice (some ⟨gs, 0, none⟩) n n) n (bcells ((List.range n).map (snQ n l a Q'))) ∧ wi.ownsRow S2 3 1 (.slice A6 fs.length c6) fs.length (icells fs) ∧
              wi.ownsRow S1 3 1 (.slice A5 (i + 1) c5) (i + 1) (icells (partQ Q (i + 1))) ∧ (∀ bq, q.ownBlock = some bq → bq < S1 ∨ w6.heap.size ≤ bq) ∧ w6.heap.size ≤ wi.heap.size ∧ W0.grownBy wi (some gs) ∧ Below gs w3 wi) (fun _ jv _ => fs.length - (intOf jv).toNat)
            case atStart => exact ⟨Q, 0, rfl, Nat.zero_le _, Hpfs.out, Hu.out, rfl, fun j' y hj => by omega, Q6.out, Seen6.out, Own6.out, Part6.out, fun bq hbq => by simp [Value.ownBlock] at hbq; omega, Nat.le_refl _, HG6.out, KB6.out⟩
            case round =>
              obtain ⟨Q', j, rfl, hj, hpf, hu', htk, hdone, hq, hseen, hfs, hpart, hap, hsz3, hg, hb⟩ := hrel
              have hfew' := hpf.few
              have Hpf := Lib.hid hpf
              have Hu' := Lib.hid hu'
              have Hdone := Lib.hid hdone
              have Hap := Lib.hid hap
              have Htk := Lib.hid htk
              have HG := Lib.hid hg
              clear hpf hu' hdone hap htk hg
              have hiQ' : i < Q'.length := (List.getElem?_eq_some_iff.1 Hu'.out).1
              by_cases hlt3 : j < fs.length
              · obtain ⟨x, hx⟩ := getSome fs j hlt3
                obtain ⟨y, rfl, hyn, hty⟩ := Hfat.out j x hx
                obtain ⟨bb, off, rfl, hbb, c0⟩ := (CRead.of_own hfs).int hx
                have cy := own_boolFn hseen hyn
                rw [snQ_friend Hp.out Hpf.out (List.mem_of_getElem? Hu'.out) hty] at cy
                have fy := hseen.frozenAt y
                have hji : (j : Int) < (fs.length : Int) := by omega
                have hyi : (y : Int) < (n : Int) := by omega
                have Hx := Lib.hid hx
                cases hin : Q'.contains y with
                | true =>
                  have hyQ : y ∈ Q' := List.contains_iff_mem.1 hin
                  rw [hin] at cy
                  have HyQ := Lib.hid hyQ
                  have Hseen := Lib.hid hseen
                  clear hx hyQ hin hseen
                  go_wp2
                  go_roundw
                  case rel =>
                    refine ⟨Q', j + 1, by go_num, by omega, Hpf.out, Hu'.out, Htk.out, ?_, hq, Hseen.out, hfs, hpart, Hap.out, hsz3, HG.out, hb⟩
                    intro j' z hj' hz
                    by_cases hjj : j' = j
                    · subst hjj
                      rw [Hx.out] at hz
                      have hzy := Option.some.inj hz
                      rw [show z = y by omega]
                      exact HyQ.out
                    · exact Hdone.out j' z (by omega) hz
                  case measure => simp [intOf]; omega
                | false =>
                  have hyQ : y ∉ Q' := fun h => by rw [List.contains_iff_mem.2 h] at hin; cases hin
                  rw [hin] at cy
                  have hpush := Hpf.out.push Hp.out Hu'.out hty hyQ
                  have hfew2 := hpush.few
                  rw [List.length_append, List.length_singleton] at hfew2
                  have hseen2 := own_setBoolFn (b := y) hseen
                  rw [snQ_push] at hseen2
                  have hq2 := ownsRow_setCell_below hq (a := ⟨gs, y, none⟩) (by show gs < N0; omega) (.bool true)
                  have hfs2 := ownsRow_setCell_below hfs (a := ⟨gs, y, none⟩) (by show gs < S2; omega) (.bool true)
                  have hpart2 := ownsRow_setCell_below hpart (a := ⟨gs, y, none⟩) (by show gs < S1; omega) (.bool true)
                  have hb2 : Below gs w3 (wr.setCell ⟨gs, y, none⟩ (.bool true)) := hb.setCell (p := ⟨gs, y, none⟩) (Nat.le_refl _) _
                  have hg2 := HG.out.trans (grown_set wr gs y (.bool true))
                  have Hpush := Lib.hid hpush
                  have Hseen2 := Lib.hid hseen2
                  have Hq2 := Lib.hid hq2
                  have Hfs2 := Lib.hid hfs2
                  have Hpart2 := Lib.hid hpart2
                  have Hb2' := Lib.hid hb2
                  have HG2 := Lib.hid hg2
                  have hsq : N0 ≤ wr.heap.size := by omega
                  clear hx hpush hseen2 hq2 hfs2 hpart2 hb2 hg2 hq hseen hfs hpart hb hin hyQ HG
                  have hbox : ((wr.setCell ⟨gs, y, none⟩ (.bool true)).alloc (Obj.cells #[.int .i64 y] 3)).cell? ⟨wr.heap.size, 0, none⟩ = some (.int .i64 y) := by
                    have h := heap_alloc_new (wr.setCell ⟨gs, y, none⟩ (.bool true)) (Obj.cells #[.int .i64 y] 3)
                    rw [show (wr.setCell ⟨gs, y, none⟩ (.bool true)).heap.size = wr.heap.size by simp] at h
                    rw [cell_of_row _ _ _ _ _ _ h]
                    rfl
                  have Hbox := Lib.hid hbox
                  clear hbox
                  go_wp2_with (at_builtin; refine Go.wpList_append_own_at _ rfl _ _ 64 rfl N0 3 i0 _ 1 8 Tryd.underlying64 hi hz0 hz1 hz2 rfl (by decide) _ _ _ rfl (Hq2.out.alloc _) ⟨wr.heap.size, 0, none⟩ 1 1 [.int .i64 y] rfl rfl (one_cell Hbox.out) (one_one rfl) (by unfold maxLen; omega) (by omega) (by simp; omega) ?_; intro v1 w7 hown7 hg7 _ hloc; obtain ⟨A1, d1', rfl, _⟩ := own_shape hown7)
                  go_roundw
                  case rel =>
                    refine ⟨Q' ++ [y], j + 1, by go_num, by omega, Hpush.out, ?_, ?_, ?_, ?_, ?_, ?_, ?_, ?_, ?_, ?_, ?_⟩
                    · rw [List.getElem?_append_left hiQ']; exact Hu'.out
                    · rw [List.take_append_of_le_length (by omega)]; exact Htk.out
                    · intro j' z hj' hz
                      by_cases hjj : j' = j
                      · subst hjj
                        rw [Hx.out] at hz
                        have hzy := Option.some.inj hz
                        exact List.mem_append_right _ (by simp; omega)
                      · exact List.mem_append_left _ (Hdone.out j' z (by omega) hz)
                    · rw [List.length_append, List.length_singleton]
                      unfold qcells
                      rw [List.map_append, List.map_singleton, icells_append]
                      exact hown7
                    · refine (Hseen2.out.alloc _).kept hg7 (.inr fun e => ?_)
                      have := (Hq2.out.lt gs e.symm).1
                      omega
                    · refine (Hfs2.out.alloc _).kept hg7 (.inr fun e => ?_)
                      have h1 := Hap.out bb e.symm
                      have h2 := Own6.out.lt bb rfl
                      omega
                    · cases hA5 : (Value.slice A5 (i + 1) c5).ownBlock with
                      | none => exact (Hpart2.out.alloc _).kept hg7 (.inl hA5)
                      | some b5 =>
                        refine (Hpart2.out.alloc _).kept hg7 (.inr fun e => ?_)
                        rw [hA5] at e
                        have h1 := Hap.out b5 e.symm
                        have h2 := Part6.out.lt b5 hA5
                        omega
                    · intro bq hbq
                      rcases hloc with h | h
                      · rw [h] at hbq; exact Hap.out bq hbq
                      · rw [h] at hbq
                        simp at hbq
                        omega
                    · have h := hg7.size
                      simp at h
                      omega
                    · exact grown_far (HG2.out.trans (World.grownBy_alloc _ _ _)) hg7 (fun k hk => by have := (Hq2.out.lt k hk).1; omega)
                    · exact (Hb2'.out.alloc (by simp; omega) _).grown hg7 (by simp; omega) fun b hb => by have := (Hq2.out.lt b hb).1; omega
                  case measure => simp [intOf]; omega
              · have hge : ¬ ((j : Int) < (fs.length : Int)) := by omega
                have hnx := Hpf.out.next Hu'.out fun b hb2 => by
                  obtain ⟨j', hj'⟩ := Hfall.out b (adj_of Hp.out hb2).2.1 hb2
                  exact Hdone.out j' b (by have := (List.getElem?_eq_some_iff.1 hj').1; omega) hj'
                have Hnx := Lib.hid hnx
                have hpq : partQ Q' (i + 1) = partQ Q (i + 1) := by unfold partQ; rw [Htk.out]
                have Part7 := Lib.hid (show wr.ownsRow N0 3 1 (.slice A5 (i + 1) c5) (i + 1) (icells (partQ Q' (i + 1))) by rw [hpq]; exact own_lower hpart (by omega))
                have Hb := Lib.hid hb
                have Hq := Lib.hid hq
                have Hseen := Lib.hid hseen
                clear hnx hb hq hseen hpart hpq hfs
                go_wp2
                go_roundw
                case rel => exact ⟨Q', i + 1, by go_num, by omega, Hnx.out, (fun h => by omega), Hq.out, Part7.out, Hseen.out, by omega, HG.out, Hb.out⟩
                case measure => simp [intOf]; omega
          · have hil : i = Q.length := by omega
            subst hil
            have hii : ¬ ((Q.length : Int) < (Q.length : Int)) := by omega
            obtain ⟨Aq, cq, rfl, _⟩ := own_shape hq
            have hrow := Hpfs.out.row Hp.out hlt (by omega)
            have hpl := partQ_length (Q := Q) (i := Q.length) (by omega)
            obtain ⟨L, hL⟩ : ∃ L, rowOf (lab n l) n a = L := ⟨_, rfl⟩
            rw [hL] at hrow
            rw [hrow] at hpl
            obtain ⟨Ap, cp, rfl, _⟩ := own_shape hpart
            have rowsN : RowsL wr B0 (.slice Av (partsTo (lab n l) n a).length cv) (partsTo (lab n l) n a) R C :=
              RowsW.out.keptG (x := .slice (some ⟨gs, 0, none⟩) n n) (lo := gs) (hi := gs + 1) HG.out (fun k hk => by simp [Value.ownBlock] at hk; omega) (by omega)
            have hap := RowsW.out.fresh (x := .slice Ap L.length cp) (lo := N0) (hi := wr.heap.size) (by rw [hpl]; exact own_lies hpart) (by omega)
            have part2 : wr.ownsRow B0 3 1 (.slice Ap L.length cp) L.length (icells L) := by rw [hpl, ← hrow]; exact own_lower hpart (by omega)
            have hsn : bcells ((List.range n).map (snQ n l a Q)) = bcells ((List.range n).map (snQ n l (a + 1) [])) := by
              congr 1
              exact List.map_congr_left fun x hx => snQ_done Hp.out hlt Hpfs.out (by omega) (List.mem_range.1 hx)
            rw [hsn] at hseen
            have hpt := Hpt.out
            rw [hL] at hpt
            have hfw := Hfew.out a
            have hoW := rowsN.own
            have RowsN := Lib.hid rowsN
            have HAp := Lib.hid hap
            have Part2 := Lib.hid part2
            have HSeen := Lib.hid hseen
            have HPt := Lib.hid hpt
            have Hpl := Lib.hid hpl
            have Hb := Lib.hid hb
            have szB : B0 ≤ wr.heap.size := by omega
            clear hrow hL hpart rowsN hap part2 hsn hseen hpt hpl hq hb hp0
            go_wp2_with (at_builtin; refine wpList_append_own _ rfl _ _ 114 rfl B0 64 i2 (.slice none 0 0) 1 24 Tryd.underlying114 hk hx0 hx1 hx2 rfl (by decide) _ _ _ rfl (hoW.alloc _) ⟨wr.heap.size, 0, none⟩ 1 1 [.slice Ap Q.length cp] rfl rfl (one_cell (by simp)) (one_one rfl) (by unfold maxLen; omega) (by omega) (by simp; omega) ?_; intro v1 w7 hown7 hg7 _; obtain ⟨A1, d1, rfl, _⟩ := own_shape hown7)
            have ch3 := RowsL.push (l := L) (RowsN.out.below ((Below.refl wr.heap.size wr).alloc (Nat.le_refl _) _)) (Part2.out.alloc _) HAp.out hg7 (by rw [Hpl.out]; exact hown7)
            have seen7 := (HSeen.out.alloc _).kept hg7 (.inr fun e => by have := (hoW.lt gs e.symm).1; omega)
            have hb7 := (Hb.out.alloc (by omega) _).grown hg7 (by simp; omega) (fun b hb => by have := (hoW.lt b hb).1; omega)
            have hs7 : B0 ≤ w7.heap.size := by have := hg7.size; simp at this; omega
            have Ch3 := Lib.hid ch3
            have Seen7 := Lib.hid seen7
            have Hb7 := Lib.hid hb7
            clear ch3 seen7 hb7 hown7 hg7 hoW
            go_roundw
            case rel =>
              refine ⟨a + 1, A1, d1, upN R (partsTo (lab n l) n a).length Ap, upN C (partsTo (lab n l) n a).length cp, by omega, by go_num, by rw [HPt.out, List.length_append, List.length_singleton], ?_, Seen7.out, hs7, Hb7.out⟩
              rw [HPt.out, List.length_append, List.length_singleton]
              exact Ch3.out
            case measure => simp [intOf]; omega
    · have e : a = n := by omega
      subst e
      have hge : ¬ ((a : Int) < (a : Int)) := by omega
      have Rows := Lib.hid rows
      clear rows seen
      go_wp2
      go_ret
      exact ⟨Av, cv, rfl, ⟨R, C, Rows.out.lower (by omega)⟩, K3.out.trans (hb.mono (by omega))⟩
end Go.Proofs.YtefkcfkicmfhlaaDoor
/-
  A PARTY FITS A CLUE: the model's, by its contract; 'DoesFit'.
-/
namespace Go.Proofs.YtefkcfkicmfhlaaDoor
open Go.RowKit

set_option maxHeartbeats 2000000 in
set_option maxRecDepth 100000 in
theorem pzThrees_any (p : Int) (l : PL) (A : Option Addr) (c : Nat) (w : World) (hp : isP p l = true) (hA : CRead w w.heap.size A (pcells l)) :
    Calls Tryd.prog 97 #[.agg #[.int .i64 p, .slice A l.length c]] w fun e w' => e = .returned (.int .i64 (threesN p l : Int)) ∧ Below w.heap.size w w' := by
  have hr : CRead (w.alloc (Obj.cells #[.int .i64 p, .slice A l.length c] 34)) (w.alloc (Obj.cells #[.int .i64 p, .slice A l.length c] 34)).heap.size A (pcells l) := (hA.below (B' := w.heap.size) (by go_grown) (Nat.le_refl _)).more (by go_size)
  obtain ⟨n, rfl⟩ : ∃ n : Nat, p = n := ⟨p.toNat, by have := isP_range hp; omega⟩
  have hn := isP_range hp
  have hthree : threesN n l = (([] :: subsC (adj l) [] (List.range n)).filter (fun l => l.length == 3)).length := by
    have h := subsC_size (adj l) 3 [] (List.range n)
    simp only [List.length_nil, Nat.zero_add] at h
    rw [h]
    unfold threesN groupsL
    rw [Int.toNat_natCast]
  have hsz : ∀ l3 ∈ ([] :: subsC (adj l) [] (List.range n)), l3.length ≤ 1048576 := fun l3 h3 => by
    rcases List.mem_cons.1 h3 with rfl | h3
    · simp
    · have := subsC_short _ _ _ l3 h3
      simp at this
      omega
  have hfew : ([] :: subsC (adj l) [] (List.range n)).length ≤ 4096 := by
    have h1 := subsC_few (adj l) [] (List.range n)
    have h2 : 2 ^ (List.range n).length ≤ 2 ^ 12 := Nat.pow_le_pow_right (by omega) (by simp; omega)
    simp only [List.length_cons]
    omega
  rw [hthree]
  obtain ⟨LL, hLL⟩ : ∃ LL, [] :: subsC (adj l) [] (List.range n) = LL := ⟨_, rfl⟩
  rw [hLL] at hfew ⊢
  simp only [hLL] at hsz
  have Hsz := Lib.hid hsz
  have HLL := Lib.hid hLL
  clear hsz hLL hthree
  have Hp := Lib.hid hp
  clear hp
  go_enter Tryd.func97, Tryd.ntmps97
  go_wp2_with fail
  refine (paTable_any _ _ _ _ _ Hp.out hr).mono ?_
  rw [Int.toNat_natCast]
  rintro e w4 ⟨A4, c4, G, rfl, tab, hb4⟩
  simp only [World.size_alloc] at hb4
  have k4 : Below w.heap.size w w4 := Below.trans (b := _) (by go_grown) (hb4.mono (by omega))
  have g := grGroups_any n (by omega) (adj l) (adj_comm l) A4 c4 G _ w4 tab
  rw [HLL.out] at g
  have Gg := Lib.hid g
  clear g tab hb4 hr
  go_wp2_with fail
  refine Gg.out.mono ?_
  rintro e w5 ⟨A5, c5, hs, rfl, rows, hb5⟩
  have k5 := k4.trans (hb5.mono k4.size)
  clear Gg
  have Rows := Lib.hid rows
  clear rows
  go_wp2
  go_loop [3, 10] (fun v i => ∃ j : Nat, j ≤ LL.length ∧ i = .int .i64 j ∧ v = .int .i64 (((LL.take j).filter (fun l => l.length == 3)).length : Int)) (fun _ i => LL.length - (intOf i).toNat)
  case atStart => exact ⟨0, Nat.zero_le _, by go_num, by go_num⟩
  case round =>
    obtain ⟨j, hj, rfl, rfl⟩ := hrel
    have hcl : ((LL.take j).filter (fun l => l.length == 3)).length ≤ j := Nat.le_trans (List.length_filter_le _ _) (by rw [List.length_take]; omega)
    by_cases hlt : j < LL.length
    · obtain ⟨q, hq⟩ := getSome LL j hlt
      obtain ⟨Aj, cj, hj', ownj⟩ := Rows.out.row j q hq
      obtain ⟨b, off, rfl, hbb, c0⟩ := (CRead.of_own Rows.out.own) j _ hj'
      have hji : (j : Int) < (LL.length : Int) := by omega
      have h1 : ((LL.take (j + 1)).filter (fun l => l.length == 3)).length = ((LL.take j).filter (fun l => l.length == 3)).length + (if q.length = 3 then 1 else 0) := by
        rw [show LL.take (j + 1) = LL.take j ++ [q] by rw [List.take_add_one, hq]; rfl, List.filter_append, List.length_append]
        by_cases h3 : q.length = 3 <;> simp [h3]
      obtain ⟨C, hC⟩ : ∃ C, ((LL.take j).filter (fun l => l.length == 3)).length = C := ⟨_, rfl⟩
      rw [hC] at hcl h1 ⊢
      by_cases h3 : q.length = 3
      · rw [if_pos h3] at h1
        have hb : ((q.length : Int) == 3) = true := by simp; omega
        have H1 := Lib.hid h1
        clear hq hj' h1 ownj hC h3
        go_wp2
        go_round
        case rel => exact ⟨j + 1, by omega, by go_num, by rw [H1.out]; simp⟩
        case measure => simp [intOf]; omega
      · rw [if_neg h3] at h1
        have hb : ((q.length : Int) == 3) = false := by simp; omega
        have H1 := Lib.hid h1
        clear hq hj' h1 ownj hC h3
        go_wp2
        go_round
        case rel => exact ⟨j + 1, by omega, by go_num, by rw [H1.out]; simp⟩
        case measure => simp [intOf]; omega
    · have hje : j = LL.length := by omega
      subst hje
      rw [List.take_length]
      have hge : ¬ ((LL.length : Int) < (LL.length : Int)) := by omega
      go_wp2
      go_ret
      exact ⟨rfl, k5⟩
end Go.Proofs.YtefkcfkicmfhlaaDoor
/-
  'pzFits': the model's look whether a party fits a clue, by its contract.
-/
namespace Go.Proofs.YtefkcfkicmfhlaaDoor
open Go.RowKit

set_option maxHeartbeats 4000000 in
set_option maxRecDepth 100000 in
theorem pzFits_0 (p a b : Int) (l : PL) (A : Option Addr) (c : Nat) (w : World) (hp : isP p l = true) (hA : CRead w w.heap.size A (pcells l)) (hc : isCB p (0, a, b) = true) :
    Calls Tryd.prog 66 #[.agg #[.int .i64 0, .int .i64 a, .int .i64 b], .agg #[.int .i64 p, .slice A l.length c]] w fun e w' => e = .returned (.bool (fitB p l (0, a, b))) ∧ Below w.heap.size w w' := by
  obtain ⟨n, rfl⟩ : ∃ n : Nat, p = n := ⟨p.toNat, by have := isP_range hp; omega⟩
  have hn := isP_range hp
  obtain ⟨X, hX⟩ : ∃ X, (w.alloc (Obj.cells #[.int .i64 0, .int .i64 a, .int .i64 b] 30)).alloc (Obj.cells #[.int .i64 n, .slice A l.length c] 34) = X := ⟨_, rfl⟩
  have kX : Below w.heap.size w X := by rw [← hX]; go_grown
  have sX : X.heap.size = w.heap.size + 2 := by rw [← hX]; simp
  have x1 : X.cell? ⟨w.heap.size, 1, none⟩ = some (.int .i64 a) := by rw [← hX]; exact (World.cell?_alloc_lt _ _ _ (by simp)).trans (by simp)
  have x2 : X.cell? ⟨w.heap.size, 2, none⟩ = some (.int .i64 b) := by rw [← hX]; exact (World.cell?_alloc_lt _ _ _ (by simp)).trans (by simp)
  have p0 : X.cell? ⟨w.heap.size + 1, 0, none⟩ = some (.int .i64 n) := by rw [← hX]; simp
  have p1 : X.cell? ⟨w.heap.size + 1, 1, none⟩ = some (.slice A l.length c) := by rw [← hX]; simp
  have rX : CRead X.drew X.drew.heap.size A (pcells l) := (hA.below kX.drew (Nat.le_refl _)).more kX.drew.size
  have z0 : w.heap.size < X.drew.heap.size := by show w.heap.size < X.heap.size; omega
  have z1 : w.heap.size + 1 < X.drew.heap.size := by show w.heap.size + 1 < X.heap.size; omega
  have y1 : X.drew.cell? ⟨w.heap.size, 1, none⟩ = some (.int .i64 a) := x1
  have y2 : X.drew.cell? ⟨w.heap.size, 2, none⟩ = some (.int .i64 b) := x2
  have y3 : X.drew.cell? ⟨w.heap.size + 1, 0, none⟩ = some (.int .i64 n) := p0
  have y4 : X.drew.cell? ⟨w.heap.size + 1, 1, none⟩ = some (.slice A l.length c) := p1
  have HX := Lib.hid hX
  have Hp := Lib.hid hp
  have hab := isCB_two hc (by omega)
  rw [fitB_0]
  obtain ⟨i, rfl⟩ : ∃ i : Nat, a = i := ⟨a.toNat, by omega⟩
  obtain ⟨j, rfl⟩ : ∃ j : Nat, b = j := ⟨b.toNat, by omega⟩
  have hin : i < n := by omega
  have hjn : j < n := by omega
  have hadj : adj l i j = l.contains ((i : Int), (j : Int)) := by
    rw [adj_areF hp (by omega)]
    unfold areF
    rw [Int.min_eq_left (by omega), Int.max_eq_right (by omega)]
  have Hadj := Lib.hid hadj
  obtain ⟨B, hB⟩ : ∃ B, l.contains ((i : Int), (j : Int)) = B := ⟨_, rfl⟩
  rw [hB] at Hadj
  rw [hB]
  clear hX hp hc hab hadj hB
  go_enter Tryd.func66, Tryd.ntmps66
  go_wp2_with fail
  rw [HX.out]
  go_region_law (first | (go_simp; go_at_call 95; refine (paTable_any _ _ _ _ _ Hp.out rX).mono ?_; simp only [Int.toNat_natCast]; rintro e w3 ⟨A3, c3, G, rfl, tab, hb3⟩; obtain ⟨g, rfl⟩ := own_form tab.own (by omega); have d0 := tab.outer hin; have d1 := tab.cell hin hjn; rw [Hadj.out] at d1; have v1 := carry hb3 y1 z0; have v2 := carry hb3 y2 z0; have v3 := carry hb3 y3 z1; have v4 := carry hb3 y4 z1; have k3 := kX.drew.trans (hb3.mono kX.drew.size)) | fail)
  all_goals
    go_wp2
    go_ret
    exact ⟨rfl, k3⟩
set_option maxHeartbeats 4000000 in
set_option maxRecDepth 100000 in
theorem pzFits_1 (p a b : Int) (l : PL) (A : Option Addr) (c : Nat) (w : World) (hp : isP p l = true) (hA : CRead w w.heap.size A (pcells l)) (hc : isCB p (1, a, b) = true) :
    Calls Tryd.prog 66 #[.agg #[.int .i64 1, .int .i64 a, .int .i64 b], .agg #[.int .i64 p, .slice A l.length c]] w fun e w' => e = .returned (.bool (fitB p l (1, a, b))) ∧ Below w.heap.size w w' := by
  obtain ⟨n, rfl⟩ : ∃ n : Nat, p = n := ⟨p.toNat, by have := isP_range hp; omega⟩
  have hn := isP_range hp
  obtain ⟨X, hX⟩ : ∃ X, (w.alloc (Obj.cells #[.int .i64 1, .int .i64 a, .int .i64 b] 30)).alloc (Obj.cells #[.int .i64 n, .slice A l.length c] 34) = X := ⟨_, rfl⟩
  have kX : Below w.heap.size w X := by rw [← hX]; go_grown
  have sX : X.heap.size = w.heap.size + 2 := by rw [← hX]; simp
  have x1 : X.cell? ⟨w.heap.size, 1, none⟩ = some (.int .i64 a) := by rw [← hX]; exact (World.cell?_alloc_lt _ _ _ (by simp)).trans (by simp)
  have x2 : X.cell? ⟨w.heap.size, 2, none⟩ = some (.int .i64 b) := by rw [← hX]; exact (World.cell?_alloc_lt _ _ _ (by simp)).trans (by simp)
  have p0 : X.cell? ⟨w.heap.size + 1, 0, none⟩ = some (.int .i64 n) := by rw [← hX]; simp
  have p1 : X.cell? ⟨w.heap.size + 1, 1, none⟩ = some (.slice A l.length c) := by rw [← hX]; simp
  have rX : CRead X.drew X.drew.heap.size A (pcells l) := (hA.below kX.drew (Nat.le_refl _)).more kX.drew.size
  have z0 : w.heap.size < X.drew.heap.size := by show w.heap.size < X.heap.size; omega
  have z1 : w.heap.size + 1 < X.drew.heap.size := by show w.heap.size + 1 < X.heap.size; omega
  have y1 : X.drew.cell? ⟨w.heap.size, 1, none⟩ = some (.int .i64 a) := x1
  have y2 : X.drew.cell? ⟨w.heap.size, 2, none⟩ = some (.int .i64 b) := x2
  have y3 : X.drew.cell? ⟨w.heap.size + 1, 0, none⟩ = some (.int .i64 n) := p0
  have y4 : X.drew.cell? ⟨w.heap.size + 1, 1, none⟩ = some (.slice A l.length c) := p1
  have HX := Lib.hid hX
  have Hp := Lib.hid hp
  have hab := isCB_two hc (by omega)
  rw [fitB_1]
  obtain ⟨i, rfl⟩ : ∃ i : Nat, a = i := ⟨a.toNat, by omega⟩
  obtain ⟨j, rfl⟩ : ∃ j : Nat, b = j := ⟨b.toNat, by omega⟩
  have hin : i < n := by omega
  have hjn : j < n := by omega
  have hadj : adj l i j = l.contains ((i : Int), (j : Int)) := by
    rw [adj_areF hp (by omega)]
    unfold areF
    rw [Int.min_eq_left (by omega), Int.max_eq_right (by omega)]
  have Hadj := Lib.hid hadj
  obtain ⟨B, hB⟩ : ∃ B, l.contains ((i : Int), (j : Int)) = B := ⟨_, rfl⟩
  rw [hB] at Hadj
  rw [hB]
  clear hX hp hc hab hadj hB
  go_enter Tryd.func66, Tryd.ntmps66
  go_wp2_with fail
  rw [HX.out]
  go_region_law (first | (go_simp; go_at_call 95; refine (paTable_any _ _ _ _ _ Hp.out rX).mono ?_; simp only [Int.toNat_natCast]; rintro e w3 ⟨A3, c3, G, rfl, tab, hb3⟩; obtain ⟨g, rfl⟩ := own_form tab.own (by omega); have d0 := tab.outer hin; have d1 := tab.cell hin hjn; rw [Hadj.out] at d1; have v1 := carry hb3 y1 z0; have v2 := carry hb3 y2 z0; have v3 := carry hb3 y3 z1; have v4 := carry hb3 y4 z1; have k3 := kX.drew.trans (hb3.mono kX.drew.size)) | fail)
  all_goals
    go_wp2
    go_ret
    exact ⟨rfl, k3⟩
set_option maxHeartbeats 4000000 in
set_option maxRecDepth 100000 in
theorem pzFits_2 (p a b : Int) (l : PL) (A : Option Addr) (c : Nat) (w : World) (hp : isP p l = true) (hA : CRead w w.heap.size A (pcells l)) (hc : isCB p (2, a, b) = true) :
    Calls Tryd.prog 66 #[.agg #[.int .i64 2, .int .i64 a, .int .i64 b], .agg #[.int .i64 p, .slice A l.length c]] w fun e w' => e = .returned (.bool (fitB p l (2, a, b))) ∧ Below w.heap.size w w' := by
  obtain ⟨n, rfl⟩ : ∃ n : Nat, p = n := ⟨p.toNat, by have := isP_range hp; omega⟩
  have hn := isP_range hp
  obtain ⟨X, hX⟩ : ∃ X, (w.alloc (Obj.cells #[.int .i64 2, .int .i64 a, .int .i64 b] 30)).alloc (Obj.cells #[.int .i64 n, .slice A l.length c] 34) = X := ⟨_, rfl⟩
  have kX : Below w.heap.size w X := by rw [← hX]; go_grown
  have sX : X.heap.size = w.heap.size + 2 := by rw [← hX]; simp
  have x1 : X.cell? ⟨w.heap.size, 1, none⟩ = some (.int .i64 a) := by rw [← hX]; exact (World.cell?_alloc_lt _ _ _ (by simp)).trans (by simp)
  have x2 : X.cell? ⟨w.heap.size, 2, none⟩ = some (.int .i64 b) := by rw [← hX]; exact (World.cell?_alloc_lt _ _ _ (by simp)).trans (by simp)
  have p0 : X.cell? ⟨w.heap.size + 1, 0, none⟩ = some (.int .i64 n) := by rw [← hX]; simp
  have p1 : X.cell? ⟨w.heap.size + 1, 1, none⟩ = some (.slice A l.length c) := by rw [← hX]; simp
  have rX : CRead X.drew X.drew.heap.size A (pcells l) := (hA.below kX.drew (Nat.le_refl _)).more kX.drew.size
  have z0 : w.heap.size < X.drew.heap.size := by show w.heap.size < X.heap.size; omega
  have z1 : w.heap.size + 1 < X.drew.heap.size := by show w.heap.size + 1 < X.heap.size; omega
  have y1 : X.drew.cell? ⟨w.heap.size, 1, none⟩ = some (.int .i64 a) := x1
  have y2 : X.drew.cell? ⟨w.heap.size, 2, none⟩ = some (.int .i64 b) := x2
  have y3 : X.drew.cell? ⟨w.heap.size + 1, 0, none⟩ = some (.int .i64 n) := p0
  have y4 : X.drew.cell? ⟨w.heap.size + 1, 1, none⟩ = some (.slice A l.length c) := p1
  have HX := Lib.hid hX
  have Hp := Lib.hid hp
  have hab := isCB_num hc
  rw [fitB_2]
  obtain ⟨i, rfl⟩ : ∃ i : Nat, a = i := ⟨a.toNat, by omega⟩
  obtain ⟨v, hv⟩ := getSome (numsOf n l) i (by rw [numsOf_length]; omega)
  have hvd : (numsOf (n : Int).toNat l).getD ((i : Int).toNat) 0 = v := by
    rw [Int.toNat_natCast, Int.toNat_natCast, List.getD_eq_getElem?_getD, hv]; rfl
  rw [hvd]
  have Hv := Lib.hid hv
  clear hX hp hc hab hv hvd
  go_enter Tryd.func66, Tryd.ntmps66
  go_wp2_with fail
  rw [HX.out]
  go_region_law (first | (go_simp; go_at_call 96; refine (paNumbers_any _ _ _ _ _ Hp.out rX).mono ?_; simp only [Int.toNat_natCast]; rintro e w3 ⟨g, rfl, own, hb3⟩; have d1 := own_intAt own Hv.out; have ni : (i : Int) < (n : Int) := by { have h := (List.getElem?_eq_some_iff.1 Hv.out).1; rw [numsOf_length] at h; omega }; have v1 := carry hb3 y1 z0; have v2 := carry hb3 y2 z0; have v3 := carry hb3 y3 z1; have v4 := carry hb3 y4 z1; have k3 := kX.drew.trans (hb3.mono kX.drew.size)) | fail)
  all_goals
    go_wp2
    go_ret
    exact ⟨rfl, k3⟩
set_option maxHeartbeats 4000000 in
set_option maxRecDepth 100000 in
theorem pzFits_3 (p a b : Int) (l : PL) (A : Option Addr) (c : Nat) (w : World) (hp : isP p l = true) (hA : CRead w w.heap.size A (pcells l)) (hc : isCB p (3, a, b) = true) :
    Calls Tryd.prog 66 #[.agg #[.int .i64 3, .int .i64 a, .int .i64 b], .agg #[.int .i64 p, .slice A l.length c]] w fun e w' => e = .returned (.bool (fitB p l (3, a, b))) ∧ Below w.heap.size w w' := by
  obtain ⟨n, rfl⟩ : ∃ n : Nat, p = n := ⟨p.toNat, by have := isP_range hp; omega⟩
  have hn := isP_range hp
  obtain ⟨X, hX⟩ : ∃ X, (w.alloc (Obj.cells #[.int .i64 3, .int .i64 a, .int .i64 b] 30)).alloc (Obj.cells #[.int .i64 n, .slice A l.length c] 34) = X := ⟨_, rfl⟩
  have kX : Below w.heap.size w X := by rw [← hX]; go_grown
  have sX : X.heap.size = w.heap.size + 2 := by rw [← hX]; simp
  have x1 : X.cell? ⟨w.heap.size, 1, none⟩ = some (.int .i64 a) := by rw [← hX]; exact (World.cell?_alloc_lt _ _ _ (by simp)).trans (by simp)
  have x2 : X.cell? ⟨w.heap.size, 2, none⟩ = some (.int .i64 b) := by rw [← hX]; exact (World.cell?_alloc_lt _ _ _ (by simp)).trans (by simp)
  have p0 : X.cell? ⟨w.heap.size + 1, 0, none⟩ = some (.int .i64 n) := by rw [← hX]; simp
  have p1 : X.cell? ⟨w.heap.size + 1, 1, none⟩ = some (.slice A l.length c) := by rw [← hX]; simp
  have rX : CRead X.drew X.drew.heap.size A (pcells l) := (hA.below kX.drew (Nat.le_refl _)).more kX.drew.size
  have z0 : w.heap.size < X.drew.heap.size := by show w.heap.size < X.heap.size; omega
  have z1 : w.heap.size + 1 < X.drew.heap.size := by show w.heap.size + 1 < X.heap.size; omega
  have y1 : X.drew.cell? ⟨w.heap.size, 1, none⟩ = some (.int .i64 a) := x1
  have y2 : X.drew.cell? ⟨w.heap.size, 2, none⟩ = some (.int .i64 b) := x2
  have y3 : X.drew.cell? ⟨w.heap.size + 1, 0, none⟩ = some (.int .i64 n) := p0
  have y4 : X.drew.cell? ⟨w.heap.size + 1, 1, none⟩ = some (.slice A l.length c) := p1
  have HX := Lib.hid hX
  have Hp := Lib.hid hp
  rw [fitB_3]
  clear hX hp hc
  go_enter Tryd.func66, Tryd.ntmps66
  go_wp2_with fail
  rw [HX.out]
  go_wp2
  go_ret
  exact ⟨rfl, kX⟩

set_option maxHeartbeats 4000000 in
set_option maxRecDepth 100000 in
theorem pzFits_4 (p a b : Int) (l : PL) (A : Option Addr) (c : Nat) (w : World) (hp : isP p l = true) (hA : CRead w w.heap.size A (pcells l)) (hc : isCB p (4, a, b) = true) :
    Calls Tryd.prog 66 #[.agg #[.int .i64 4, .int .i64 a, .int .i64 b], .agg #[.int .i64 p, .slice A l.length c]] w fun e w' => e = .returned (.bool (fitB p l (4, a, b))) ∧ Below w.heap.size w w' := by
  obtain ⟨n, rfl⟩ : ∃ n : Nat, p = n := ⟨p.toNat, by have := isP_range hp; omega⟩
  have hn := isP_range hp
  obtain ⟨X, hX⟩ : ∃ X, (w.alloc (Obj.cells #[.int .i64 4, .int .i64 a, .int .i64 b] 30)).alloc (Obj.cells #[.int .i64 n, .slice A l.length c] 34) = X := ⟨_, rfl⟩
  have kX : Below w.heap.size w X := by rw [← hX]; go_grown
  have sX : X.heap.size = w.heap.size + 2 := by rw [← hX]; simp
  have x1 : X.cell? ⟨w.heap.size, 1, none⟩ = some (.int .i64 a) := by rw [← hX]; exact (World.cell?_alloc_lt _ _ _ (by simp)).trans (by simp)
  have x2 : X.cell? ⟨w.heap.size, 2, none⟩ = some (.int .i64 b) := by rw [← hX]; exact (World.cell?_alloc_lt _ _ _ (by simp)).trans (by simp)
  have p0 : X.cell? ⟨w.heap.size + 1, 0, none⟩ = some (.int .i64 n) := by rw [← hX]; simp
  have p1 : X.cell? ⟨w.heap.size + 1, 1, none⟩ = some (.slice A l.length c) := by rw [← hX]; simp
  have rX : CRead X.drew X.drew.heap.size A (pcells l) := (hA.below kX.drew (Nat.le_refl _)).more kX.drew.size
  have z0 : w.heap.size < X.drew.heap.size := by show w.heap.size < X.heap.size; omega
  have z1 : w.heap.size + 1 < X.drew.heap.size := by show w.heap.size + 1 < X.heap.size; omega
  have y1 : X.drew.cell? ⟨w.heap.size, 1, none⟩ = some (.int .i64 a) := x1
  have y2 : X.drew.cell? ⟨w.heap.size, 2, none⟩ = some (.int .i64 b) := x2
  have y3 : X.drew.cell? ⟨w.heap.size + 1, 0, none⟩ = some (.int .i64 n) := p0
  have y4 : X.drew.cell? ⟨w.heap.size + 1, 1, none⟩ = some (.slice A l.length c) := p1
  have HX := Lib.hid hX
  have Hp := Lib.hid hp
  rw [fitB_4]
  clear hX hp hc
  go_enter Tryd.func66, Tryd.ntmps66
  go_wp2_with fail
  rw [HX.out]
  go_region_law (first | (go_simp; go_at_call 97; refine (pzThrees_any _ _ _ _ _ Hp.out rX).mono ?_; rintro e w3 ⟨rfl, hb3⟩; have v1 := carry hb3 y1 z0; have v2 := carry hb3 y2 z0; have v3 := carry hb3 y3 z1; have v4 := carry hb3 y4 z1; have k3 := kX.drew.trans (hb3.mono kX.drew.size)) | fail)
  all_goals
    go_wp2
    go_ret
    exact ⟨rfl, k3⟩
set_option maxHeartbeats 4000000 in
set_option maxRecDepth 100000 in
theorem pzFits_5 (p a b : Int) (l : PL) (A : Option Addr) (c : Nat) (w : World) (hp : isP p l = true) (hA : CRead w w.heap.size A (pcells l)) (hc : isCB p (5, a, b) = true) :
    Calls Tryd.prog 66 #[.agg #[.int .i64 5, .int .i64 a, .int .i64 b], .agg #[.int .i64 p, .slice A l.length c]] w fun e w' => e = .returned (.bool (fitB p l (5, a, b))) ∧ Below w.heap.size w w' := by
  obtain ⟨n, rfl⟩ : ∃ n : Nat, p = n := ⟨p.toNat, by have := isP_range hp; omega⟩
  have hn := isP_range hp
  obtain ⟨X, hX⟩ : ∃ X, (w.alloc (Obj.cells #[.int .i64 5, .int .i64 a, .int .i64 b] 30)).alloc (Obj.cells #[.int .i64 n, .slice A l.length c] 34) = X := ⟨_, rfl⟩
  have kX : Below w.heap.size w X := by rw [← hX]; go_grown
  have sX : X.heap.size = w.heap.size + 2 := by rw [← hX]; simp
  have x1 : X.cell? ⟨w.heap.size, 1, none⟩ = some (.int .i64 a) := by rw [← hX]; exact (World.cell?_alloc_lt _ _ _ (by simp)).trans (by simp)
  have x2 : X.cell? ⟨w.heap.size, 2, none⟩ = some (.int .i64 b) := by rw [← hX]; exact (World.cell?_alloc_lt _ _ _ (by simp)).trans (by simp)
  have p0 : X.cell? ⟨w.heap.size + 1, 0, none⟩ = some (.int .i64 n) := by rw [← hX]; simp
  have p1 : X.cell? ⟨w.heap.size + 1, 1, none⟩ = some (.slice A l.length c) := by rw [← hX]; simp
  have rX : CRead X.drew X.drew.heap.size A (pcells l) := (hA.below kX.drew (Nat.le_refl _)).more kX.drew.size
  have z0 : w.heap.size < X.drew.heap.size := by show w.heap.size < X.heap.size; omega
  have z1 : w.heap.size + 1 < X.drew.heap.size := by show w.heap.size + 1 < X.heap.size; omega
  have y1 : X.drew.cell? ⟨w.heap.size, 1, none⟩ = some (.int .i64 a) := x1
  have y2 : X.drew.cell? ⟨w.heap.size, 2, none⟩ = some (.int .i64 b) := x2
  have y3 : X.drew.cell? ⟨w.heap.size + 1, 0, none⟩ = some (.int .i64 n) := p0
  have y4 : X.drew.cell? ⟨w.heap.size + 1, 1, none⟩ = some (.slice A l.length c) := p1
  have HX := Lib.hid hX
  have Hp := Lib.hid hp
  rw [fitB_5]
  have hpt : partsN n l = (partsI (lab n l) n).length := by unfold partsN; rw [Int.toNat_natCast]
  rw [hpt]
  clear hX hp hc hpt
  go_enter Tryd.func66, Tryd.ntmps66
  go_wp2_with fail
  rw [HX.out]
  go_region_law (first | (go_simp; go_at_call 98; refine (paParts_any n _ _ _ _ Hp.out rX).mono ?_; rintro e w3 ⟨A3, c3, R3, C3, rfl, rows3, hb3⟩; have v1 := carry hb3 y1 z0; have v2 := carry hb3 y2 z0; have v3 := carry hb3 y3 z1; have v4 := carry hb3 y4 z1; have k3 := kX.drew.trans (hb3.mono kX.drew.size)) | fail)
  all_goals
    go_wp2
    go_ret
    exact ⟨rfl, k3⟩
theorem pzFits_any (p k a b : Int) (l : PL) (A : Option Addr) (c : Nat) (w : World) (hp : isP p l = true) (hA : CRead w w.heap.size A (pcells l)) (hc : isCB p (k, a, b) = true) :
    Calls Tryd.prog 66 #[.agg #[.int .i64 k, .int .i64 a, .int .i64 b], .agg #[.int .i64 p, .slice A l.length c]] w fun e w' => e = .returned (.bool (fitB p l (k, a, b))) ∧ Below w.heap.size w w' := by
  rcases isCB_kind hc with rfl | rfl | rfl | rfl | rfl | rfl
  · exact pzFits_0 p a b l A c w hp hA hc
  · exact pzFits_1 p a b l A c w hp hA hc
  · exact pzFits_2 p a b l A c w hp hA hc
  · exact pzFits_3 p a b l A c w hp hA hc
  · exact pzFits_4 p a b l A c w hp hA hc
  · exact pzFits_5 p a b l A c w hp hA hc
end Go.Proofs.YtefkcfkicmfhlaaDoor
/-
  'PartsOfParty': the program's and the model's, by their contracts.
-/
namespace Go.Proofs.YtefkcfkicmfhlaaDoor
open Go.RowKit

/-- the parts of the people below a -/
def partsA (f : Nat → Int) (a : Nat) : List (List Int) := (reps f a).map (rowOf f a)
theorem partsA_length (f : Nat → Int) (a : Nat) : (partsA f a).length = (reps f a).length := by simp [partsA]
theorem partsA_at {f : Nat → Int} {a j r : Nat} (h : (reps f a)[j]? = some r) : (partsA f a)[j]? = some (rowOf f a r) := by unfold partsA; rw [List.getElem?_map, h]; rfl
theorem partsA_new {f : Nat → Int} {a : Nat} (h : f a = a) (hle : ∀ c, c < a → f c ≤ c) : partsA f (a + 1) = partsA f a ++ [[(a : Int)]] := by
  unfold partsA
  rw [reps_new h, List.map_append, List.map_singleton, parts_own h hle]
  congr 1
  refine List.map_congr_left fun r hr => ?_
  obtain ⟨j, hj⟩ := List.getElem?_of_mem hr
  exact parts_new h hj
theorem partsA_old {f : Nat → Int} {a j r : Nat} (hj : (reps f a)[j]? = some r) (hf : f a = r) (hne : f a ≠ a) : partsA f (a + 1) = (partsA f a).set j (rowOf f a r ++ [(a : Int)]) := by
  unfold partsA
  rw [reps_old hne]
  refine List.ext_getElem (by simp) fun i h1 h2 => ?_
  simp only [List.length_map] at h1
  rw [List.getElem_map, List.getElem_set]
  by_cases e : j = i
  · subst e
    rw [if_pos rfl]
    have := (List.getElem?_eq_some_iff.1 hj).2
    rw [this]
    exact rowOf_hit hf
  · rw [if_neg e, List.getElem_map]
    exact parts_old hj hf (List.getElem?_eq_getElem h1) (fun h => e h.symm)
theorem rowsL_of {w : World} {B n : Nat} {v : Value} {R : Nat → Option Addr} {C N : Nat → Nat} {F : Nat → List Int} {LL : List (List Int)} (h : RowsG w B v n R C N F) (hn : LL.length = n) (hF : ∀ i, i < n → LL.getD i [] = F i) : RowsL w B v LL R C := by
  have hN : ∀ i, i < n → (LL.getD i []).length = N i := fun i hi => by rw [hF i hi]; exact (h.row i hi).1
  unfold RowsL
  rw [hn]
  refine ⟨?_, fun i hi => ?_, fun i j hi hj hij => ?_⟩
  · rw [List.map_congr_left (g := fun i => Value.slice (R i) (N i) (C i)) fun i hi => by rw [hN i (List.mem_range.1 hi)]]
    exact h.own
  · refine ⟨rfl, ?_⟩
    show w.ownsRow B 3 1 (.slice (R i) (LL.getD i []).length (C i)) (LL.getD i []).length (icells (LL.getD i []))
    rw [hN i hi, hF i hi]
    exact (h.row i hi).2
  · rw [hN i hi, hN j hj]; exact h.apart i j hi hj hij
theorem getD_set {LL : List (List Int)} {k : Nat} {x : List Int} (hk : k < LL.length) (i : Nat) : (LL.set k x).getD i [] = upN (fun i => LL.getD i []) k x i := by
  simp only [List.getD_eq_getElem?_getD, upN]
  by_cases e : i = k
  · subst e; rw [if_pos rfl, List.getElem?_set_self hk]; rfl
  · rw [if_neg e, List.getElem?_set_ne (fun h => e h.symm)]
theorem rowsL_grow {w w2 : World} {B g c b d k : Nat} {R : Nat → Option Addr} {C : Nat → Nat} {LL : List (List Int)} (h : RowsL w B (.slice (some ⟨g, 0, none⟩) LL.length c) LL R C) (hk : k < LL.length) {x : Int}
    (hg : w.grownBy w2 (Value.slice (R k) (LL.getD k []).length (C k)).ownBlock) (ho : w2.ownsRow B 3 1 (.slice (some ⟨b, 0, none⟩) ((LL.getD k []).length + 1) d) ((LL.getD k []).length + 1) (icells (LL.getD k []) ++ [.int .i64 x]))
    (hat : (Value.slice (R k) (LL.getD k []).length (C k)).ownBlock = some b ∨ b = w.heap.size) :
    RowsL (w2.setCell ⟨g, k, none⟩ (.slice (some ⟨b, 0, none⟩) ((LL.getD k []).length + 1) d)) B (.slice (some ⟨g, 0, none⟩) LL.length c) (LL.set k (LL.getD k [] ++ [x])) (upN R k (some ⟨b, 0, none⟩)) (upN C k d) := by
  have h2 := RowsG.grow h hk hg ho hat
  exact rowsL_of h2 (by simp) fun i _ => getD_set hk i
set_option maxHeartbeats 2000000 in
set_option maxRecDepth 100000 in
theorem implPartsOfParty_any (p : Int) (l : PL) (A : Option Addr) (c : Nat) (w : World) (hl : l.length ≤ 1048576) (hA : CRead w w.heap.size A (pcells l)) :
    Calls Tryd.prog 149 #[.agg #[.int .i64 p, .slice A l.length c]] w (GotRowsOk w (resPartsOfParty p l).1 (resPartsOfParty p l).2) := by
  have hr : CRead (w.alloc (Obj.cells #[.int .i64 p, .slice A l.length c] 34)) (w.alloc (Obj.cells #[.int .i64 p, .slice A l.length c] 34)).heap.size A (pcells l) := (hA.below (B' := w.heap.size) (by go_grown) (Nat.le_refl _)).more (by go_size)
  cases hp : isP p l with
  | false =>
    rw [show resPartsOfParty p l = ([], false) by unfold resPartsOfParty; rw [hp]; rfl]
    have Hp := Lib.hid hp
    clear hp
    go_enter Tryd.func149, Tryd.ntmps149
    go_wp2_with fail
    refine (isParty_any _ _ _ _ _ hl hr).mono ?_
    rw [Hp.out]
    rintro e w2 ⟨rfl, hb2⟩
    simp only [World.size_alloc] at hb2
    go_wp2
    go_ret2
    exact ⟨none, 0, fun _ => none, fun _ => 0, rfl, RowsL.none _ _, Below.trans (b := _) (by go_grown) (hb2.mono (by omega))⟩
  | true =>
    obtain ⟨n, rfl⟩ : ∃ n : Nat, p = n := ⟨p.toNat, by have := isP_range hp; omega⟩
    have hn := isP_range hp
    have hn12 : n ≤ 12 := by omega
    rw [show resPartsOfParty n l = (partsI (lab n l) n, true) by unfold resPartsOfParty; rw [hp]; rfl]
    obtain ⟨i0, hi, hz0, hz1, hz2⟩ := info_parts Tryd.infoInt
    obtain ⟨i2, hk, hx0, hx1, hx2⟩ := info_parts Tryd.infoRowP
    have calo := fun X hX => firstOnes_any n l A c X hp hX
    simp only [Int.toNat_natCast] at calo
    have hlab := fun c hc => lab_own (lab_in hp) c hc
    have hfl : (firstI n l).length = n := firstI_length n l
    have hfat : ∀ a, a < n → (firstI n l)[a]? = some (lab n l a) := fun a ha => by
      unfold lab
      rw [List.getD_eq_getElem?_getD, List.getElem?_eq_getElem (by omega)]
      rfl
    have hfin : partsI (lab n l) n = partsA (lab n l) n := rfl
    rw [hfin]
    have Hlab := Lib.hid hlab
    have Hfat := Lib.hid hfat
    have Calo := Lib.hid calo
    have Hp := Lib.hid hp
    obtain ⟨f, hf⟩ : ∃ f, lab n l = f := ⟨_, rfl⟩
    rw [hf] at Hlab Hfat ⊢
    clear hp calo hlab hfl hfat hfin hf
    go_enter Tryd.func149, Tryd.ntmps149
    go_wp2_with fail
    refine (isParty_any _ _ _ _ _ hl hr).mono ?_
    rw [Hp.out]
    rintro e w2 ⟨rfl, hb2⟩
    have c0 : w2.cell? ⟨w.heap.size, 0, none⟩ = some (.int .i64 n) := carry hb2 (by simp) (by simp)
    have c1 : w2.cell? ⟨w.heap.size, 1, none⟩ = some (.slice A l.length c) := carry hb2 (by simp) (by simp)
    have s2 := hb2.size
    simp only [World.size_alloc] at hb2 s2
    have k2 : Below w.heap.size w w2 := Below.trans (b := _) (by go_grown) (hb2.mono (by omega))
    obtain ⟨X, hX⟩ : ∃ X, w2.alloc (Obj.cells #[.int .i64 0, .int .i64 0, .int .i64 0, .int .i64 0, .int .i64 0, .int .i64 0, .int .i64 0, .int .i64 0, .int .i64 0, .int .i64 0, .int .i64 0, .int .i64 0] 190) = X := ⟨_, rfl⟩
    have n0 : X.cell? ⟨w.heap.size, 0, none⟩ = some (.int .i64 n) := by rw [← hX]; exact (World.cell?_alloc_lt _ _ _ (by show w.heap.size < w2.heap.size; omega)).trans c0
    have n1 : X.cell? ⟨w.heap.size, 1, none⟩ = some (.slice A l.length c) := by rw [← hX]; exact (World.cell?_alloc_lt _ _ _ (by show w.heap.size < w2.heap.size; omega)).trans c1
    have rowX : X.rowIs w2.heap.size 190 12 (fun _ => .int .i64 0) := by
      rw [← hX]
      refine ⟨_, heap_alloc_new w2 _, rfl, fun i hi => ?_⟩
      match i, hi with
      | 0, _ => rfl
      | 1, _ => rfl
      | 2, _ => rfl
      | 3, _ => rfl
      | 4, _ => rfl
      | 5, _ => rfl
      | 6, _ => rfl
      | 7, _ => rfl
      | 8, _ => rfl
      | 9, _ => rfl
      | 10, _ => rfl
      | 11, _ => rfl
    have kX : Below w2.heap.size w2 X := by rw [← hX]; go_grown
    have sX : w2.heap.size < X.heap.size := by rw [← hX]; simp
    have kwX := k2.trans (kX.mono k2.size)
    obtain ⟨gp, hgp⟩ : ∃ gp, w2.heap.size = gp := ⟨_, rfl⟩
    have RowX := Lib.hid rowX
    have KwX := Lib.hid kwX
    clear rowX kX kwX hb2 k2
    go_wp2_with fail
    refine (Calo.out X ((hA.below KwX.out (Nat.le_refl _)).more KwX.out.size)).mono ?_
    rintro e w3 ⟨g5, rfl, own5, hb5⟩
    rw [hgp] at RowX sX s2
    have s5 := hb5.size
    have row5 : w3.rowIs gp 190 12 (fun _ => .int .i64 0) := RowX.out.of_block (hb5.block _ (by omega))
    have own5' := own_lower own5 (show gp + 1 ≤ X.heap.size by omega)
    have g5l := own_lt own5
    obtain ⟨B, hB⟩ : ∃ B, w3.heap.size = B := ⟨_, rfl⟩
    rw [hB] at s5 g5l
    have kw3 := KwX.out.trans (hb5.mono KwX.out.size)
    have Kw3 := Lib.hid kw3
    have Own5 := Lib.hid own5'
    have Row5 := Lib.hid row5
    have hgpB : gp < B := by omega
    have hB3 : B ≤ w3.heap.size := by omega
    clear own5 own5' row5 kw3 hX hgp hb5 c0 c1 n0 n1 RowX hB
    go_wp2_with fail
    go_loopw [4, 14] (fun v av wr => ∃ (a : Nat) (Av : Option Addr) (cv : Nat) (R : Nat → Option Addr) (C : Nat → Nat) (pf : Nat → Value), a ≤ n ∧ av = .int .i64 a ∧ v = .slice Av (partsA f a).length cv ∧ RowsL wr B (.slice Av (partsA f a).length cv) (partsA f a) R C ∧
      wr.rowIs gp 190 12 pf ∧ (∀ j r : Nat, (reps f a)[j]? = some r → pf r = .int .i64 j) ∧ wr.ownsRow (gp + 1) 3 1 (.slice (some ⟨g5, 0, none⟩) n n) n (icells (firstI n l)) ∧ B ≤ wr.heap.size ∧ Below gp w3 wr) (fun _ av _ => n - (intOf av).toNat)
    case atStart => exact ⟨0, none, 0, _, _, _, Nat.zero_le _, rfl, rfl, RowsL.none _ _, Row5.out, fun j r hj => by simp [reps] at hj, Own5.out, hB3, Below.refl _ _⟩
    case round =>
      obtain ⟨a, Av, cv, R, C, pf, ha, rfl, rfl, rows, row, hpf, own, hsz, hb⟩ := hrel
      by_cases hlt : a < n
      · have hai : (a : Int) < (n : Int) := by omega
        have cf := own_intAt own (Hfat.out a hlt)
        have hfa := Hlab.out a hlt
        have hll0 := fun r => rowOf_length_le f a r
        have hrl := reps_length_le f a
        by_cases hfe : f a = a
        · rw [hfe] at cf
          have heq : ((a : Int) == (a : Int)) = true := by simp
          have hml : (partsA f a).length = (reps f a).length := partsA_length f a
          have cpl := row.cell (i := a) (by omega)
          have fpl := row.frozen a
          have ha12 : (a : Int) < 12 := by omega
          obtain ⟨pa, hpa⟩ : ∃ x, pf a = x := ⟨_, rfl⟩
          rw [hpa] at cpl
          have hnew := partsA_new hfe (fun c hc => (Hlab.out c (by omega)).2.1)
          have row2 := row.set a (.int .i64 (partsA f a).length)
          have rowsW := rows.keptG (w' := wr.setCell ⟨gp, a, none⟩ (.int .i64 (partsA f a).length)) (x := .slice (some ⟨gp, 0, none⟩) 1 1) (lo := gp) (hi := gp + 1) (grown_set wr gp a _) (fun k hk => by simp [Value.ownBlock] at hk; omega) (by omega)
          have own2 := ownsRow_setCell_below own (a := ⟨gp, a, none⟩) (by show gp < gp + 1; omega) (.int .i64 (partsA f a).length)
          have hb2 : Below gp w3 (wr.setCell ⟨gp, a, none⟩ (.int .i64 (partsA f a).length)) := hb.setCell (p := ⟨gp, a, none⟩) (Nat.le_refl _) _
          have hoW := rowsW.own
          have hbox : ((wr.setCell ⟨gp, a, none⟩ (.int .i64 (partsA f a).length)).alloc (Obj.cells #[.slice none 0 0] 64)).cell? ⟨wr.heap.size, 0, none⟩ = some (.slice none 0 0) := by
            have h := heap_alloc_new (wr.setCell ⟨gp, a, none⟩ (.int .i64 (partsA f a).length)) (Obj.cells #[.slice none 0 0] 64)
            rw [show (wr.setCell ⟨gp, a, none⟩ (.int .i64 (partsA f a).length)).heap.size = wr.heap.size by simp] at h
            rw [cell_of_row _ _ _ _ _ _ h]
            rfl
          have hszW : (wr.setCell ⟨gp, a, none⟩ (.int .i64 (partsA f a).length)).heap.size = wr.heap.size := by simp
          have hpf1 : ∀ j r : Nat, (reps f (a + 1))[j]? = some r → (if r = a then Value.int .i64 (partsA f a).length else pf r) = .int .i64 j := fun j r hj => by
            rw [reps_new hfe] at hj
            by_cases hjl : j < (reps f a).length
            · rw [List.getElem?_append_left hjl] at hj
              rw [if_neg (by have := (mem_reps.1 (List.mem_of_getElem? hj)).1; omega)]
              exact hpf j r hj
            · rw [List.getElem?_append_right (by omega)] at hj
              have h0 : j - (reps f a).length = 0 := by
                rcases Nat.eq_zero_or_pos (j - (reps f a).length) with h | h
                · exact h
                · rw [List.getElem?_eq_none (by simp; omega)] at hj; cases hj
              rw [h0] at hj
              have h1 : a = r := by simpa using hj
              rw [if_pos h1.symm, hml]
              congr 1
              omega
          have Row2 := Lib.hid row2
          have RowsW := Lib.hid rowsW
          have Own2 := Lib.hid own2
          have Hb2 := Lib.hid hb2
          have Hbox := Lib.hid hbox
          have HszW := Lib.hid hszW
          have Hpf0 := Lib.hid hpf1
          have Hnew := Lib.hid hnew
          have Hml := Lib.hid hml
          have g5w : g5 < wr.heap.size := by omega
          clear row rows own hb row2 rowsW own2 hb2 hbox hszW hpf1 hnew hpf hpa hml
          go_wp2_with (at_builtin; refine wpList_append_own _ rfl _ _ 114 rfl B 64 i2 (.slice none 0 0) 1 24 Tryd.underlying114 hk hx0 hx1 hx2 rfl (by decide) _ _ _ rfl (hoW.alloc _) ⟨wr.heap.size, 0, none⟩ 1 1 [.slice none 0 0] rfl rfl (one_cell Hbox.out) (one_one rfl) (by unfold maxLen; have := Hml.out; omega) (by have := Hml.out; omega) (by simp; omega) ?_; intro v1 w7 hown7 hg7 _; obtain ⟨A7, d7, rfl, _⟩ := own_shape hown7)
          have hown7n : w7.ownsRow B 64 1 (.slice A7 ((partsA f a).length + 1) d7) ((partsA f a).length + 1) (((List.range (partsA f a).length).map fun i => Value.slice (R i) ((partsA f a).getD i []).length (C i)) ++ [.slice none ([] : List Int).length 0]) := hown7
          have rows7 := RowsL.push (l := []) (A := none) (c := 0) (RowsW.out.below ((Below.refl _ _).alloc (Nat.le_refl _) _)) (World.ownsRow_nil _ _ _ _) (fun i hi => by
            cases hq : (Value.slice (R i) ((partsA f a).getD i []).length (C i)).ownBlock with
            | none => exact .inl rfl
            | some b => right; simp [Value.ownBlock]) hg7 hown7n
          have hlt7 : wr.heap.size ≤ w7.heap.size := by have := hg7.size; have h2 := HszW.out; simp at this; omega
          have row7 := Row2.out.of_block ((hg7.block gp (by have := HszW.out; simp; omega) (fun e => by have := (hoW.lt gp e.symm).1; omega)).trans (Below.heap_alloc _ _ gp (by have := HszW.out; omega)))
          have own7 := (Own2.out.alloc _).kept hg7 (.inr (fun e => by have := (hoW.lt g5 e.symm).1; omega))
          have hb7 := (Hb2.out.alloc (by have := HszW.out; omega) _).grown hg7 (by have := HszW.out; simp; omega) (fun b hb => by have := (hoW.lt b hb).1; omega)
          have hpj : (fun i => if i = a then Value.int .i64 (partsA f a).length else pf i) a = .int .i64 (partsA f a).length := if_pos rfl
          have hll : ((partsA f a ++ [[]]).getD (partsA f a).length []).length ≤ 12 := by rw [List.getD_eq_getElem?_getD]; simp
          have hnext : partsA f (a + 1) = (partsA f a ++ [[]]).set (partsA f a).length ((partsA f a ++ [[]]).getD (partsA f a).length [] ++ [(a : Int)]) := by
            rw [Hnew.out, List.set_append_right _ _ (Nat.le_refl _), Nat.sub_self, List.getD_eq_getElem?_getD]
            simp
          have hLL1 : (partsA f a ++ [[]]).length = (reps f a).length + 1 := by rw [List.length_append, Hml.out]; rfl
          have hlen1 : (partsA f a).length + 1 = (partsA f a ++ [[]]).length := by simp
          have hjl : (partsA f a).length < (partsA f a ++ [[]]).length := by simp
          obtain ⟨j, hj⟩ : ∃ j, (partsA f a).length = j := ⟨_, rfl⟩
          obtain ⟨LL1, hLLe⟩ : ∃ x, partsA f a ++ [[]] = x := ⟨_, rfl⟩
          obtain ⟨R1, hR1⟩ : ∃ x, upN R (partsA f a).length none = x := ⟨_, rfl⟩
          obtain ⟨C1, hC1⟩ : ∃ x, upN C (partsA f a).length 0 = x := ⟨_, rfl⟩
          obtain ⟨pf1, hpf1⟩ : ∃ x, (fun i => if i = a then Value.int .i64 (partsA f a).length else pf i) = x := ⟨_, rfl⟩
          have Hpf1 := Lib.hid (show ∀ j r : Nat, (reps f (a + 1))[j]? = some r → pf1 r = .int .i64 j by rw [← hpf1]; exact Hpf0.out)
          have row1 : w7.rowIs gp 190 12 pf1 := by rw [← hpf1]; exact row7
          rw [hpf1] at hpj
          rw [hLLe, hR1, hC1, hlen1, hLLe] at rows7
          rw [hlen1, hLLe]
          rw [hLLe, hj] at hll hnext
          rw [hLLe] at hLL1 hjl
          rw [hj] at hjl hpj ⊢
          have rows1 := rows7
          have own1 := own7
          have hb1 := hb7
          have hsz7 : B ≤ w7.heap.size := by omega
          clear rows7 own7 hb7 row7 hown7 hown7n hg7 hoW hlen1 hR1 hC1 hpf1 hLLe hj cpl fpl cf
          obtain ⟨gv, rfl⟩ := own_form rows1.own (by omega)
          have q1 : w7.cell? ⟨gp, a, none⟩ = some (.int .i64 j) := by have := row1.cell (i := a) (by omega); rw [hpj] at this; exact this
          have hL1 : LL1.length ≤ 12 := by rw [hLL1]; omega
          have q2 := rows1.own.cellAt j (by omega)
          rw [List.getElem?_map, List.getElem?_range hjl, Option.map_some] at q2
          have q3 := rows1.own.frozenAt j
          have rowj := (rows1.row j hjl).2
          have gvB := (own_lt rows1.own).1
          have gvW := (own_lt rows1.own).2
          obtain ⟨Lj, hLj⟩ : ∃ x, LL1.getD j [] = x := ⟨_, rfl⟩
          have hLn : Lj.length ≤ 12 := by rw [← hLj]; exact hll
          obtain ⟨Rj, hRj⟩ : ∃ x, R1 j = x := ⟨_, rfl⟩
          obtain ⟨Cj, hCj⟩ : ∃ x, C1 j = x := ⟨_, rfl⟩
          simp only [hLj, hRj, hCj] at q2 rowj
          rw [hLj] at hnext
          have hlen1 : (partsA f (a + 1)).length = LL1.length := by rw [hnext, List.length_set]
          have Hlen1 := Lib.hid hlen1
          clear hlen1
          have hji : (j : Int) < (LL1.length : Int) := by omega
          have hj0 : (0 : Int) ≤ (j : Int) := by omega
          have htj : ((j : Int)).toNat = j := by omega
          have hri : (a : Int) < 12 := by omega
          have hr0 : (0 : Int) ≤ (a : Int) := by omega
          have htr : ((a : Nat) : Int).toNat = a := by omega
          have rowD := own_below rowj (Below.refl w7.heap.size w7).drew (Nat.le_refl _)
          have lieX : Lies (.slice Rj Lj.length Cj) B w7.heap.size := own_lies rowj
          have hneR : ∀ b, (Value.slice Rj Lj.length Cj).ownBlock = some b → b ≠ gv := fun b hbq e => by
            subst e
            rcases own_apart rowj rows1.own (by decide) with h | h
            · rw [h] at hbq; cases hbq
            · exact h hbq
          have Rows1 := Lib.hid rows1
          have Row1 := Lib.hid row1
          have Own1 := Lib.hid own1
          have Hb1 := Lib.hid hb1
          have HLj := Lib.hid hLj
          have HRj := Lib.hid hRj
          have HCj := Lib.hid hCj
          have Hl2 := Lib.hid hnext
          have b1 : ∀ o : Obj, (w7.alloc o).cell? ⟨gp, a, none⟩ = some (.int .i64 j) := fun o => (World.cell?_alloc_lt _ _ _ (by show gp < w7.heap.size; omega)).trans q1
          have b2 : ∀ o : Obj, (w7.alloc o).cell? ⟨gv, j, none⟩ = some (.slice Rj Lj.length Cj) := fun o => (World.cell?_alloc_lt _ _ _ (by show gv < w7.heap.size; omega)).trans q2
          have b3 : ∀ o : Obj, (w7.alloc o).frozen? ⟨gv, j, none⟩ = false := fun o => (World.frozen?_of_block (a := ⟨gv, j, none⟩) (Below.heap_alloc w7 o gv (by show gv < w7.heap.size; omega))).trans q3
          have a1 : ∀ o : Obj, (w7.drew.alloc o).cell? ⟨gp, a, none⟩ = some (.int .i64 j) := fun o => (World.cell?_alloc_lt _ _ _ (by show gp < w7.heap.size; omega)).trans q1
          have a2 : ∀ o : Obj, (w7.drew.alloc o).cell? ⟨gv, j, none⟩ = some (.slice Rj Lj.length Cj) := fun o => (World.cell?_alloc_lt _ _ _ (by show gv < w7.heap.size; omega)).trans q2
          have a3 : ∀ o : Obj, (w7.drew.alloc o).frozen? ⟨gv, j, none⟩ = false := fun o => (World.frozen?_of_block (a := ⟨gv, j, none⟩) (Below.heap_alloc w7.drew o gv (by show gv < w7.heap.size; omega))).trans q3
          have HLL1 := Lib.hid hLL1
          clear rows1 row1 own1 hb1 hLj hRj hCj rowj hnext hLL1 hpj
          go_wp2
          go_region_law (first | (refine step_append_lies _ (by rfl) _ _ _ (by rfl) B 3 i0 _ 1 8 Tryd.underlying64 hi hz0 hz1 hz2 (by rfl) (by decide) (.slice Rj Lj.length Cj) Lj.length (icells Lj) (by rfl) (rowD.alloc _) ⟨w7.heap.size, 0, none⟩ 1 1 [.int .i64 a] (by rfl) rfl (one_cell (by simp)) (one_one rfl) (by decide) (by unfold maxLen; omega) (by omega) (by simp; omega) (w7.heap.size + 1) (by simp) ?_; intro g8 c8 w8 own8 gr8 hat8 hlt8; have p1 : w8.cell? ⟨gp, a, none⟩ = some (.int .i64 j) := carryG gr8 lieX (a1 _) (.inl hgpB); have p2 := (World.cell?_of_block (a := ⟨gv, j, none⟩) (gr8.block gv (by simp; omega) (fun e => hneR gv e.symm rfl))).trans (a2 _); have p3 := (World.frozen?_of_block (a := ⟨gv, j, none⟩) (gr8.block gv (by simp; omega) (fun e => hneR gv e.symm rfl))).trans (a3 _)) | fail)
          all_goals
            have ch8 := rowsL_grow (k := j) (x := (a : Int)) (b := g8) (d := c8) (Rows1.out.below (((Below.refl _ _).drew).alloc (Nat.le_refl _) _)) hjl (by rw [HRj.out, HLj.out, HCj.out]; exact gr8) (by rw [HLj.out]; exact own8) (by rw [HRj.out, HLj.out, HCj.out]; rcases hat8 with h | h; exact .inl h; exact .inr (by simp; exact h))
            rw [HLj.out, ← Hl2.out] at ch8
            have row8 := Row1.out.of_block (((Below.heap_setCell w8 ⟨gv, j, none⟩ (.slice (some ⟨g8, 0, none⟩) (Lj.length + 1) c8) gp (by show gp ≠ gv; omega)).trans (gr8.block gp (by simp; omega) (fun e => by have := (lieX gp e.symm).1; omega))).trans (Below.heap_alloc _ _ gp (by show gp < w7.heap.size; omega)))
            have own8f := ((((own_below Own1.out (Below.refl w7.heap.size w7).drew (Nat.le_refl _)).alloc _).kept gr8 (.inr (fun e => by have := (lieX g5 e.symm).1; omega))).kept (grown_set w8 gv j (.slice (some ⟨g8, 0, none⟩) (Lj.length + 1) c8)) (.inr (fun e => by have h9 : g5 = gv := Option.some.inj e; omega)))
            have hb8 : Below gp w3 (w8.setCell ⟨gv, j, none⟩ (.slice (some ⟨g8, 0, none⟩) (Lj.length + 1) c8)) := ((Hb1.out.drew.alloc (by show gp ≤ w7.heap.size; omega) _).grown gr8 (by simp; omega) (fun b hb => by have := (lieX b hb).1; omega)).setCell (p := ⟨gv, j, none⟩) (by show gp ≤ gv; omega) _
            have hs8 : B ≤ (w8.setCell ⟨gv, j, none⟩ (.slice (some ⟨g8, 0, none⟩) (Lj.length + 1) c8)).heap.size := by have := gr8.size; simp at this ⊢; omega
            have Ch8 := Lib.hid ch8
            have Row8 := Lib.hid row8
            have Own8 := Lib.hid own8f
            have Hb8 := Lib.hid hb8
            clear ch8 row8 own8f hb8 own8 gr8 p1 p2 p3 hat8
          all_goals (go_wp2_with fail)
          all_goals (go_roundw)
          all_goals first
            | exact ⟨a + 1, some ⟨gv, 0, none⟩, d7, upN R1 j (some ⟨g8, 0, none⟩), upN C1 j c8, pf1, by omega, by go_num, by rw [Hlen1.out], by rw [Hlen1.out]; exact Ch8.out, Row8.out, Hpf1.out, Own8.out, hs8, Hb8.out⟩
            | (simp [intOf]; omega)
        · obtain ⟨r, hr⟩ : ∃ r : Nat, f a = r := ⟨(f a).toNat, by omega⟩
          have hrr : f r = r := by have := hfa.2.2; rw [hr, Int.toNat_natCast] at this; exact this
          obtain ⟨j, hj⟩ := List.getElem?_of_mem (mem_reps.2 ⟨by omega, hrr⟩ : r ∈ reps f a)
          have hpj := hpf j r hj
          rw [hr] at cf
          have hjr := (List.getElem?_eq_some_iff.1 hj).1
          have hjl : j < (partsA f a).length := by rw [partsA_length]; exact hjr
          have hgd : (partsA f a).getD j [] = rowOf f a r := getD_of (partsA_at hj)
          have hnext := partsA_old hj hr hfe
          have hll : ((partsA f a).getD j []).length ≤ 12 := by rw [hgd]; have := hll0 r; omega
          have hLL1 : (partsA f a).length = (reps f a).length := partsA_length f a
          rw [← hgd] at hnext
          have hne : ((a : Int) == (r : Int)) = false := by simp only [beq_eq_false_iff_ne, ne_eq]; omega
          have hr12 : r < 12 := by omega
          obtain ⟨gv, rfl⟩ := own_form rows.own (by omega)
          obtain ⟨LL1, hLLe⟩ : ∃ x, partsA f a = x := ⟨_, rfl⟩
          obtain ⟨R1, hR1⟩ : ∃ x, R = x := ⟨_, rfl⟩
          obtain ⟨C1, hC1⟩ : ∃ x, C = x := ⟨_, rfl⟩
          have rows1 := rows
          have row1 := row
          have own1 := own
          have hb1 := hb
          rw [hLLe] at rows1 hjl hnext hll hLL1
          rw [hLLe]
          rw [hR1, hC1] at rows1
          obtain ⟨pf1, hpf1⟩ : ∃ x, pf = x := ⟨_, rfl⟩
          have Hpf1 := Lib.hid (show ∀ j r : Nat, (reps f (a + 1))[j]? = some r → pf1 r = .int .i64 j by rw [reps_old hfe, ← hpf1]; exact hpf)
          rw [hpf1] at row1 hpj
          clear rows row own hb hpf hgd hj hLLe hrr
          have q1 : wr.cell? ⟨gp, r, none⟩ = some (.int .i64 j) := by have := row1.cell (i := r) (by omega); rw [hpj] at this; exact this
          have hL1 : LL1.length ≤ 12 := by rw [hLL1]; omega
          have q2 := rows1.own.cellAt j (by omega)
          rw [List.getElem?_map, List.getElem?_range hjl, Option.map_some] at q2
          have q3 := rows1.own.frozenAt j
          have rowj := (rows1.row j hjl).2
          have gvB := (own_lt rows1.own).1
          have gvW := (own_lt rows1.own).2
          obtain ⟨Lj, hLj⟩ : ∃ x, LL1.getD j [] = x := ⟨_, rfl⟩
          have hLn : Lj.length ≤ 12 := by rw [← hLj]; exact hll
          obtain ⟨Rj, hRj⟩ : ∃ x, R1 j = x := ⟨_, rfl⟩
          obtain ⟨Cj, hCj⟩ : ∃ x, C1 j = x := ⟨_, rfl⟩
          simp only [hLj, hRj, hCj] at q2 rowj
          rw [hLj] at hnext
          have hlen1 : (partsA f (a + 1)).length = LL1.length := by rw [hnext, List.length_set]
          have Hlen1 := Lib.hid hlen1
          clear hlen1
          have hji : (j : Int) < (LL1.length : Int) := by omega
          have hj0 : (0 : Int) ≤ (j : Int) := by omega
          have htj : ((j : Int)).toNat = j := by omega
          have hri : (r : Int) < 12 := by omega
          have hr0 : (0 : Int) ≤ (r : Int) := by omega
          have htr : ((r : Nat) : Int).toNat = r := by omega
          have rowD := own_below rowj (Below.refl wr.heap.size wr).drew (Nat.le_refl _)
          have lieX : Lies (.slice Rj Lj.length Cj) B wr.heap.size := own_lies rowj
          have hneR : ∀ b, (Value.slice Rj Lj.length Cj).ownBlock = some b → b ≠ gv := fun b hbq e => by
            subst e
            rcases own_apart rowj rows1.own (by decide) with h | h
            · rw [h] at hbq; cases hbq
            · exact h hbq
          have Rows1 := Lib.hid rows1
          have Row1 := Lib.hid row1
          have Own1 := Lib.hid own1
          have Hb1 := Lib.hid hb1
          have HLj := Lib.hid hLj
          have HRj := Lib.hid hRj
          have HCj := Lib.hid hCj
          have Hl2 := Lib.hid hnext
          have b1 : ∀ o : Obj, (wr.alloc o).cell? ⟨gp, r, none⟩ = some (.int .i64 j) := fun o => (World.cell?_alloc_lt _ _ _ (by show gp < wr.heap.size; omega)).trans q1
          have b2 : ∀ o : Obj, (wr.alloc o).cell? ⟨gv, j, none⟩ = some (.slice Rj Lj.length Cj) := fun o => (World.cell?_alloc_lt _ _ _ (by show gv < wr.heap.size; omega)).trans q2
          have b3 : ∀ o : Obj, (wr.alloc o).frozen? ⟨gv, j, none⟩ = false := fun o => (World.frozen?_of_block (a := ⟨gv, j, none⟩) (Below.heap_alloc wr o gv (by show gv < wr.heap.size; omega))).trans q3
          have a1 : ∀ o : Obj, (wr.drew.alloc o).cell? ⟨gp, r, none⟩ = some (.int .i64 j) := fun o => (World.cell?_alloc_lt _ _ _ (by show gp < wr.heap.size; omega)).trans q1
          have a2 : ∀ o : Obj, (wr.drew.alloc o).cell? ⟨gv, j, none⟩ = some (.slice Rj Lj.length Cj) := fun o => (World.cell?_alloc_lt _ _ _ (by show gv < wr.heap.size; omega)).trans q2
          have a3 : ∀ o : Obj, (wr.drew.alloc o).frozen? ⟨gv, j, none⟩ = false := fun o => (World.frozen?_of_block (a := ⟨gv, j, none⟩) (Below.heap_alloc wr.drew o gv (by show gv < wr.heap.size; omega))).trans q3
          have HLL1 := Lib.hid hLL1
          clear rows1 row1 own1 hb1 hLj hRj hCj rowj hnext hLL1 hpj
          go_wp2
          go_region_law (first | (refine step_append_lies _ (by rfl) _ _ _ (by rfl) B 3 i0 _ 1 8 Tryd.underlying64 hi hz0 hz1 hz2 (by rfl) (by decide) (.slice Rj Lj.length Cj) Lj.length (icells Lj) (by rfl) (rowD.alloc _) ⟨wr.heap.size, 0, none⟩ 1 1 [.int .i64 a] (by rfl) rfl (one_cell (by simp)) (one_one rfl) (by decide) (by unfold maxLen; omega) (by omega) (by simp; omega) (wr.heap.size + 1) (by simp) ?_; intro g8 c8 w8 own8 gr8 hat8 hlt8; have p1 : w8.cell? ⟨gp, r, none⟩ = some (.int .i64 j) := carryG gr8 lieX (a1 _) (.inl hgpB); have p2 := (World.cell?_of_block (a := ⟨gv, j, none⟩) (gr8.block gv (by simp; omega) (fun e => hneR gv e.symm rfl))).trans (a2 _); have p3 := (World.frozen?_of_block (a := ⟨gv, j, none⟩) (gr8.block gv (by simp; omega) (fun e => hneR gv e.symm rfl))).trans (a3 _)) | fail)
          all_goals
            have ch8 := rowsL_grow (k := j) (x := (a : Int)) (b := g8) (d := c8) (Rows1.out.below (((Below.refl _ _).drew).alloc (Nat.le_refl _) _)) hjl (by rw [HRj.out, HLj.out, HCj.out]; exact gr8) (by rw [HLj.out]; exact own8) (by rw [HRj.out, HLj.out, HCj.out]; rcases hat8 with h | h; exact .inl h; exact .inr (by simp; exact h))
            rw [HLj.out, ← Hl2.out] at ch8
            have row8 := Row1.out.of_block (((Below.heap_setCell w8 ⟨gv, j, none⟩ (.slice (some ⟨g8, 0, none⟩) (Lj.length + 1) c8) gp (by show gp ≠ gv; omega)).trans (gr8.block gp (by simp; omega) (fun e => by have := (lieX gp e.symm).1; omega))).trans (Below.heap_alloc _ _ gp (by show gp < wr.heap.size; omega)))
            have own8f := ((((own_below Own1.out (Below.refl wr.heap.size wr).drew (Nat.le_refl _)).alloc _).kept gr8 (.inr (fun e => by have := (lieX g5 e.symm).1; omega))).kept (grown_set w8 gv j (.slice (some ⟨g8, 0, none⟩) (Lj.length + 1) c8)) (.inr (fun e => by have h9 : g5 = gv := Option.some.inj e; omega)))
            have hb8 : Below gp w3 (w8.setCell ⟨gv, j, none⟩ (.slice (some ⟨g8, 0, none⟩) (Lj.length + 1) c8)) := ((Hb1.out.drew.alloc (by show gp ≤ wr.heap.size; omega) _).grown gr8 (by simp; omega) (fun b hb => by have := (lieX b hb).1; omega)).setCell (p := ⟨gv, j, none⟩) (by show gp ≤ gv; omega) _
            have hs8 : B ≤ (w8.setCell ⟨gv, j, none⟩ (.slice (some ⟨g8, 0, none⟩) (Lj.length + 1) c8)).heap.size := by have := gr8.size; simp at this ⊢; omega
            have Ch8 := Lib.hid ch8
            have Row8 := Lib.hid row8
            have Own8 := Lib.hid own8f
            have Hb8 := Lib.hid hb8
            clear ch8 row8 own8f hb8 own8 gr8 p1 p2 p3 hat8
          all_goals (go_wp2_with fail)
          all_goals (go_roundw)
          all_goals first
            | exact ⟨a + 1, some ⟨gv, 0, none⟩, cv, upN R1 j (some ⟨g8, 0, none⟩), upN C1 j c8, pf1, by omega, by go_num, by rw [Hlen1.out], by rw [Hlen1.out]; exact Ch8.out, Row8.out, Hpf1.out, Own8.out, hs8, Hb8.out⟩
            | (simp [intOf]; omega)
      · have e : n = a := by omega
        subst e
        have hge : ¬ ((n : Int) < (n : Int)) := by omega
        have Rows := Lib.hid rows
        clear rows row own
        go_wp2
        go_ret2
        exact ⟨Av, cv, R, C, rfl, Rows.out.lower (by omega), Kw3.out.trans (hb.mono (by omega))⟩
theorem resPartsOfParty_len (p : Int) (l : PL) : (resPartsOfParty p l).1.length ≤ 1048576 ∧ sumL (resPartsOfParty p l).1 ≤ 1048576 := by
  unfold resPartsOfParty
  split
  · rename_i h
    have hn := isP_range h
    have h0 := reps_length_le (lab p.toNat l) p.toNat
    have h1 : (partsI (lab p.toNat l) p.toNat).length ≤ 12 := by rw [partsI_length]; omega
    have h2 := sumL_le (LL := partsI (lab p.toNat l) p.toNat) (m := 12) (fun r hr => by
      obtain ⟨a, _, rfl⟩ := List.mem_map.1 hr
      have := rowOf_length_le (lab p.toNat l) p.toNat a
      omega)
    show (partsI (lab p.toNat l) p.toNat).length ≤ _ ∧ sumL (partsI (lab p.toNat l) p.toNat) ≤ _
    omega
  · simp [sumL]
end Go.Proofs.YtefkcfkicmfhlaaDoor
