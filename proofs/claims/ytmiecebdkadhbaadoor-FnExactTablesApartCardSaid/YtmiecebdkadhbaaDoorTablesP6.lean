/-
  Texts put together for the claims of 'Tables' (pack 6): PartM, ApartM, Crowd, PeopleOf, DistI, ApartI.
-/
import Derived.Test.YtmiecebdkadhbaaDoorTablesP1
import Derived.Test.YtmiecebdkadhbaaDoorTablesP2
import Derived.Test.YtmiecebdkadhbaaDoorTablesP3
import Derived.Test.YtmiecebdkadhbaaDoorTablesP4
import Derived.Test.YtmiecebdkadhbaaDoorTablesP5
import Derived.BigQuiet
/-
  'spec.paParts', by its contract; 'PartsOfParty' of the model.
-/
namespace Go.Proofs.YtmiecebdkadhbaaDoor
open Go.RowKit

theorem Tryd.infoRowP : (Tryd.prog.info? 26).map (fun i => (i.zero, i.size, i.bytes)) = some (some (.slice none 0 0), 1, 24) := by kernel_rfl
theorem Tryd.infoBoolP : (Tryd.prog.info? 4).map (fun i => (i.zero, i.size, i.bytes)) = some (some (.bool false), 1, 1) := by kernel_rfl
theorem own_boolFn {w : World} {B g n c x : Nat} {s : Nat → Bool} (h : w.ownsRow B 4 1 (.slice (some ⟨g, 0, none⟩) n c) n (bcells ((List.range n).map s))) (hx : x < n) : w.cell? ⟨g, x, none⟩ = some (.bool (s x)) :=
  own_boolAt h (by rw [List.getElem?_map, List.getElem?_range hx]; rfl)
theorem own_setBoolFn {w : World} {B g n c b : Nat} {s : Nat → Bool} (h : w.ownsRow B 4 1 (.slice (some ⟨g, 0, none⟩) n c) n (bcells ((List.range n).map s))) :
    (w.setCell ⟨g, b, none⟩ (.bool true)).ownsRow B 4 1 (.slice (some ⟨g, 0, none⟩) n c) n (bcells ((List.range n).map fun x => if x = b then true else s x)) := by
  have h2 := own_setBool h b true
  rw [map_range_set] at h2
  exact h2
theorem grown_far {W0 W W' : World} {gs : Nat} {row : Option Nat} (h : W0.grownBy W (some gs)) (hg : W.grownBy W' row) (hr : ∀ k, row = some k → W0.heap.size ≤ k) : W0.grownBy W' (some gs) :=
  ⟨hg.os.trans h.os, hg.tape.trans h.tape, hg.output.trans h.output, Nat.le_trans h.size hg.size, fun k hk hne => (hg.block k (by have := h.size; omega) (fun e => by have := hr k e.symm; omega)).trans (h.block k hk hne)⟩
theorem grown_set (W : World) (gs y : Nat) (v : Value) : W.grownBy (W.setCell ⟨gs, y, none⟩ v) (some gs) :=
  ⟨rfl, rfl, rfl, by simp, fun k _ hk => Below.heap_setCell W _ _ k (fun e => hk (by rw [e]))⟩
set_option maxHeartbeats 2000000 in
set_option maxRecDepth 100000 in
theorem paParts_any (n : Nat) (l : PL) (A : Option Addr) (c : Nat) (w : World) (hp : isP n l = true) (hA : CRead w w.heap.size A (pcells l)) :
    Calls Tryd.prog 85 #[.agg #[.int .i64 n, .slice A l.length c]] w fun e w' => ∃ A' c' R C, e = .returned (.slice A' (partsI (lab n l) n).length c') ∧ RowsL w' w.heap.size (.slice A' (partsI (lab n l) n).length c') (partsI (lab n l) n) R C ∧ Below w.heap.size w w' := by
  have hr : CRead (w.alloc (Obj.cells #[.int .i64 n, .slice A l.length c] 31)) (w.alloc (Obj.cells #[.int .i64 n, .slice A l.length c] 31)).heap.size A (pcells l) := (hA.below (B' := w.heap.size) (by go_grown) (Nat.le_refl _)).more (by go_size)
  obtain ⟨i0, hi, hz0, hz1, hz2⟩ := info_parts Tryd.infoInt
  obtain ⟨i1, hj, hy0, hy1, hy2⟩ := info_parts Tryd.infoBoolP
  obtain ⟨i2, hk, hx0, hx1, hx2⟩ := info_parts Tryd.infoRowP
  have hn := isP_range hp
  have hn12 : n ≤ 12 := by omega
  have calt := paTable_any n l A c _ hp hr
  simp only [Int.toNat_natCast] at calt
  have hown := fun c hc => lab_own (lab_in hp) c hc
  have hnew := fun a => partsTo_new (f := lab n l) (n := n) (a := a)
  have hold := fun a => partsTo_old (f := lab n l) (n := n) (a := a)
  have hfew := partsTo_few (lab n l) n
  rw [← partsTo_all]
  have Calt := Lib.hid calt
  have Hp := Lib.hid hp
  have Hown := Lib.hid hown
  have Hnew := Lib.hid hnew
  have Hold := Lib.hid hold
  have Hfew := Lib.hid hfew
  clear calt hp hown hnew hold hfew
  go_enter Tryd.func85, Tryd.ntmps85
  go_wp2_with fail
  refine Calt.out.mono ?_
  rintro e w3 ⟨A3, c3, G, rfl, tab, hb3⟩
  have p0 : w3.cell? ⟨w.heap.size, 0, none⟩ = some (.int .i64 n) := carry hb3 (by simp) (by simp)
  have p1 : w3.cell? ⟨w.heap.size, 1, none⟩ = some (.slice A l.length c) := carry hb3 (by simp) (by simp)
  have s3 := hb3.size
  simp only [World.size_alloc] at hb3 s3 tab
  have k3 : Below w.heap.size w w3 := Below.trans (b := _) (by go_grown) (hb3.mono (by omega))
  have Tab := Lib.hid tab
  have K3 := Lib.hid k3
  clear tab hb3 k3 Calt
  go_wp2_with (at_make; refine wpList_make_full _ rfl _ _ 79 rfl w3.heap.size 4 i1 _ 1 Tryd.underlying79 hj hy0 hy1 _ _ _ _ n rfl rfl (by omega) (by omega) (by rw [hy2]; omega) (by unfold maxLen; omega) (Nat.le_refl _) ?_; intro w4 hown4 hgr4)
  rw [show Value.cells (.bool false) = #[.bool false] from rfl, made_bools] at hown4
  obtain ⟨gs, hgs⟩ : ∃ gs, w3.heap.size = gs := ⟨_, rfl⟩
  rw [hgs] at hown4
  have hs0 : bcells (List.replicate n false) = bcells ((List.range n).map (snQ n l 0 [])) := by
    congr 1
    symm
    rw [List.eq_replicate_iff]
    refine ⟨by simp, fun x hx => ?_⟩
    obtain ⟨y, hy, rfl⟩ := List.mem_map.1 hx
    rw [snQ_nil]
    exact decide_eq_false (by have := (Hown.out y (List.mem_range.1 hy)).1; omega)
  rw [hs0] at hown4
  have k4 : Below w3.heap.size w3 w4 := below_of_gb hgr4 (Nat.le_refl _)
  have s4 := (own_lt hown4).2
  obtain ⟨B0, hB0⟩ : ∃ B0, w4.heap.size = B0 := ⟨_, rfl⟩
  rw [hB0] at s4
  rw [hgs] at k4 s3
  have Own4 := Lib.hid hown4
  have K4 := Lib.hid k4
  have hB04 : B0 ≤ w4.heap.size := by omega
  have hgs3 : w3.heap.size ≤ gs := by omega
  rw [hgs]
  clear hown4 hgr4 k4 hgs hB0 hs0
  go_loopw [5, 19] (fun v av wr => ∃ (a : Nat) (Av : Option Addr) (cv : Nat) (R : Nat → Option Addr) (C : Nat → Nat), a ≤ n ∧ av = .int .i64 a ∧ v = .slice Av (partsTo (lab n l) n a).length cv ∧ RowsL wr B0 (.slice Av (partsTo (lab n l) n a).length cv) (partsTo (lab n l) n a) R C ∧
    wr.ownsRow gs 4 1 (.slice (some ⟨gs, 0, none⟩) n n) n (bcells ((List.range n).map (snQ n l a []))) ∧ B0 ≤ wr.heap.size ∧ Below gs w3 wr) (fun _ av _ => n - (intOf av).toNat)
  case atStart => exact ⟨0, none, 0, _, _, Nat.zero_le _, rfl, rfl, RowsL.none _ _, Own4.out, hB04, K4.out⟩
  case round =>
    obtain ⟨a, Av, cv, R, C, ha, rfl, rfl, rows, seen, hsz, hb⟩ := hrel
    by_cases hlt : a < n
    · have hai : (a : Int) < (n : Int) := by omega
      have ca := own_boolFn seen hlt
      have hfa := Hown.out a hlt
      rw [snQ_nil] at ca
      by_cases hseen : lab n l a < a
      · rw [decide_eq_true hseen] at ca
        have hpt := Hold.out a (by omega)
        have hsn : bcells ((List.range n).map (snQ n l a [])) = bcells ((List.range n).map (snQ n l (a + 1) [])) := by
          congr 1
          refine List.map_congr_left fun x hx => ?_
          have hx2 := Hown.out x (List.mem_range.1 hx)
          rw [snQ_nil, snQ_nil, Bool.eq_iff_iff, decide_eq_true_eq, decide_eq_true_eq]
          constructor
          · intro h; omega
          · intro h
            by_cases he : lab n l x = a
            · exfalso
              rw [he] at hx2
              have h9 := hx2.2.2
              rw [Int.toNat_natCast] at h9
              omega
            · omega
        rw [hsn] at seen
        rw [← hpt] at rows
        have Rows := Lib.hid rows
        have Seen := Lib.hid seen
        have Hpt := Lib.hid (show (partsTo (lab n l) n (a + 1)).length = (partsTo (lab n l) n a).length by rw [hpt])
        clear rows seen hpt hsn hseen hfa
        go_wp2
        go_roundw
        case rel => exact ⟨a + 1, Av, cv, R, C, by omega, by go_num, by rw [Hpt.out], Rows.out, Seen.out, hsz, hb⟩
        case measure => simp [intOf]; omega
      · rw [decide_eq_false hseen] at ca
        have hfe : lab n l a = a := by omega
        have hpt := Hnew.out a hfe
        have fa := seen.frozenAt a
        have seen1 := own_setBoolFn (b := a) seen
        rw [snQ_push] at seen1
        rw [List.nil_append] at seen1
        have hbeg := Pfs.begin hlt hfe
        have Hbeg := Lib.hid hbeg
        obtain ⟨W0, hW0⟩ : ∃ W0, wr.setCell ⟨gs, a, none⟩ (.bool true) = W0 := ⟨_, rfl⟩
        rw [hW0] at seen1
        have z0 : W0.heap.size = wr.heap.size := by rw [← hW0]; simp
        have hbW : Below gs w3 W0 := by rw [← hW0]; exact hb.setCell (p := ⟨gs, a, none⟩) (Nat.le_refl _) _
        have hgsB : gs < B0 := s4
        have rowsW : RowsL W0 B0 (.slice Av (partsTo (lab n l) n a).length cv) (partsTo (lab n l) n a) R C := by
          refine rows.keptG (x := .slice (some ⟨gs, 0, none⟩) n n) (lo := gs) (hi := gs + 1) ?_ (fun k hk => by simp [Value.ownBlock] at hk; omega) (by omega)
          rw [← hW0]
          exact ⟨rfl, rfl, rfl, by simp, fun k _ hk => Below.heap_setCell wr _ _ k (fun e => hk (by simp [Value.ownBlock]; exact e))⟩
        have RowsW := Lib.hid rowsW
        have Seen1 := Lib.hid seen1
        have HbW := Lib.hid hbW
        have HW0 := Lib.hid hW0
        have Hpt := Lib.hid hpt
        have hszW : B0 ≤ W0.heap.size := by omega
        clear rows seen seen1 hbeg hW0 hbW rowsW hpt hb
        obtain ⟨N0, hN0⟩ : ∃ N0, wr.heap.size = N0 := ⟨_, rfl⟩
        go_wp2
        go_loopw [7, 8, 9] (fun q pv kv w2 => ∃ (Q : List Nat) (i : Nat), kv = .int .i64 i ∧ i ≤ Q.length ∧ Pfs n l a Q i ∧ (i = 0 → pv = .slice none 0 0) ∧ w2.ownsRow N0 3 1 q Q.length (qcells Q) ∧ w2.ownsRow N0 3 1 pv i (icells (partQ Q i)) ∧
          w2.ownsRow gs 4 1 (.slice (some ⟨gs, 0, none⟩) n n) n (bcells ((List.range n).map (snQ n l a Q))) ∧ N0 ≤ w2.heap.size ∧ W0.grownBy w2 (some gs) ∧ Below gs w3 w2) (fun _ _ kv _ => n - (intOf kv).toNat)
        case atStart =>
          have own3 := own_built1 (wr.setCell ⟨gs, a, none⟩ (.bool true)) a
          rw [show (wr.setCell ⟨gs, a, none⟩ (.bool true)).heap.size = N0 by rw [HW0.out, z0, hN0]] at own3
          refine ⟨[a], 0, rfl, Nat.zero_le _, Hbeg.out, fun _ => rfl, ?_, by rw [partQ_zero]; exact World.ownsRow_nil _ _ _ _, ?_, ?_, ?_, ?_⟩
          · exact own3
          · rw [HW0.out]; exact Seen1.out.alloc _
          · simp; omega
          · rw [HW0.out]; exact World.grownBy_alloc W0 _ _
          · rw [HW0.out]; exact HbW.out.alloc (by omega) _
        case round =>
          obtain ⟨Q, i, rfl, hiQ, hpfs, hp0, hq, hpart, hseen, hsz2, hg, hb⟩ := hrel
          have hfew := hpfs.few
          have Hpfs := Lib.hid hpfs
          have HG := Lib.hid hg
          clear hpfs hg
          by_cases hlt2 : i < Q.length
          · obtain ⟨u, hu⟩ := getSome Q i hlt2
            have hun := Hpfs.out.inn u (List.mem_of_getElem? hu)
            obtain ⟨Aq, cq, rfl, _⟩ := own_shape hq
            obtain ⟨gq, rfl⟩ := own_form hq (by omega)
            have hcu : ∀ v : World, v.ownsRow N0 3 1 (.slice (some ⟨gq, 0, none⟩) Q.length cq) Q.length (qcells Q) → v.cell? ⟨gq, i, none⟩ = some (.int .i64 u) := fun v h => own_intAt h (by rw [List.getElem?_map, hu]; rfl)
            have cu := hcu _ hq
            have hpn := partQ_next Hpfs.out.nodup hu
            have hput : Calls Tryd.prog 107 #[u8, .int .i64 u] wr fun e w' => ∃ A' c', e = .returned (.slice A' (i + 1) c') ∧ w'.ownsRow wr.heap.size 3 1 (.slice A' (i + 1) c') (i + 1) (icells (partQ Q (i + 1))) ∧ Below wr.heap.size wr w' := by
              by_cases hi0 : i = 0
              · subst hi0
                rw [hp0 rfl]
                have h := l1Put_nil u wr
                have e : partQ Q (0 + 1) = [(u : Int)] := by rw [← hpn.2, partQ_zero]; rfl
                rw [e]
                exact h
              · obtain ⟨Ap, cp, rfl, _⟩ := own_shape hpart
                obtain ⟨gp, rfl⟩ := own_form hpart (by omega)
                have hl := partQ_length (Q := Q) (i := i) (by omega)
                have h := l1Put_any (partQ Q i) u gp cp wr (by omega) (by rw [hl]; exact own_cap hpart) hpn.1 (CRead.of_own hpart) (own_lt hpart).2
                rw [hl, hpn.2] at h
                exact h
            have Hput := Lib.hid hput
            obtain ⟨S1, hS1⟩ : ∃ S1, wr.heap.size = S1 := ⟨_, rfl⟩
            have gqS : gq < S1 := by have := (own_lt hq).2; omega
            have calf := fun (X : World) (hX : Below w3.heap.size w3 X) => paFriends_any n u (adj l) A3 c3 G _ X hn12 hun (Tab.out.below hX (Nat.le_refl _))
            have hfat : ∀ (j : Nat) (x : Int), (friendR n (adj l u))[j]? = some x → ∃ y : Nat, x = y ∧ y < n ∧ adj l u y = true := fun j x h => friendR_at h
            have hfall : ∀ b, b < n → adj l u b = true → ∃ j : Nat, (friendR n (adj l u))[j]? = some (b : Int) := fun b hb1 hb2 => friendR_all hb1 hb2
            have hflen : (friendR n (adj l u)).length ≤ 12 := Nat.le_trans (friendR_le n _) hn12
            obtain ⟨fs, hfs⟩ : ∃ fs, friendR n (adj l u) = fs := ⟨_, rfl⟩
            simp only [hfs] at calf hfat hfall hflen
            have Calf := Lib.hid calf
            have Hu := Lib.hid hu
            have Hfat := Lib.hid hfat
            have Hfall := Lib.hid hfall
            have hii : (i : Int) < (Q.length : Int) := by omega
            have Hq := Lib.hid hq
            have Hseen := Lib.hid hseen
            clear calf hu hfat hfall hfs hput hpn hp0 hpart hseen
            go_wp2_with fail
            refine Hput.out.mono ?_
            rintro e w5 ⟨A5, c5, rfl, own5, hb5⟩
            rw [hS1] at own5 hb5
            have q5 := own_below Hq.out hb5 (by omega)
            have cu5 := hcu _ q5
            have s5 := hb5.size
            have kb5 : Below gs w3 w5 := hb.trans (hb5.mono (by omega))
            have seen5 := own_below Hseen.out hb5 (by omega)
            have Own5 := Lib.hid own5
            have Seen5 := Lib.hid seen5
            have Q5 := Lib.hid q5
            have G5 : W0.grownBy w5 (some gs) := HG.out.trans (below_grownBy hb5 (by omega) _)
            have HG5 := Lib.hid G5
            clear own5 seen5 q5 hq cu G5 Hput Hq Hseen
            go_wp2_with fail
            refine (Calf.out w5 (kb5.mono (by omega))).mono ?_
            rintro e w6 ⟨A6, c6, rfl, own6, hb6⟩
            obtain ⟨S2, hS2⟩ : ∃ S2, w5.heap.size = S2 := ⟨_, rfl⟩
            rw [hS2] at own6 hb6 s5
            have s6 := hb6.size
            have kb6 : Below gs w3 w6 := kb5.trans (hb6.mono (by omega))
            have Own6 := Lib.hid own6
            have Part6 := Lib.hid (own_below Own5.out hb6 (by omega))
            have Seen6 := Lib.hid (own_below Seen5.out hb6 (by omega))
            have Q6 := Lib.hid (own_below Q5.out hb6 (by omega))
            have HG6 := Lib.hid (HG5.out.trans (below_grownBy hb6 (by omega) _))
            have KB6 := Lib.hid kb6
            clear own6 kb6 kb5 cu5 hb5 Own5 Seen5 Q5 HG5 hb6 hb Calf
            go_wp2
            go_loopw [7, 50] (fun q jv wi => ∃ (Q' : List Nat) (j : Nat), jv = .int .i64 j ∧ j ≤ fs.length ∧ Pfs n l a Q' i ∧ Q'[i]? = some u ∧ Q'.take (i + 1) = Q.take (i + 1) ∧ (∀ (j' : Nat) (y : Nat), j' < j → fs[j']? = some (y : Int) → y ∈ Q') ∧
              wi.ownsRow N0 3 1 q Q'.length (qcells Q') ∧ wi.ownsRow gs 4 1 (.slice (some ⟨gs, 0, none⟩) n n) n (bcells ((List.range n).map (snQ n l a Q'))) ∧ wi.ownsRow S2 3 1 (.slice A6 fs.length c6) fs.length (icells fs) ∧
              wi.ownsRow S1 3 1 (.slice A5 (i + 1) c5) (i + 1) (icells (partQ Q (i + 1))) ∧ (∀ bq, q.ownBlock = some bq → bq < S1 ∨ w6.heap.size ≤ bq) ∧ w6.heap.size ≤ wi.heap.size ∧ W0.grownBy wi (some gs) ∧ Below gs w3 wi) (fun _ jv _ => fs.length - (intOf jv).toNat)
            case atStart => exact ⟨Q, 0, rfl, Nat.zero_le _, Hpfs.out, Hu.out, rfl, fun j' y hj => by omega, Q6.out, Seen6.out, Own6.out, Part6.out, fun bq hbq => by simp [Value.ownBlock] at hbq; omega, Nat.le_refl _, HG6.out, KB6.out⟩
            case round =>
              obtain ⟨Q', j, rfl, hj, hpf, hu', htk, hdone, hq, hseen, hfs, hpart, hap, hsz3, hg, hb⟩ := hrel
              have hfew' := hpf.few
              have Hpf := Lib.hid hpf
              have Hu' := Lib.hid hu'
              have Hdone := Lib.hid hdone
              have Hap := Lib.hid hap
              have Htk := Lib.hid htk
              have HG := Lib.hid hg
              clear hpf hu' hdone hap htk hg
              have hiQ' : i < Q'.length := (List.getElem?_eq_some_iff.1 Hu'.out).1
              by_cases hlt3 : j < fs.length
              · obtain ⟨x, hx⟩ := getSome fs j hlt3
                obtain ⟨y, rfl, hyn, hty⟩ := Hfat.out j x hx
                obtain ⟨bb, off, rfl, hbb, c0⟩ := (CRead.of_own hfs).int hx
                have cy := own_boolFn hseen hyn
                rw [snQ_friend Hp.out Hpf.out (List.mem_of_getElem? Hu'.out) hty] at cy
                have fy := hseen.frozenAt y
                have hji : (j : Int) < (fs.length : Int) := by omega
                have hyi : (y : Int) < (n : Int) := by omega
                have Hx := Lib.hid hx
                cases hin : Q'.contains y with
                | true =>
                  have hyQ : y ∈ Q' := List.contains_iff_mem.1 hin
                  rw [hin] at cy
                  have HyQ := Lib.hid hyQ
                  have Hseen := Lib.hid hseen
                  clear hx hyQ hin hseen
                  go_wp2
                  go_roundw
                  case rel =>
                    refine ⟨Q', j + 1, by go_num, by omega, Hpf.out, Hu'.out, Htk.out, ?_, hq, Hseen.out, hfs, hpart, Hap.out, hsz3, HG.out, hb⟩
                    intro j' z hj' hz
                    by_cases hjj : j' = j
                    · subst hjj
                      rw [Hx.out] at hz
                      have hzy := Option.some.inj hz
                      rw [show z = y by omega]
                      exact HyQ.out
                    · exact Hdone.out j' z (by omega) hz
                  case measure => simp [intOf]; omega
                | false =>
                  have hyQ : y ∉ Q' := fun h => by rw [List.contains_iff_mem.2 h] at hin; cases hin
                  rw [hin] at cy
                  have hpush := Hpf.out.push Hp.out Hu'.out hty hyQ
                  have hfew2 := hpush.few
                  rw [List.length_append, List.length_singleton] at hfew2
                  have hseen2 := own_setBoolFn (b := y) hseen
                  rw [snQ_push] at hseen2
                  have hq2 := ownsRow_setCell_below hq (a := ⟨gs, y, none⟩) (by show gs < N0; omega) (.bool true)
                  have hfs2 := ownsRow_setCell_below hfs (a := ⟨gs, y, none⟩) (by show gs < S2; omega) (.bool true)
                  have hpart2 := ownsRow_setCell_below hpart (a := ⟨gs, y, none⟩) (by show gs < S1; omega) (.bool true)
                  have hb2 : Below gs w3 (wr.setCell ⟨gs, y, none⟩ (.bool true)) := hb.setCell (p := ⟨gs, y, none⟩) (Nat.le_refl _) _
                  have hg2 := HG.out.trans (grown_set wr gs y (.bool true))
                  have Hpush := Lib.hid hpush
                  have Hseen2 := Lib.hid hseen2
                  have Hq2 := Lib.hid hq2
                  have Hfs2 := Lib.hid hfs2
                  have Hpart2 := Lib.hid hpart2
                  have Hb2' := Lib.hid hb2
                  have HG2 := Lib.hid hg2
                  have hsq : N0 ≤ wr.heap.size := by omega
                  clear hx hpush hseen2 hq2 hfs2 hpart2 hb2 hg2 hq hseen hfs hpart hb hin hyQ HG
                  have hbox : ((wr.setCell ⟨gs, y, none⟩ (.bool true)).alloc (Obj.cells #[.int .i64 y] 3)).cell? ⟨wr.heap.size, 0, none⟩ = some (.int .i64 y) := by
                    have h := heap_alloc_new (wr.setCell ⟨gs, y, none⟩ (.bool true)) (Obj.cells #[.int .i64 y] 3)
                    rw [show (wr.setCell ⟨gs, y, none⟩ (.bool true)).heap.size = wr.heap.size by simp] at h
                    rw [cell_of_row _ _ _ _ _ _ h]
                    rfl
                  have Hbox := Lib.hid hbox
                  clear hbox
                  go_wp2_with (at_builtin; refine Go.wpList_append_own_at _ rfl _ _ 26 rfl N0 3 i0 _ 1 8 Tryd.underlying26 hi hz0 hz1 hz2 rfl (by decide) _ _ _ rfl (Hq2.out.alloc _) ⟨wr.heap.size, 0, none⟩ 1 1 [.int .i64 y] rfl rfl (one_cell Hbox.out) (one_one rfl) (by unfold maxLen; omega) (by omega) (by simp; omega) ?_; intro v1 w7 hown7 hg7 _ hloc; obtain ⟨A1, d1', rfl, _⟩ := own_shape hown7)
                  go_roundw
                  case rel =>
                    refine ⟨Q' ++ [y], j + 1, by go_num, by omega, Hpush.out, ?_, ?_, ?_, ?_, ?_, ?_, ?_, ?_, ?_, ?_, ?_⟩
                    · rw [List.getElem?_append_left hiQ']; exact Hu'.out
                    · rw [List.take_append_of_le_length (by omega)]; exact Htk.out
                    · intro j' z hj' hz
                      by_cases hjj : j' = j
                      · subst hjj
                        rw [Hx.out] at hz
                        have hzy := Option.some.inj hz
                        exact List.mem_append_right _ (by simp; omega)
                      · exact List.mem_append_left _ (Hdone.out j' z (by omega) hz)
                    · rw [List.length_append, List.length_singleton]
                      unfold qcells
                      rw [List.map_append, List.map_singleton, icells_append]
                      exact hown7
                    · refine (Hseen2.out.alloc _).kept hg7 (.inr fun e => ?_)
                      have := (Hq2.out.lt gs e.symm).1
                      omega
                    · refine (Hfs2.out.alloc _).kept hg7 (.inr fun e => ?_)
                      have h1 := Hap.out bb e.symm
                      have h2 := Own6.out.lt bb rfl
                      omega
                    · cases hA5 : (Value.slice A5 (i + 1) c5).ownBlock with
                      | none => exact (Hpart2.out.alloc _).kept hg7 (.inl hA5)
                      | some b5 =>
                        refine (Hpart2.out.alloc _).kept hg7 (.inr fun e => ?_)
                        rw [hA5] at e
                        have h1 := Hap.out b5 e.symm
                        have h2 := Part6.out.lt b5 hA5
                        omega
                    · intro bq hbq
                      rcases hloc with h | h
                      · rw [h] at hbq; exact Hap.out bq hbq
                      · rw [h] at hbq
                        simp at hbq
                        omega
                    · have h := hg7.size
                      simp at h
                      omega
                    · exact grown_far (HG2.out.trans (World.grownBy_alloc _ _ _)) hg7 (fun k hk => by have := (Hq2.out.lt k hk).1; omega)
                    · exact (Hb2'.out.alloc (by simp; omega) _).grown hg7 (by simp; omega) fun b hb => by have := (Hq2.out.lt b hb).1; omega
                  case measure => simp [intOf]; omega
              · have hge : ¬ ((j : Int) < (fs.length : Int)) := by omega
                have hnx := Hpf.out.next Hu'.out fun b hb2 => by
                  obtain ⟨j', hj'⟩ := Hfall.out b (adj_of Hp.out hb2).2.1 hb2
                  exact Hdone.out j' b (by have := (List.getElem?_eq_some_iff.1 hj').1; omega) hj'
                have Hnx := Lib.hid hnx
                have hpq : partQ Q' (i + 1) = partQ Q (i + 1) := by unfold partQ; rw [Htk.out]
                have Part7 := Lib.hid (show wr.ownsRow N0 3 1 (.slice A5 (i + 1) c5) (i + 1) (icells (partQ Q' (i + 1))) by rw [hpq]; exact own_lower hpart (by omega))
                have Hb := Lib.hid hb
                have Hq := Lib.hid hq
                have Hseen := Lib.hid hseen
                clear hnx hb hq hseen hpart hpq hfs
                go_wp2
                go_roundw
                case rel => exact ⟨Q', i + 1, by go_num, by omega, Hnx.out, (fun h => by omega), Hq.out, Part7.out, Hseen.out, by omega, HG.out, Hb.out⟩
                case measure => simp [intOf]; omega
          · have hil : i = Q.length := by omega
            subst hil
            have hii : ¬ ((Q.length : Int) < (Q.length : Int)) := by omega
            obtain ⟨Aq, cq, rfl, _⟩ := own_shape hq
            have hrow := Hpfs.out.row Hp.out hlt (by omega)
            have hpl := partQ_length (Q := Q) (i := Q.length) (by omega)
            obtain ⟨L, hL⟩ : ∃ L, rowOf (lab n l) n a = L := ⟨_, rfl⟩
            rw [hL] at hrow
            rw [hrow] at hpl
            obtain ⟨Ap, cp, rfl, _⟩ := own_shape hpart
            have rowsN : RowsL wr B0 (.slice Av (partsTo (lab n l) n a).length cv) (partsTo (lab n l) n a) R C :=
              RowsW.out.keptG (x := .slice (some ⟨gs, 0, none⟩) n n) (lo := gs) (hi := gs + 1) HG.out (fun k hk => by simp [Value.ownBlock] at hk; omega) (by omega)
            have hap := RowsW.out.fresh (x := .slice Ap L.length cp) (lo := N0) (hi := wr.heap.size) (by rw [hpl]; exact own_lies hpart) (by omega)
            have part2 : wr.ownsRow B0 3 1 (.slice Ap L.length cp) L.length (icells L) := by rw [hpl, ← hrow]; exact own_lower hpart (by omega)
            have hsn : bcells ((List.range n).map (snQ n l a Q)) = bcells ((List.range n).map (snQ n l (a + 1) [])) := by
              congr 1
              exact List.map_congr_left fun x hx => snQ_done Hp.out hlt Hpfs.out (by omega) (List.mem_range.1 hx)
            rw [hsn] at hseen
            have hpt := Hpt.out
            rw [hL] at hpt
            have hfw := Hfew.out a
            have hoW := rowsN.own
            have RowsN := Lib.hid rowsN
            have HAp := Lib.hid hap
            have Part2 := Lib.hid part2
            have HSeen := Lib.hid hseen
            have HPt := Lib.hid hpt
            have Hpl := Lib.hid hpl
            have Hb := Lib.hid hb
            have szB : B0 ≤ wr.heap.size := by omega
            clear hrow hL hpart rowsN hap part2 hsn hseen hpt hpl hq hb hp0
            go_wp2_with (at_builtin; refine wpList_append_own _ rfl _ _ 102 rfl B0 26 i2 (.slice none 0 0) 1 24 Tryd.underlying102 hk hx0 hx1 hx2 rfl (by decide) _ _ _ rfl (hoW.alloc _) ⟨wr.heap.size, 0, none⟩ 1 1 [.slice Ap Q.length cp] rfl rfl (one_cell (by simp)) (one_one rfl) (by unfold maxLen; omega) (by omega) (by simp; omega) ?_; intro v1 w7 hown7 hg7 _; obtain ⟨A1, d1, rfl, _⟩ := own_shape hown7)
            have ch3 := RowsL.push (l := L) (RowsN.out.below ((Below.refl wr.heap.size wr).alloc (Nat.le_refl _) _)) (Part2.out.alloc _) HAp.out hg7 (by rw [Hpl.out]; exact hown7)
            have seen7 := (HSeen.out.alloc _).kept hg7 (.inr fun e => by have := (hoW.lt gs e.symm).1; omega)
            have hb7 := (Hb.out.alloc (by omega) _).grown hg7 (by simp; omega) (fun b hb => by have := (hoW.lt b hb).1; omega)
            have hs7 : B0 ≤ w7.heap.size := by have := hg7.size; simp at this; omega
            have Ch3 := Lib.hid ch3
            have Seen7 := Lib.hid seen7
            have Hb7 := Lib.hid hb7
            clear ch3 seen7 hb7 hown7 hg7 hoW
            go_roundw
            case rel =>
              refine ⟨a + 1, A1, d1, upN R (partsTo (lab n l) n a).length Ap, upN C (partsTo (lab n l) n a).length cp, by omega, by go_num, by rw [HPt.out, List.length_append, List.length_singleton], ?_, Seen7.out, hs7, Hb7.out⟩
              rw [HPt.out, List.length_append, List.length_singleton]
              exact Ch3.out
            case measure => simp [intOf]; omega
    · have e : a = n := by omega
      subst e
      have hge : ¬ ((a : Int) < (a : Int)) := by omega
      have Rows := Lib.hid rows
      clear rows seen
      go_wp2
      go_ret
      exact ⟨Av, cv, rfl, ⟨R, C, Rows.out.lower (by omega)⟩, K3.out.trans (hb.mono (by omega))⟩
end Go.Proofs.YtmiecebdkadhbaaDoor
/-
  'spec.taTables', by its contract.
-/
namespace Go.Proofs.YtmiecebdkadhbaaDoor
open Go.RowKit

set_option maxHeartbeats 2000000 in
set_option maxRecDepth 100000 in
theorem taTables_any (n : Nat) (l : PL) (A : Option Addr) (c : Nat) (w : World) (hp : isP n l = true) (hA : CRead w w.heap.size A (pcells l)) :
    Calls Tryd.prog 53 #[.agg #[.int .i64 n, .slice A l.length c]] w (GotIntsOk w (resTables n l).1 (resTables n l).2) := by
  have hr : CRead (w.alloc (Obj.cells #[.int .i64 n, .slice A l.length c] 31)) (w.alloc (Obj.cells #[.int .i64 n, .slice A l.length c] 31)).heap.size A (pcells l) := (hA.below (B' := w.heap.size) (by go_grown) (Nat.le_refl _)).more (by go_size)
  obtain ⟨i0, hi, hz0, hz1, hz2⟩ := info_parts Tryd.infoInt
  have hn := isP_range hp
  have hn12 : n ≤ 12 := by omega
  have hl66 : l.length ≤ 66 := by have h1 := isP_length hp; have h2 := people_sq hn.1 hn.2; omega
  have calt := paTable_any n l A c _ hp hr
  simp only [Int.toNat_natCast] at calt
  have calp := fun X hX => paParts_any n l A c X hp hX
  have hrl : (reps (lab n l) n).length ≤ n := reps_length_le _ _
  have hpl : (partsI (lab n l) n).length = (reps (lab n l) n).length := partsI_length _ _
  obtain ⟨⟨rv, rok⟩, hres⟩ : ∃ x, resTables n l = x := ⟨_, rfl⟩
  rw [hres]
  have Hres := Lib.hid hres
  have Calt := Lib.hid calt
  have Calp := Lib.hid calp
  have Hp := Lib.hid hp
  have Hpl := Lib.hid hpl
  clear calt hp calp hpl hres
  go_enter Tryd.func53, Tryd.ntmps53
  go_wp2_with fail
  refine Calt.out.mono ?_
  rintro e w3 ⟨A3, c3, G, rfl, tab, hb3⟩
  have p0 : w3.cell? ⟨w.heap.size, 0, none⟩ = some (.int .i64 n) := carry hb3 (by simp) (by simp)
  have p1 : w3.cell? ⟨w.heap.size, 1, none⟩ = some (.slice A l.length c) := carry hb3 (by simp) (by simp)
  have s3 := hb3.size
  simp only [World.size_alloc] at hb3 s3 tab
  have k3 : Below w.heap.size w w3 := Below.trans (b := _) (by go_grown) (hb3.mono (by omega))
  have Tab := Lib.hid tab
  have K3 := Lib.hid k3
  clear tab hb3 k3 Calt
  obtain ⟨B1, hB1⟩ : ∃ B1, w3.heap.size = B1 := ⟨_, rfl⟩
  go_wp2
  go_loopw [5, 16] (fun v kv wr => ∃ k : Nat, k ≤ n ∧ kv = .int .i64 k ∧ wr.ownsRow B1 3 1 v k (icells (List.replicate k (-1))) ∧ B1 ≤ wr.heap.size ∧ Below B1 w3 wr) (fun _ kv _ => n - (intOf kv).toNat)
  case atStart => exact ⟨0, Nat.zero_le _, rfl, World.ownsRow_nil _ _ _ _, by omega, Below.refl _ _⟩
  case round =>
    obtain ⟨k, hk, rfl, own, hsz, hb⟩ := hrel
    obtain ⟨Av, cv, rfl, _⟩ := own_shape own
    by_cases hlt : k < n
    · have hki : (k : Int) < (n : Int) := by omega
      have Own := Lib.hid own
      clear own
      go_wp2_with (at_builtin; refine wpList_append_own _ rfl _ _ 26 rfl B1 3 i0 _ 1 8 Tryd.underlying26 hi hz0 hz1 hz2 rfl (by decide) _ _ _ rfl (Own.out.alloc _) ⟨wr.heap.size, 0, none⟩ 1 1 [.int .i64 (-1)] rfl rfl (one_cell (by simp)) (one_one rfl) (by unfold maxLen; omega) (by omega) (by simp; omega) ?_; intro v1 w7 hown7 hg7 _; obtain ⟨A1, d1, rfl, _⟩ := own_shape hown7)
      go_roundw
      case rel =>
        refine ⟨k + 1, by omega, by go_num, ?_, ?_, ?_⟩
        · rw [List.replicate_succ', icells_append]; exact hown7
        · have := hg7.size; simp at this; omega
        · exact (hb.alloc (by omega) _).grown hg7 (by simp; omega) (fun b hb => (Own.out.lt b hb).1)
      case measure => simp [intOf]; omega
    · have e : n = k := by omega
      subst e
      have hge : ¬ ((n : Int) < (n : Int)) := by omega
      have hst : icells (List.replicate n (-1)) = icells ((List.range n).map fun _ => (-1 : Int)) := by
        congr 1
        symm
        rw [List.eq_replicate_iff]
        exact ⟨by simp, fun x hx => by obtain ⟨y, _, rfl⟩ := List.mem_map.1 hx; rfl⟩
      rw [hst] at own
      have Own := Lib.hid own
      have q0 := carry hb p0 (by omega)
      have q1 := carry hb p1 (by omega)
      have K4 := Lib.hid hb
      have kw4 := K3.out.trans (hb.mono (by omega))
      have KW4 := Lib.hid kw4
      clear own hst hb kw4
      obtain ⟨W4, hW4⟩ : ∃ x, x = wr := ⟨_, rfl⟩
      subst hW4
      go_wp2_with fail
      refine (Calp.out W4 ((hA.below KW4.out (Nat.le_refl _)).more KW4.out.size)).mono ?_
      rintro e w5 ⟨A5, c5, R5, C5, rfl, rows, hb5⟩
      have s5 := hb5.size
      have own5 := own_below Own.out hb5 (Nat.le_refl _)
      have hgoW : ∀ b, (Value.slice Av n cv).ownBlock = some b → b < W4.heap.size := fun b hbb => (Own.out.lt b hbb).2
      have t0 := carry hb5 q0 (by have := K4.out.size; omega)
      have t1 := carry hb5 q1 (by have := K4.out.size; omega)
      have kb5 : Below B1 w3 w5 := K4.out.trans (hb5.mono (by omega))
      have Rows := Lib.hid rows
      have Own5 := Lib.hid own5
      have KB5 := Lib.hid kb5
      have Hgo := Lib.hid hgoW
      have hLn : (partsI (lab n l) n).length ≤ n := by have := Hpl.out; omega
      have hn0 : n = 0 → (partsI (lab n l) n).length = 0 := fun h => by omega
      obtain ⟨M, hM⟩ : ∃ M, (partsI (lab n l) n).length = M := ⟨_, rfl⟩
      rw [hM] at hLn hn0
      have HM := Lib.hid hM
      clear rows own5 hb5 kb5 hgoW q0 q1
      rw [hM]
      clear hM
      go_wp2_with fail
      go_loopw [25] (fun mv wr => ∃ (m bnd : Nat) (o : Nat → Int), mv = .int .i64 m ∧ m ≤ M ∧ Bnd n l m bnd ∧ Tab2 n l bnd [] o ∧ wr.ownsRow B1 3 1 (.slice Av n cv) n (icells ((List.range n).map o)) ∧ w5.grownBy wr (Value.slice Av n cv).ownBlock ∧ Below B1 w3 wr) (fun mv _ => M - (intOf mv).toNat)
      case atStart => exact ⟨0, 0, _, rfl, Nat.zero_le _, fun j r _ => by omega, Tab2.start Hp.out, Own5.out, ⟨rfl, rfl, rfl, Nat.le_refl _, fun _ _ _ => rfl⟩, KB5.out⟩
      case round =>
        obtain ⟨m, bnd, o, rfl, hm, hbnd, htab, hout, hg, hb⟩ := hrel
        have Hbnd := Lib.hid hbnd
        have Htab := Lib.hid htab
        have HG := Lib.hid hg
        have sg := hg.size
        clear hbnd htab hg
        by_cases hlt : m < M
        · have hmi : (m : Int) < (M : Int) := by omega
          have hn1 : 0 < n := by
            rcases Nat.eq_zero_or_pos n with h | h
            · have := hn0 h; omega
            · exact h
          have hMr : m < (reps (lab n l) n).length := by have := Hpl.out; have := HM.out; omega
          obtain ⟨r, hr⟩ := getSome (reps (lab n l) n) m hMr
          obtain ⟨hrn, hrr⟩ := mem_reps.1 (List.mem_of_getElem? hr)
          have hLL : (partsI (lab n l) n)[m]? = some (rowOf (lab n l) n r) := by unfold partsI; rw [List.getElem?_map, hr]; rfl
          have hgetD : (partsI (lab n l) n).getD m [] = rowOf (lab n l) n r := getD_of hLL
          have hfst := rowOf_first hrr (fun c hc => (lab_own (lab_in Hp.out) c (by omega)).2.1) n hrn
          have hrows := Rows.out
          have hmL : m < (partsI (lab n l) n).length := by have := HM.out; omega
          obtain ⟨gP, rfl⟩ := own_form hrows.own (by omega)
          have hc := hrows.own.cellAt m (by omega)
          rw [List.getElem?_map, List.getElem?_range hmL, Option.map_some] at hc
          have hrow0 := hrows.row m hmL
          simp only [hgetD] at hc hrow0
          obtain ⟨g0, hg0⟩ := own_form hrow0.2 (by have := (List.getElem?_eq_some_iff.1 hfst).1; omega)
          rw [hg0] at hc hrow0
          have c0 := own_intAt hrow0.2 hfst
          have hgP := own_lt hrows.own
          have hg0l := own_lt hrow0.2
          obtain ⟨go, rfl⟩ := own_form hout (by omega)
          have hgo := Hgo.out go rfl
          have hgoB := (own_lt hout).1
          have hgw : w5.grownBy wr (some go) := HG.out
          have c1 : wr.cell? ⟨gP, m, none⟩ = some (.slice (some ⟨g0, 0, none⟩) (rowOf (lab n l) n r).length (C5 m)) := (World.cell?_of_block (hgw.block gP hgP.2 (fun e => by have := Option.some.inj e; omega))).trans hc
          have c2 : wr.cell? ⟨g0, 0, none⟩ = some (.int .i64 r) := (World.cell?_of_block (hgw.block g0 hg0l.2 (fun e => by have := Option.some.inj e; omega))).trans c0
          have c9 : (wr.setCell ⟨go, r, none⟩ (.int .i64 0)).cell? ⟨g0, 0, none⟩ = some (.int .i64 r) := (World.cell?_setCell_other _ _ _ _ (fun e => by injection e with e1; omega)).trans c2
          have hlpos : 0 < (rowOf (lab n l) n r).length := (List.getElem?_eq_some_iff.1 hfst).1
          obtain ⟨LR, hLR⟩ : ∃ LR, (rowOf (lab n l) n r).length = LR := ⟨_, rfl⟩
          rw [hLR] at c1 hlpos
          have hlposi : (0 : Int) < (LR : Int) := by omega
          have hri : (r : Int) < (n : Int) := by omega
          have d0 := own_intAt hout (k := r) (x := o r) (by rw [List.getElem?_map, List.getElem?_range hrn]; rfl)
          have f0 := hout.frozenAt r
          have hout2 := own_setInt hout r 0
          rw [range_set] at hout2
          have htab2 := (Htab.out.congr (Hbnd.out.same Hp.out hr)).begin hrr
          have Hbeg := Lib.hid (Pfs.begin hrn hrr)
          have Hnb := Lib.hid (Hbnd.out.next hr)
          obtain ⟨W0, hW0⟩ : ∃ W0, wr.setCell ⟨go, r, none⟩ (.int .i64 0) = W0 := ⟨_, rfl⟩
          have z0 : W0.heap.size = wr.heap.size := by rw [← hW0]; simp
          rw [hW0] at hout2
          have hbW : Below B1 w3 W0 := by rw [← hW0]; exact hb.setCell (p := ⟨go, r, none⟩) hgoB _
          have hgW : w5.grownBy W0 (some go) := by rw [← hW0]; exact hgw.trans (grown_set wr go r _)
          have Htab2 := Lib.hid htab2
          have Hout2 := Lib.hid hout2
          have HbW := Lib.hid hbW
          have HGW := Lib.hid hgW
          have HW0 := Lib.hid hW0
          obtain ⟨N0, hN0⟩ : ∃ N0, wr.heap.size = N0 := ⟨_, rfl⟩
          have hgoN : go < N0 := by omega
          obtain ⟨orr, horr⟩ : ∃ z, o r = z := ⟨_, rfl⟩
          rw [horr] at d0
          clear hr hLL hgetD hfst hrows hc hrow0 hg0 c0 hgP hg0l hout hgw hLR hout2 htab2 hW0 hbW hgW HG Htab hb horr
          go_wp2
          go_loopw [8, 9] (fun q kv w2 => ∃ (Q : List Nat) (o : Nat → Int) (i : Nat), kv = .int .i64 i ∧ i ≤ Q.length ∧ Pfs n l r Q i ∧ Tab2 n l r Q o ∧ w2.ownsRow N0 3 1 q Q.length (qcells Q) ∧ w2.ownsRow B1 3 1 (.slice (some ⟨go, 0, none⟩) n cv) n (icells ((List.range n).map o)) ∧
            N0 ≤ w2.heap.size ∧ w5.grownBy w2 (some go) ∧ Below B1 w3 w2) (fun _ kv _ => n - (intOf kv).toNat)
          case atStart =>
            have own3 := own_built1 (wr.setCell ⟨go, r, none⟩ (.int .i64 0)) r
            rw [show (wr.setCell ⟨go, r, none⟩ (.int .i64 0)).heap.size = N0 by rw [HW0.out, z0, hN0]] at own3
            refine ⟨[r], updI o r 0, 0, rfl, Nat.zero_le _, Hbeg.out, Htab2.out, ?_, ?_, ?_, ?_, ?_⟩
            · exact own3
            · rw [HW0.out]; exact Hout2.out.alloc _
            · simp; omega
            · rw [HW0.out]; exact HGW.out.trans (World.grownBy_alloc W0 _ _)
            · rw [HW0.out]; exact HbW.out.alloc (by omega) _
          case round =>
            obtain ⟨Q, o, i, rfl, hiQ, hpfs, htab, hq, hout, hsz, hg, hb⟩ := hrel
            have hfew := hpfs.few
            have Hpfs := Lib.hid hpfs
            have Htab := Lib.hid htab
            have HG := Lib.hid hg
            clear hpfs htab hg
            by_cases hlt2 : i < Q.length
            · obtain ⟨u, hu⟩ := getSome Q i hlt2
              have hun := Hpfs.out.inn u (List.mem_of_getElem? hu)
              obtain ⟨Aq, cq, rfl, _⟩ := own_shape hq
              obtain ⟨gq, rfl⟩ := own_form hq (by omega)
              have cu : wr.cell? ⟨gq, i, none⟩ = some (.int .i64 u) := own_intAt hq (by rw [List.getElem?_map, hu]; rfl)
              have call := paFriends_any n u (adj l) A3 c3 G _ wr hn12 hun (Tab.out.below (hb.mono (by omega)) (Nat.le_refl _))
              have hfat : ∀ (j : Nat) (x : Int), (friendR n (adj l u))[j]? = some x → ∃ y : Nat, x = y ∧ y < n ∧ adj l u y = true := fun j x h => friendR_at h
              have hfall : ∀ b, b < n → adj l u b = true → ∃ j : Nat, (friendR n (adj l u))[j]? = some (b : Int) := fun b hb1 hb2 => friendR_all hb1 hb2
              have hflen : (friendR n (adj l u)).length ≤ 12 := Nat.le_trans (friendR_le n _) hn12
              obtain ⟨fs, hfs⟩ : ∃ fs, friendR n (adj l u) = fs := ⟨_, rfl⟩
              simp only [hfs] at call hfat hfall hflen
              have Call := Lib.hid call
              have Hu := Lib.hid hu
              have Hfat := Lib.hid hfat
              have Hfall := Lib.hid hfall
              have hii : (i : Int) < (Q.length : Int) := by omega
              have Hq := Lib.hid hq
              have Hout := Lib.hid hout
              clear call hu hfat hfall hfs hq hout
              go_wp2_with fail
              refine Call.out.mono ?_
              rintro e w6 ⟨A6, c6, rfl, own6, hb6⟩
              have s6 := hb6.size
              have kb6 : Below B1 w3 w6 := hb.trans (hb6.mono (by omega))
              obtain ⟨S2, hS2⟩ : ∃ N, wr.heap.size = N := ⟨_, rfl⟩
              have Q6 := Lib.hid (own_below Hq.out hb6 (Nat.le_refl _))
              have Out6 := Lib.hid (own_below Hout.out hb6 (Nat.le_refl _))
              have HG6 := Lib.hid (HG.out.trans (below_grownBy hb6 (Nat.le_refl _) _))
              have KB6 := Lib.hid kb6
              have hqS : gq < S2 := by have := (own_lt Hq.out).2; omega
              rw [hS2] at own6 s6 hsz
              have Own6 := Lib.hid own6
              clear own6 kb6 cu hb6 hb Hq Hout Call hS2
              go_wp2
              go_loopw [8, 51] (fun q jv wi => ∃ (Q' : List Nat) (o' : Nat → Int) (j : Nat), jv = .int .i64 j ∧ j ≤ fs.length ∧ Pfs n l r Q' i ∧ Tab2 n l r Q' o' ∧ Q'[i]? = some u ∧ (∀ (j' : Nat) (y : Nat), j' < j → fs[j']? = some (y : Int) → y ∈ Q') ∧
                wi.ownsRow N0 3 1 q Q'.length (qcells Q') ∧ wi.ownsRow B1 3 1 (.slice (some ⟨go, 0, none⟩) n cv) n (icells ((List.range n).map o')) ∧
                wi.ownsRow S2 3 1 (.slice A6 fs.length c6) fs.length (icells fs) ∧ (∀ bq, q.ownBlock = some bq → bq < S2 ∨ w6.heap.size ≤ bq) ∧ w6.heap.size ≤ wi.heap.size ∧ w5.grownBy wi (some go) ∧ Below B1 w3 wi) (fun _ jv _ => fs.length - (intOf jv).toNat)
              case atStart => exact ⟨Q, o, 0, rfl, Nat.zero_le _, Hpfs.out, Htab.out, Hu.out, fun j' y hj => by omega, Q6.out, Out6.out, Own6.out, fun bq hbq => by simp [Value.ownBlock] at hbq; omega, Nat.le_refl _, HG6.out, KB6.out⟩
              case round =>
                obtain ⟨Q', o', j, rfl, hj, hpf, htab', hu', hdone, hq, hout, hfs, hap, hsz3, hg, hb⟩ := hrel
                have hfew' := hpf.few
                have Hpf := Lib.hid hpf
                have Htab' := Lib.hid htab'
                have Hu' := Lib.hid hu'
                have Hdone := Lib.hid hdone
                have Hap := Lib.hid hap
                have HG := Lib.hid hg
                clear hpf htab' hu' hdone hap hg
                have hiQ' : i < Q'.length := (List.getElem?_eq_some_iff.1 Hu'.out).1
                by_cases hlt3 : j < fs.length
                · obtain ⟨x, hx⟩ := getSome fs j hlt3
                  obtain ⟨y, rfl, hyn, hty⟩ := Hfat.out j x hx
                  obtain ⟨bb, off, rfl, hbb, c0⟩ := (CRead.of_own hfs).int hx
                  have cy := own_intAt hout (k := y) (x := o' y) (by rw [List.getElem?_map, List.getElem?_range hyn]; rfl)
                  have fy := hout.frozenAt y
                  have hji : (j : Int) < (fs.length : Int) := by omega
                  have hyi : (y : Int) < (n : Int) := by omega
                  have Hx := Lib.hid hx
                  have hsn := snQ_friend Hp.out Hpf.out (List.mem_of_getElem? Hu'.out) hty
                  cases hin : Q'.contains y with
                  | true =>
                    have hyQ : y ∈ Q' := List.contains_iff_mem.1 hin
                    rw [hin] at hsn
                    have htwo := Htab'.out.two y hyn hsn
                    have hneg : ¬ (o' y < 0) := by omega
                    have HyQ := Lib.hid hyQ
                    obtain ⟨oy, hoy⟩ : ∃ z, o' y = z := ⟨_, rfl⟩
                    rw [hoy] at cy hneg
                    have Hout2 := Lib.hid hout
                    clear hx hyQ hoy hout hin hsn htwo
                    go_wp2
                    go_roundw
                    case rel =>
                      refine ⟨Q', o', j + 1, by go_num, by omega, Hpf.out, Htab'.out, Hu'.out, ?_, hq, Hout2.out, hfs, Hap.out, hsz3, HG.out, hb⟩
                      intro j' z hj' hz
                      by_cases hjj : j' = j
                      · subst hjj
                        rw [Hx.out] at hz
                        have hzy := Option.some.inj hz
                        rw [show z = y by omega]
                        exact HyQ.out
                      · exact Hdone.out j' z (by omega) hz
                    case measure => simp [intOf]; omega
                  | false =>
                    have hyQ : y ∉ Q' := fun h => by rw [List.contains_iff_mem.2 h] at hin; cases hin
                    rw [hin] at hsn
                    have hnone := Htab'.out.none y hyn hsn
                    have hneg : o' y < 0 := by omega
                    obtain ⟨Aq', cq', hqe, _⟩ := own_shape hq
                    have hqf := hq
                    rw [hqe] at hqf
                    obtain ⟨gq', rfl⟩ := own_form hqf (by omega)
                    have hidx : ∀ v : World, (Instr.indexAt 26 u8 (.int .i64 i)).run Tryd.prog v = .ok (.pointer (some ⟨gq', i, none⟩)) v := fun v => by rw [hqe]; exact index_row hiQ' v
                    have cu := own_intAt hqf (k := i) (x := (u : Int)) (by rw [List.getElem?_map, Hu'.out]; rfl)
                    have co := own_intAt hout (k := u) (x := o' u) (by rw [List.getElem?_map, List.getElem?_range hun]; rfl)
                    have hsu : snQ n l r Q' u = true := by unfold snQ; rw [List.contains_iff_mem.2 (List.mem_of_getElem? Hu'.out), Bool.or_true]
                    have hu2 := Htab'.out.two u hun hsu
                    have hpush := Hpf.out.push Hp.out Hu'.out hty hyQ
                    have htpush := Htab'.out.push Hp.out Hpf.out (List.mem_of_getElem? Hu'.out) hty hyQ
                    have hfew2 := hpush.few
                    rw [List.length_append, List.length_singleton] at hfew2
                    have hout2 := own_setInt hout y (1 - o' u)
                    rw [range_set] at hout2
                    have hq2 := ownsRow_setCell_below hq (a := ⟨go, y, none⟩) (by show go < N0; omega) (.int .i64 (1 - o' u))
                    have hfs2 := ownsRow_setCell_below hfs (a := ⟨go, y, none⟩) (by show go < S2; omega) (.int .i64 (1 - o' u))
                    have hb2 : Below B1 w3 (wr.setCell ⟨go, y, none⟩ (.int .i64 (1 - o' u))) := hb.setCell (p := ⟨go, y, none⟩) hgoB _
                    have hg2 := HG.out.trans (grown_set wr go y (.int .i64 (1 - o' u)))
                    have Hpush := Lib.hid hpush
                    have Htpush := Lib.hid htpush
                    have Hout2 := Lib.hid hout2
                    have Hq2 := Lib.hid hq2
                    have Hfs2 := Lib.hid hfs2
                    have Hb2' := Lib.hid hb2
                    have HG2 := Lib.hid hg2
                    obtain ⟨ou, hou⟩ : ∃ z, o' u = z := ⟨_, rfl⟩
                    obtain ⟨oy, hoy⟩ : ∃ z, o' y = z := ⟨_, rfl⟩
                    rw [hou] at co hu2 Htpush Hout2 Hq2 Hfs2 Hb2' HG2
                    rw [hoy] at cy hneg
                    have hui : (u : Int) < (n : Int) := by omega
                    have hiQi : (i : Int) < (Q'.length : Int) := by omega
                    have hsq : N0 ≤ wr.heap.size := by omega
                    clear hx hpush htpush hout2 hq2 hfs2 hb2 hg2 hou hoy hout hq hqf hqe hfs hb hin hsn hnone hsu HG hyQ
                    have hbox : ((wr.setCell ⟨go, y, none⟩ (.int .i64 (1 - ou))).alloc (Obj.cells #[.int .i64 y] 3)).cell? ⟨wr.heap.size, 0, none⟩ = some (.int .i64 y) := by
                      have h := heap_alloc_new (wr.setCell ⟨go, y, none⟩ (.int .i64 (1 - ou))) (Obj.cells #[.int .i64 y] 3)
                      rw [show (wr.setCell ⟨go, y, none⟩ (.int .i64 (1 - ou))).heap.size = wr.heap.size by simp] at h
                      rw [cell_of_row _ _ _ _ _ _ h]
                      rfl
                    have Hbox := Lib.hid hbox
                    clear hbox
                    go_wp2_with (at_builtin; refine Go.wpList_append_own_at _ rfl _ _ 26 rfl N0 3 i0 _ 1 8 Tryd.underlying26 hi hz0 hz1 hz2 rfl (by decide) _ _ _ rfl (Hq2.out.alloc _) ⟨wr.heap.size, 0, none⟩ 1 1 [.int .i64 y] rfl rfl (one_cell Hbox.out) (one_one rfl) (by unfold maxLen; omega) (by omega) (by simp; omega) ?_; intro v1 w7 hown7 hg7 _ hloc; obtain ⟨A1, d1', rfl, _⟩ := own_shape hown7)
                    go_roundw
                    case rel =>
                      refine ⟨Q' ++ [y], updI o' y (1 - ou), j + 1, by go_num, by omega, Hpush.out, Htpush.out, ?_, ?_, ?_, ?_, ?_, ?_, ?_, ?_, ?_⟩
                      · rw [List.getElem?_append_left hiQ']; exact Hu'.out
                      · intro j' z hj' hz
                        by_cases hjj : j' = j
                        · subst hjj
                          rw [Hx.out] at hz
                          have hzy := Option.some.inj hz
                          exact List.mem_append_right _ (by simp; omega)
                        · exact List.mem_append_left _ (Hdone.out j' z (by omega) hz)
                      · rw [List.length_append, List.length_singleton]
                        unfold qcells
                        rw [List.map_append, List.map_singleton, icells_append]
                        exact hown7
                      · refine (Hout2.out.alloc _).kept hg7 (.inr fun e => ?_)
                        have := (Hq2.out.lt go e.symm).1
                        omega
                      · refine (Hfs2.out.alloc _).kept hg7 (.inr fun e => ?_)
                        have h1 := Hap.out bb e.symm
                        have h2 := Own6.out.lt bb rfl
                        omega
                      · intro bq hbq
                        rcases hloc with h | h
                        · rw [h] at hbq; exact Hap.out bq hbq
                        · rw [h] at hbq
                          simp at hbq
                          omega
                      · have h := hg7.size
                        simp at h
                        omega
                      · exact grown_far (HG2.out.trans (World.grownBy_alloc _ _ _)) hg7 (fun k hk => by have := (Hq2.out.lt k hk).1; omega)
                      · exact (Hb2'.out.alloc (by simp; omega) _).grown hg7 (by simp; omega) fun b hb => by have := (Hq2.out.lt b hb).1; omega
                    case measure => simp [intOf]; omega
                · have hge : ¬ ((j : Int) < (fs.length : Int)) := by omega
                  have hnx := Hpf.out.next Hu'.out fun b hb2 => by
                    obtain ⟨j', hj'⟩ := Hfall.out b (adj_of Hp.out hb2).2.1 hb2
                    exact Hdone.out j' b (by have := (List.getElem?_eq_some_iff.1 hj').1; omega) hj'
                  have Hnx := Lib.hid hnx
                  have Hb := Lib.hid hb
                  have Hq := Lib.hid hq
                  have Hout := Lib.hid hout
                  clear hnx hb hq hout hfs
                  go_wp2
                  go_roundw
                  case rel => exact ⟨Q', o', i + 1, by go_num, by omega, Hnx.out, Htab'.out, Hq.out, Hout.out, by omega, HG.out, Hb.out⟩
                  case measure => simp [intOf]; omega
            · have hii : ¬ ((i : Int) < (Q.length : Int)) := by omega
              obtain ⟨Aq, cq, rfl, _⟩ := own_shape hq
              have htab3 := Htab.out.congr (a' := r + 1) (Q' := []) fun x hx => snQ_done Hp.out hrn Hpfs.out (by omega) hx
              have Htab3 := Lib.hid htab3
              have Hout := Lib.hid hout
              have Hb := Lib.hid hb
              clear htab3 hout hb hq
              go_wp2
              go_roundw
              case rel => exact ⟨m + 1, r + 1, o, by go_num, by omega, Hnb.out, Htab3.out, Hout.out, HG.out, Hb.out⟩
              case measure => simp [intOf]; omega
        · have hge : ¬ ((m : Int) < (M : Int)) := by omega
          have hall := Hbnd.out.all Hp.out (show (reps (lab n l) n).length ≤ m by have := Hpl.out; have := HM.out; omega)
          have hsame := tabs_same Hp.out (fun x hx => Htab.out.two x hx (hall x hx)) (fun x hx => Htab.out.first x hx (hall x hx)) (fun c hc x hx => Htab.out.good c hc x hx (hall x hx))
          have p0w := carry hb p0 (by omega)
          have p1w := carry hb p1 (by omega)
          have kw : Below w.heap.size w wr := K3.out.trans (hb.mono (by omega))
          have hq : ((List.range n).map o).length = n := by simp
          obtain ⟨q, hqd⟩ : ∃ q, (List.range n).map o = q := ⟨_, rfl⟩
          rw [hqd] at hq hout hsame
          obtain ⟨hs1, hs2⟩ := hsame
          have cald := grDiffer_any n l A c q Av cv wr Hp.out hq (by omega) ((hA.below kw (Nat.le_refl _)).more kw.size) (CRead.of_own hout)
          rw [hq, hs1] at cald
          have Hout := Lib.hid hout
          have Hq := Lib.hid hq
          have Kw := Lib.hid kw
          have hres := Hres.out
          clear hb hout hq hqd hall hs1 kw
          cases hd : differI l (tabsP n l) with
          | true =>
            have e := hs2 hd
            rw [hd] at cald
            unfold resTables at hres
            rw [if_pos hd, ← e] at hres
            simp only [Prod.mk.injEq] at hres
            obtain ⟨rfl, rfl⟩ := hres
            have Cald := Lib.hid cald
            clear cald hs2 hd e
            go_wp2_with fail
            refine Cald.out.mono ?_
            rintro e w8 ⟨rfl, hb8⟩
            have own8 := Lib.hid (own_below Hout.out hb8 (Nat.le_refl _))
            go_wp2
            go_ret2
            exact ⟨Av, cv, by rw [Hq.out]; rfl, by rw [Hq.out]; exact own_lower own8.out (by omega), Kw.out.trans (hb8.mono Kw.out.size)⟩
          | false =>
            rw [hd] at cald
            unfold resTables at hres
            rw [if_neg (by rw [hd]; decide)] at hres
            simp only [Prod.mk.injEq] at hres
            obtain ⟨rfl, rfl⟩ := hres
            have Cald := Lib.hid cald
            clear cald hs2 hd
            go_wp2_with fail
            refine Cald.out.mono ?_
            rintro e w8 ⟨rfl, hb8⟩
            go_wp2
            go_ret2
            exact ⟨none, 0, rfl, World.ownsRow_nil _ _ _ _, Kw.out.trans (hb8.mono Kw.out.size)⟩
end Go.Proofs.YtmiecebdkadhbaaDoor
/-
  'impl.crowdOf', by its contract: the crowd of some people as a number.
-/
namespace Go.Proofs.YtmiecebdkadhbaaDoor
open Go.RowKit

def crowdN (q : List Int) : Nat := q.foldl (fun J x => J ||| 2 ^ x.toNat) 0
theorem crowdN_snoc (q : List Int) (x : Int) : crowdN (q ++ [x]) = crowdN q ||| 2 ^ x.toNat := by simp [crowdN, List.foldl_append]
theorem crowdN_small {q : List Int} (h : ∀ x ∈ q, 0 ≤ x ∧ x < 16) : crowdN q < 65536 := by
  have key : ∀ (q : List Int) (J : Nat), J < 65536 → (∀ x ∈ q, 0 ≤ x ∧ x < 16) → q.foldl (fun J x => J ||| 2 ^ x.toNat) J < 65536 := by
    intro q
    induction q with
    | nil => intro J hJ _; exact hJ
    | cons x q ih => intro J hJ h; exact ih _ (or_lt hJ (by have := h x List.mem_cons_self; omega)) fun y hy => h y (List.mem_cons_of_mem _ hy)
  exact key q 0 (by omega) h
set_option maxHeartbeats 2000000 in
set_option maxRecDepth 100000 in
theorem crowdOf_any (q : List Int) (B : Option Addr) (d : Nat) (w : World) (hm : ∀ x ∈ q, 0 ≤ x ∧ x < 12) (hq : q.length ≤ 1048576) (hB : CRead w w.heap.size B (icells q)) :
    Calls Tryd.prog 78 #[.slice B q.length d] w fun e w' => e = .returned (.int .u16 (crowdN q : Nat)) ∧ w = w' := by
  have hbits : ∀ k, crowdN (q.take k) < 65536 := fun k => crowdN_small fun x hx => by have := hm x (List.mem_of_mem_take hx); omega
  have Hm := Lib.hid hm
  have Hbits := Lib.hid hbits
  clear hm hbits
  go_enter Tryd.func78, Tryd.ntmps78
  go_wp2
  go_loop [3, 8] (fun v i => ∃ k : Nat, k ≤ q.length ∧ i = .int .i64 k ∧ v = .int .u16 (crowdN (q.take k) : Nat)) (fun _ i => q.length - (intOf i).toNat)
  case atStart => exact ⟨0, Nat.zero_le _, by go_num, by simp [crowdN]⟩
  case round =>
    obtain ⟨k, hk, rfl, rfl⟩ := hrel
    have hlt16 := Hbits.out k
    by_cases hlt : k < q.length
    · obtain ⟨x, hx⟩ := getSome q k hlt
      have hx0 := Hm.out x (List.mem_of_getElem? hx)
      obtain ⟨a, rfl⟩ : ∃ a : Nat, x = a := ⟨x.toNat, by omega⟩
      obtain ⟨b, off, rfl, hbb, c0⟩ := hB.int hx
      have hki : (k : Int) < (q.length : Int) := by omega
      have hnx : crowdN (q.take (k + 1)) = crowdN (q.take k) ||| 2 ^ a := by
        rw [List.take_add_one, hx, Option.toList_some, crowdN_snoc, Int.toNat_natCast]
      have hor := or_bit hlt16 (show a < 16 by omega)
      have hor2 := or_bit2 hlt16 (show a < 16 by omega)
      obtain ⟨C, hC⟩ : ∃ C, crowdN (q.take k) = C := ⟨_, rfl⟩
      rw [hC] at hor hor2 hlt16 hnx ⊢
      have Hnx := Lib.hid hnx
      have Hor := Lib.hid hor
      have Hor2 := Lib.hid hor2
      have ha0 : ¬ ((a : Int) < 0) := by omega
      clear hx hnx hC hor hor2
      go_wp2_with (first | rw [Hor.out] | rw [Hor2.out])
      go_round
      case rel => exact ⟨k + 1, by omega, by go_num, by rw [Hnx.out]⟩
      case measure => simp [intOf]; omega
    · have hkl : k = q.length := by omega
      have hge : ¬ ((k : Int) < (q.length : Int)) := by omega
      have He := Lib.hid (show crowdN (q.take k) = crowdN q by rw [hkl, List.take_length])
      clear hkl
      go_wp2
      go_ret
      exact ⟨by rw [He.out]; rfl, rfl⟩
end Go.Proofs.YtmiecebdkadhbaaDoor
/-
  'impl.peopleOf', by its contract: a number of sixteen bits as a rising list.
-/
namespace Go.Proofs.YtmiecebdkadhbaaDoor
open Go.RowKit

theorem drop_least {J a : Nat} {cs : List Nat} (h : IsSet J (a :: cs)) : IsSet (J &&& (J - 1)) cs := by
  have hp := h.pos
  have hs := h.small
  obtain ⟨m, hm, hk⟩ := Lib.ctzFrom_spec 16 J (by omega) hs
  have e : Lib.ctz 16 J = Lib.ctzFrom 16 J := by simp [Lib.ctz, hp]
  rw [← e, h.least] at hm hk
  have hp2 : 0 < 2 ^ a := Nat.two_pow_pos a
  have hJ1 : J - 1 = 2 ^ a * (2 * m) + (2 ^ a - 1) := by
    have : 2 ^ a * (2 * m + 1) = 2 ^ a * (2 * m) + 2 ^ a := by rw [Nat.mul_add, Nat.mul_one]
    omega
  have hlo : 2 ^ a - 1 < 2 ^ a := by omega
  have hbit : ∀ b, (J &&& (J - 1)).testBit b = (J.testBit b && decide (b ≠ a)) := by
    intro b
    rw [Nat.testBit_and]
    cases eb : J.testBit b with
    | false => rfl
    | true =>
      rw [Bool.true_and, hJ1, Nat.testBit_two_pow_mul_add _ hlo]
      rw [hm, Nat.testBit_two_pow_mul] at eb
      simp only [Bool.and_eq_true, decide_eq_true_eq] at eb
      rw [if_neg (by omega)]
      by_cases hba : b = a
      · subst hba; simp
      · obtain ⟨i, hi⟩ : ∃ i, b - a = i + 1 := ⟨b - a - 1, by omega⟩
        rw [hi] at eb ⊢
        rw [Nat.testBit_succ] at eb ⊢
        have e1 : (2 * m + 1) / 2 = m := by omega
        have e2 : 2 * m / 2 = m := by omega
        rw [e1] at eb
        rw [e2, eb.2]
        simp [hba]
  have ht := h.tail
  refine ⟨ht.up, ht.lt, fun b => ?_⟩
  rw [hbit, Bool.and_eq_true, h.mem, List.mem_cons, decide_eq_true_eq]
  have hap := (List.pairwise_cons.1 h.up).1
  constructor
  · rintro ⟨h1 | h1, h2⟩
    · exact absurd h1 h2
    · exact h1
  · intro hb
    have := hap b hb
    exact ⟨.inr hb, by omega⟩
set_option maxHeartbeats 2000000 in
set_option maxRecDepth 100000 in
theorem peopleOf_any {J : Nat} {cs : List Nat} (hset : IsSet J cs) (w : World) (htab : TabW w) :
    Calls Tryd.prog 96 #[.int .u16 J] w fun e w' => ∃ A c, e = .returned (.slice A cs.length c) ∧ w'.ownsRow w.heap.size 3 1 (.slice A cs.length c) cs.length (icells (cs.map fun b : Nat => (b : Int))) ∧ Below w.heap.size w w' := by
  obtain ⟨i0, hi, hz0, hz1, hz2⟩ := info_parts Tryd.infoInt
  have hlen : cs.length ≤ 16 := by
    have h := List.Nodup.length_le_of_subset (l₁ := cs) (l₂ := List.range 16) (hset.up.imp fun h => Nat.ne_of_lt h) (fun b hb => List.mem_range.2 (hset.lt b hb))
    simpa using h
  have HTab := Lib.hid htab
  have Hset := Lib.hid hset
  clear htab hset
  go_enter Tryd.func96, Tryd.ntmps96
  go_wp2
  go_loopw [0, 3] (fun g v wr => ∃ (k J' : Nat) (A : Option Addr) (c : Nat), k ≤ cs.length ∧ g = .int .u16 J' ∧ IsSet J' (cs.drop k) ∧ v = .slice A k c ∧ wr.ownsRow w.heap.size 3 1 (.slice A k c) k (icells ((cs.take k).map fun b : Nat => (b : Int))) ∧ Below w.heap.size w wr) (fun _ v _ => cs.length - sliceLen v)
  case atStart => exact ⟨0, J, none, 0, Nat.zero_le _, rfl, Hset.out, rfl, World.ownsRow_nil _ _ _ _, Below.refl _ _⟩
  case round =>
    obtain ⟨k, J', A, c, hk, rfl, hs, rfl, own, hb⟩ := hrel
    have s0 := hb.size
    by_cases hlt : k < cs.length
    · obtain ⟨a, ha⟩ := getSome cs k hlt
      have hdr : cs.drop k = a :: cs.drop (k + 1) := by
        rw [List.drop_eq_getElem_cons hlt]
        rw [List.getElem?_eq_getElem hlt] at ha
        rw [Option.some.inj ha]
      rw [hdr] at hs
      have hj := hs.pos
      have hsm := hs.small
      have hne : ((J' : Int) == 0) = false := by simp only [beq_eq_false_iff_ne, ne_eq]; omega
      have hne2 : ¬ ((J' : Int) = 0) := by omega
      have hnx := drop_least hs
      have hand : bits .and .u16 (J' : Int) ((J' : Int) - 1) = ((J' &&& (J' - 1) : Nat) : Int) := by
        rw [show (J' : Int) - 1 = ((J' - 1 : Nat) : Int) by omega]
        exact u16_and_nat J' (J' - 1) hsm (by omega)
      have htk : (cs.take (k + 1)).map (fun b : Nat => (b : Int)) = (cs.take k).map (fun b : Nat => (b : Int)) ++ [(a : Int)] := by
        rw [List.take_add_one, ha]; simp
      have call := tz16_any hs wr (HTab.out.below hb HTab.out.pos)
      have Call := Lib.hid call
      have Hand := Lib.hid hand
      have Htk := Lib.hid htk
      have Hnx := Lib.hid hnx
      have Own := Lib.hid own
      have Hb := Lib.hid hb
      clear ha hdr hs hj call hand htk hnx own hb
      go_wp2_with fail
      refine Call.out.mono ?_
      rintro e w1 ⟨rfl, rfl⟩
      go_wp2_with (at_builtin; refine wpList_append_own _ rfl _ _ 26 rfl w.heap.size 3 i0 _ 1 8 Tryd.underlying26 hi hz0 hz1 hz2 rfl (by decide) _ _ _ rfl (Own.out.alloc _) ⟨wr.heap.size, 0, none⟩ 1 1 [.int .i64 a] rfl rfl (one_cell (by simp)) (one_one rfl) (by unfold maxLen; omega) (by omega) (by simp; omega) ?_; intro v3 w3 own3 gr3 _; obtain ⟨A3, c3, rfl, _⟩ := own_shape own3)
      have hb3 : Below w.heap.size w w3 := (Hb.out.alloc (by omega) _).grown gr3 (by simp; omega) (fun k hk => (Own.out.lt k hk).1)
      rw [Hand.out]
      go_roundw
      case rel => exact ⟨k + 1, _, A3, c3, by omega, rfl, Hnx.out, by go_num, by rw [Htk.out, icells_append]; exact own3, hb3⟩
      case measure => simp [sliceLen]; omega
    · have hkl : k = cs.length := by omega
      subst hkl
      rw [List.drop_length] at hs
      have hz := hs.zero
      subst hz
      rw [List.take_length] at own
      have Own := Lib.hid own
      clear own
      go_wp2
      go_ret
      exact ⟨A, c, rfl, Own.out, hb⟩
end Go.Proofs.YtmiecebdkadhbaaDoor
/-
  'impl.distance', by its contract.
-/
namespace Go.Proofs.YtmiecebdkadhbaaDoor
open Go.RowKit

def distR (o : Int) : Int × Bool := if o < 0 then (0, false) else (o, true)
theorem distR_no {o : Int} (h : o = -1) : distR o = (0, false) := by subst h; rfl
theorem distR_at {o : Int} {d : Nat} (h : o = d) : distR o = ((d : Int), true) := by subst h; unfold distR; rw [if_neg (by omega)]
theorem crowdN_one (x : Nat) : crowdN [(x : Int)] = 2 ^ x := by
  have h := crowdN_snoc [] (x : Int)
  simpa [show crowdN [] = 0 from rfl] using h
/-- those who are reached -/
def reachL (n : Nat) (t : Nat → Nat → Bool) (a d : Nat) : List Nat := (List.range n).filter (rch n t a d)
theorem reach_set {n a d R : Nat} {t : Nat → Nat → Bool} (h : Reached n t a d R) (hn : n ≤ 12) (ha : a < n) (ht : ∀ y x, t y x = true → x < n) : IsSet R (reachL n t a d) := by
  refine ⟨List.pairwise_lt_range.filter _, fun x hx => by have := List.mem_range.1 (List.mem_filter.1 hx).1; omega, fun x => ?_⟩
  unfold reachL
  rw [h.bit, List.mem_filter, List.mem_range]
  exact ⟨fun e => ⟨rch_lt ha ht e, e⟩, fun e => e.2⟩
theorem reach_in {n a d x : Nat} {t : Nat → Nat → Bool} (h : x ∈ reachL n t a d) : x < n := List.mem_range.1 (List.mem_filter.1 h).1
theorem reach_len (n a d : Nat) (t : Nat → Nat → Bool) : (reachL n t a d).length ≤ n := Nat.le_trans (List.length_filter_le _ _) (by simp)
theorem bit_and {R b : Nat} : (R &&& 2 ^ b = 0) ↔ R.testBit b = false := by
  constructor
  · intro h
    have h1 : (R &&& 2 ^ b).testBit b = false := by rw [h, Nat.zero_testBit]
    rw [Nat.testBit_and, Nat.testBit_two_pow_self, Bool.and_true] at h1
    exact h1
  · intro h
    refine Nat.eq_of_testBit_eq fun i => ?_
    rw [Nat.testBit_and, Nat.zero_testBit, Nat.testBit_two_pow]
    by_cases hi : b = i
    · subst hi; rw [h]; rfl
    · rw [decide_eq_false hi, Bool.and_false]
set_option maxHeartbeats 1000000 in
set_option maxRecDepth 100000 in
theorem distance_any {T : Nat → Nat} {t : Nat → Nat → Bool} (hT : TiesOf T t) {n a b : Nat} (hn : n ≤ 12) (ha : a < n) (hb : b < n) (ht : ∀ y x, t y x = true → x < n) (w : World) (htab : TabW w) :
    Calls Tryd.prog 68 #[.agg (tcells T), .int .i64 a, .int .i64 b] w fun e w' => e = .returned (.tuple #[.int .i64 (distR (distO n t a b)).1, .bool (distR (distO n t a b)).2]) ∧ Below w.heap.size w w' := by
  obtain ⟨⟨rv, rok⟩, hres⟩ : ∃ x, distR (distO n t a b) = x := ⟨_, rfl⟩
  rw [hres]
  have Hres := Lib.hid hres
  have HTab := Lib.hid htab
  have hpos := htab.pos
  obtain ⟨X, hX⟩ : ∃ X, w.alloc (Obj.cells (tcells T) 83) = X := ⟨_, rfl⟩
  have row0 : X.rowIs w.heap.size 83 12 (fun j => .int .u16 (T j)) := by rw [← hX]; exact rowIs_u16 w _ _
  have zX1 : X.heap.size = w.heap.size + 1 := by rw [← hX]; simp
  have zX : w.heap.size < X.heap.size := by omega
  have kX : Below w.heap.size w X := by rw [← hX]; go_grown
  have hone : ∀ (x : Nat) (v : World), x < 12 → Calls Tryd.prog 78 #[.slice (some ⟨v.heap.size, 0, none⟩) 1 1] (v.alloc (Obj.cells #[.int .i64 x] 3)) fun e w' => e = .returned (.int .u16 ((2 ^ x : Nat) : Int)) ∧ v.alloc (Obj.cells #[.int .i64 x] 3) = w' := by
    intro x v hx
    have h := crowdOf_any [(x : Int)] (some ⟨v.heap.size, 0, none⟩) 1 (v.alloc (Obj.cells #[.int .i64 x] 3)) (fun y hy => by simp at hy; omega) (by simp) (fun j u hu => by
      refine ⟨v.heap.size, 0, rfl, by simp, ?_⟩
      match j, hu with
      | 0, hu => simp [icells] at hu; subst hu; simp
      | j + 1, hu => simp [icells] at hu)
    rw [crowdN_one, show ([(x : Int)]).length = 1 from rfl] at h
    exact h
  have ha16 : a < 16 := by omega
  have hb16 : b < 16 := by omega
  have honeA := fun v : World => hone a v (by omega)
  have honeB := fun v : World => hone b v (by omega)
  have hstart := Reached.begin n t ha16
  have hb2 := two_lt hb16
  have hbits := fun R : Nat => bit_and (R := R) (b := b)
  obtain ⟨Ja, hJa⟩ : ∃ J, 2 ^ a = J := ⟨_, rfl⟩
  obtain ⟨Jb, hJb⟩ : ∃ J, 2 ^ b = J := ⟨_, rfl⟩
  simp only [hJa] at honeA hstart
  simp only [hJb] at honeB hb2 hbits
  have HoneA := Lib.hid honeA
  have HoneB := Lib.hid honeB
  have Hstart := Lib.hid hstart
  have Hb2 := Lib.hid hb2
  have Hbits := Lib.hid hbits
  have Row := Lib.hid row0
  have KX := Lib.hid kX
  unfold tcells at hX ⊢
  have HX := Lib.hid hX
  have HT := Lib.hid hT
  have Ht := Lib.hid ht
  clear hres htab hX row0 kX hone hT ht honeA honeB hstart hb2 hbits hJa hJb
  go_enter Tryd.func68, Tryd.ntmps68
  go_wp2_with fail
  rw [HX.out]
  have cA := HoneA.out X
  rw [zX1] at cA
  refine cA.mono ?_
  clear cA
  rintro e w1 ⟨rfl, rfl⟩
  go_wp2
  go_loopw [8, 9] (fun len r wr => ∃ d R : Nat, len = .int .i64 d ∧ r = .int .u16 R ∧ Reached n t a d R ∧ (∀ e, e < d → rch n t a e b = false) ∧ Below X.heap.size X wr) (fun _ r _ => 65536 - (intOf r).toNat)
  case atStart => exact ⟨0, Ja, rfl, rfl, Hstart.out, fun e he => by omega, by go_grown⟩
  case round =>
    obtain ⟨d, R, rfl, rfl, hre, hno, hbx⟩ := hrel
    have sx := hbx.size
    have hR := hre.lt
    have hdR := hre.most
    have hand := u16_and_nat R Jb hR Hb2.out
    have hzz := Hbits.out R
    obtain ⟨Z, hZ⟩ : ∃ Z, R &&& Jb = Z := ⟨_, rfl⟩
    rw [hZ] at hand hzz
    clear hZ
    have Hre := Lib.hid hre
    have Hno := Lib.hid hno
    clear hre hno
    cases hbit : R.testBit b with
    | true =>
      have hz1 : Z ≠ 0 := fun h => by rw [hzz.1 h] at hbit; cases hbit
      have hz : ((Z : Int) == 0) = false := by
        simp only [beq_eq_false_iff_ne, ne_eq]
        omega
      have e := Hres.out
      rw [distR_at (Hre.out.found hbit Hno.out)] at e
      simp only [Prod.mk.injEq] at e
      obtain ⟨rfl, rfl⟩ := e
      clear hbit hz1 hzz
      go_wp2_with fail
      refine (HoneB.out wr).mono ?_
      rintro e w2 ⟨rfl, rfl⟩
      go_wp2
      go_ret2
      exact ⟨rfl, KX.out.trans ((hbx.alloc sx _).mono (Nat.le_of_lt zX))⟩
    | false =>
      have hz1 : Z = 0 := hzz.2 hbit
      subst hz1
      have hset := reach_set Hre.out hn ha Ht.out
      have Hset := Lib.hid hset
      have Hbit := Lib.hid hbit
      clear hzz hset hbit
      go_wp2_with fail
      refine (HoneB.out wr).mono ?_
      rintro e w2 ⟨rfl, rfl⟩
      have g2 : Below X.heap.size X (wr.alloc (Obj.cells #[.int .i64 b] 3)) := hbx.alloc sx _
      have k2 : Below w.heap.size w (wr.alloc (Obj.cells #[.int .i64 b] 3)) := KX.out.trans (g2.mono (Nat.le_of_lt zX))
      obtain ⟨cs, hcs⟩ : ∃ cs, reachL n t a d = cs := ⟨_, rfl⟩
      have hin : ∀ x ∈ cs, x < n := fun x hx => by rw [← hcs] at hx; exact reach_in hx
      have hlen : cs.length ≤ 12 := by rw [← hcs]; exact Nat.le_trans (reach_len n a d t) hn
      have call := peopleOf_any Hset.out _ (HTab.out.below k2 hpos)
      rw [hcs] at call
      have hmem : ∀ x, R.testBit x = true ↔ x ∈ cs := fun x => by rw [← hcs]; exact Hset.out.mem x
      have Hin := Lib.hid hin
      have Hmem := Lib.hid hmem
      have Call := Lib.hid call
      clear hin hmem call hcs
      go_wp2_with fail
      refine Call.out.mono ?_
      rintro e w3 ⟨A3, c3, rfl, own3, hb3⟩
      have g3 : Below X.heap.size X w3 := g2.trans (hb3.mono g2.size)
      have s3 := g3.size
      have row3 : w3.rowIs w.heap.size 83 12 (fun j => .int .u16 (T j)) := by obtain ⟨cc, h1, h2⟩ := Row.out; exact ⟨cc, (g3.block _ zX).trans h1, h2⟩
      have rd := CRead.of_own own3
      have Row3 := Lib.hid row3
      have Rd := Lib.hid rd
      clear row3 rd own3 Call hand
      go_wp2
      go_loop [9, 26] (fun r i => ∃ j : Nat, j ≤ cs.length ∧ i = .int .i64 j ∧ r = .int .u16 (orT T (cs.take j) R)) (fun _ i => cs.length - (intOf i).toNat)
      case atStart => exact ⟨0, Nat.zero_le _, rfl, rfl⟩
      case round =>
        obtain ⟨j, hj, rfl, rfl⟩ := hrel
        have hlt16 : orT T (cs.take j) R < 65536 := orT_small T _ R hR fun c hc => HT.out.lt c (by have := Hin.out c (List.mem_of_mem_take hc); omega)
        by_cases hlt : j < cs.length
        · obtain ⟨x, hx⟩ := getSome cs j hlt
          have hxn := Hin.out x (List.mem_of_getElem? hx)
          have hxT := HT.out.lt x (by omega)
          obtain ⟨bb, off, rfl, hbb, c0⟩ := Rd.out.int (show (cs.map fun b : Nat => (b : Int))[j]? = some (x : Int) by rw [List.getElem?_map, hx]; rfl)
          have ct := Row3.out.cell (i := x) (by omega)
          have hor := u16_or_nat _ _ hlt16 hxT
          have hnx : orT T (cs.take (j + 1)) R = orT T (cs.take j) R ||| T x := by rw [List.take_add_one, hx, Option.toList_some, orT_snoc]
          have Hnx := Lib.hid hnx
          have hji : (j : Int) < (cs.length : Int) := by omega
          have hx12 : (x : Int) < 12 := by omega
          obtain ⟨V, hV⟩ : ∃ V, orT T (cs.take j) R = V := ⟨_, rfl⟩
          rw [hV] at hor hlt16 ⊢
          rw [hV] at Hnx
          clear hx hnx hV
          go_wp2
          go_round
          case rel => exact ⟨j + 1, by omega, by go_num, by rw [Hnx.out]⟩
          case measure => simp [intOf]; omega
        · have hjl : j = cs.length := by omega
          subst hjl
          have hge : ¬ ((cs.length : Int) < (cs.length : Int)) := by omega
          rw [List.take_length] at hlt16 ⊢
          by_cases heq : orT T cs R = R
          · have e := Hres.out
            rw [distR_no (Hre.out.stop Hmem.out Hin.out (fun c x hc => by
              by_cases hx : x < 16
              · exact HT.out.bit c x (by have := Hin.out c hc; omega) hx
              · rw [Nat.testBit_lt_two_pow (Nat.lt_of_lt_of_le (HT.out.lt c (by have := Hin.out c hc; omega)) (Nat.pow_le_pow_right (n := 2) (i := 16) (by omega) (by omega)))]
                cases hh : t c x with
                | false => rfl
                | true => have := Ht.out c x hh; omega) heq Hbit.out)] at e
            simp only [Prod.mk.injEq] at e
            obtain ⟨rfl, rfl⟩ := e
            rw [heq]
            have hRR : ((R : Int) == (R : Int)) = true := by simp
            clear heq hlt16
            go_wp2
            go_ret2
            exact ⟨rfl, KX.out.trans (g3.mono (Nat.le_of_lt zX))⟩
          · have hst := Hre.out.step (T := T) Hmem.out Hin.out (fun c x hc => by
              by_cases hx : x < 16
              · exact HT.out.bit c x (by have := Hin.out c hc; omega) hx
              · rw [Nat.testBit_lt_two_pow (Nat.lt_of_lt_of_le (HT.out.lt c (by have := Hin.out c hc; omega)) (Nat.pow_le_pow_right (n := 2) (i := 16) (by omega) (by omega)))]
                cases hh : t c x with
                | false => rfl
                | true => have := Ht.out c x hh; omega) (fun c hc => HT.out.lt c (by have := Hin.out c hc; omega)) heq
            have hge2 := orT_ge T cs R
            obtain ⟨V, hV⟩ : ∃ V, orT T cs R = V := ⟨_, rfl⟩
            rw [hV] at hst heq hge2 hlt16 ⊢
            have hne : ((V : Int) == (R : Int)) = false := by simp only [beq_eq_false_iff_ne, ne_eq]; omega
            have Hst := Lib.hid hst
            have Hno2 := Lib.hid (show ∀ e, e < d + 1 → rch n t a e b = false from fun e he => by
              by_cases hed : e = d
              · rw [hed, ← Hre.out.bit]; exact Hbit.out
              · exact Hno.out e (by omega))
            clear hst hV
            go_wp2
            go_roundw
            case rel => exact ⟨d + 1, V, by go_num, rfl, Hst.out, Hno2.out, g3⟩
            case measure => simp [intOf]; omega
end Go.Proofs.YtmiecebdkadhbaaDoor
/-
  'impl.tablesApart', by its contract.
-/
namespace Go.Proofs.YtmiecebdkadhbaaDoor
open Go.RowKit

def tabTo (D : Nat → Int) (k : Nat) : Nat → Int := fun x => if x < k then D x else 0
theorem tabTo_next (D : Nat → Int) (k : Nat) : updI (tabTo D k) k (D k) = tabTo D (k + 1) := by
  funext x
  unfold updI tabTo
  by_cases h : x = k
  · subst h; rw [if_pos rfl, if_pos (by omega)]
  · rw [if_neg h]
    by_cases h2 : x < k
    · rw [if_pos h2, if_pos (by omega)]
    · rw [if_neg h2, if_neg (by omega)]
set_option maxHeartbeats 2000000 in
set_option maxRecDepth 100000 in
theorem tablesApart_any (n : Nat) (l : PL) (A : Option Addr) (c : Nat) (w : World) (hp : isP n l = true) (hA : CRead w w.heap.size A (pcells l)) (htab : TabW w) :
    Calls Tryd.prog 56 #[.agg #[.int .i64 n, .slice A l.length c]] w (GotIntsOk w (resTables n l).1 (resTables n l).2) := by
  have hr : CRead (w.alloc (Obj.cells #[.int .i64 n, .slice A l.length c] 31)) (w.alloc (Obj.cells #[.int .i64 n, .slice A l.length c] 31)).heap.size A (pcells l) := (hA.below (B' := w.heap.size) (by go_grown) (Nat.le_refl _)).more (by go_size)
  obtain ⟨i0, hi, hz0, hz1, hz2⟩ := info_parts Tryd.infoInt
  have hn := isP_range hp
  have hn12 : n ≤ 12 := by omega
  have hl66 : l.length ≤ 66 := by have h1 := isP_length hp; have h2 := people_sq hn.1 hn.2; omega
  have hpos := htab.pos
  have calf := friendsIn_any n l A c _ hp hr
  have calo := fun X hX => firstOnes_any n l A c X hp hX
  simp only [Int.toNat_natCast] at calo
  have hlab := fun c hc => lab_own (lab_in hp) c hc
  have hdist := fun (a b : Nat) (ha : a < n) (hb : b < n) (v : World) (hv : TabW v) => distance_any (friendsT_of hp) (n := n) hn12 ha hb (fun _ _ e => (adj_of hp e).2.1) v hv
  obtain ⟨⟨rv, rok⟩, hres⟩ : ∃ x, resTables n l = x := ⟨_, rfl⟩
  rw [hres]
  have HTab := Lib.hid htab
  have Hp := Lib.hid hp
  have Hres := Lib.hid hres
  have Hlab := Lib.hid hlab
  unfold tcells at hdist
  have Hdist := Lib.hid hdist
  have Calf := Lib.hid calf
  have Calo := Lib.hid calo
  have hfl : (firstI n l).length = n := firstI_length n l
  have hfat : ∀ a, a < n → (firstI n l)[a]? = some (lab n l a) := fun a ha => by
    unfold lab
    rw [List.getD_eq_getElem?_getD, List.getElem?_eq_getElem (by omega)]
    rfl
  have Hfat := Lib.hid hfat
  clear hp hres htab calf calo hlab hdist hfl hfat
  go_enter Tryd.func56, Tryd.ntmps56
  go_wp2_with fail
  refine Calf.out.mono ?_
  rintro e w2 ⟨rfl, _, hb2⟩
  have s2 := hb2.size
  have k2 : Below w.heap.size w w2 := Below.trans (b := _) (by go_grown) (hb2.mono (by simp))
  have c0 : w2.cell? ⟨w.heap.size, 0, none⟩ = some (.int .i64 n) := carry hb2 (by simp) (by simp)
  have c1 : w2.cell? ⟨w.heap.size, 1, none⟩ = some (.slice A l.length c) := carry hb2 (by simp) (by simp)
  simp only [World.size_alloc] at s2
  obtain ⟨X, hX⟩ : ∃ X, w2.alloc (Obj.cells (tcells (friendsT l)) 83) = X := ⟨_, rfl⟩
  have row0 : X.rowIs w2.heap.size 83 12 (fun j => .int .u16 (friendsT l j)) := by rw [← hX]; exact rowIs_u16 w2 _ _
  have zX : w2.heap.size < X.heap.size := by rw [← hX]; simp
  have kX : Below w2.heap.size w2 X := by rw [← hX]; go_grown
  unfold tcells at hX ⊢
  have HX := Lib.hid hX
  have Row := Lib.hid row0
  have KX := Lib.hid (k2.trans (kX.mono k2.size))
  have n0 := carry kX c0 (by show w.heap.size < w2.heap.size; omega)
  have n1 := carry kX c1 (by show w.heap.size < w2.heap.size; omega)
  have N0 := n0
  have N1 := n1
  rw [← hX] at N0 N1
  clear hX row0 kX hb2 k2 Calf
  go_wp2_with (at_make; rw [HX.out]; refine wpList_make_full _ rfl _ _ 26 rfl X.heap.size 3 i0 _ 1 Tryd.underlying26 hi hz0 hz1 _ _ _ _ n rfl rfl (by omega) (by omega) (by rw [hz2]; omega) (by unfold maxLen; omega) (Nat.le_refl _) ?_; intro w4 hown4 hgr4; have hb4 := below_of_gb hgr4 (Nat.le_refl _); have e0 := carry hb4 n0 (by omega); have e1 := carry hb4 n1 (by omega))
  rw [show Value.cells (.int .i64 0) = #[.int .i64 0] from rfl, made_ints] at hown4
  have hs0 : icells (List.replicate n 0) = icells ((List.range n).map (tabTo (tabD n l) 0)) := by
    congr 1
    symm
    rw [List.eq_replicate_iff]
    exact ⟨by simp, fun x hx => by obtain ⟨y, _, rfl⟩ := List.mem_map.1 hx; unfold tabTo; rw [if_neg (by omega)]⟩
  rw [hs0] at hown4
  obtain ⟨gt, hgt⟩ : ∃ gt, X.heap.size = gt := ⟨_, rfl⟩
  rw [hgt] at hown4 hb4 zX
  have kw4 : Below w.heap.size w w4 := KX.out.trans (hb4.mono (by have := KX.out.size; omega))
  have s4 : gt < w4.heap.size := (own_lt hown4).2
  rw [hgt]
  have Own4 := Lib.hid hown4
  have HB4 := Lib.hid hb4
  have KW4 := Lib.hid kw4
  clear hown4 hgr4 hb4 kw4 hs0 N0 N1
  go_wp2_with fail
  refine (Calo.out w4 ((hA.below KW4.out (Nat.le_refl _)).more KW4.out.size)).mono ?_
  rintro e w5 ⟨g5, rfl, own5, hb5⟩
  obtain ⟨B4, hB4⟩ : ∃ B4, w4.heap.size = B4 := ⟨_, rfl⟩
  rw [hB4] at own5 hb5 s4
  have tab5 := own_below Own4.out hb5 (by omega)
  have s5 : B4 ≤ w5.heap.size := by have := hb5.size; omega
  have kx5 : Below gt X w5 := HB4.out.trans (hb5.mono (by omega))
  have Own5 := Lib.hid own5
  have Tab5 := Lib.hid tab5
  have KX5 := Lib.hid kx5
  clear own5 tab5 kx5 hb5 e0 e1 Own4 hB4
  go_wp2
  go_loopw [20] (fun kv wr => ∃ k : Nat, k ≤ n ∧ kv = .int .i64 k ∧ wr.ownsRow gt 3 1 (.slice (some ⟨gt, 0, none⟩) n n) n (icells ((List.range n).map (tabTo (tabD n l) k))) ∧ wr.ownsRow B4 3 1 (.slice (some ⟨g5, 0, none⟩) n n) n (icells (firstI n l)) ∧ B4 ≤ wr.heap.size ∧ Below gt X wr) (fun kv _ => n - (intOf kv).toNat)
  case atStart => exact ⟨0, Nat.zero_le _, rfl, Tab5.out, Own5.out, s5, KX5.out⟩
  case round =>
    obtain ⟨k, hk, rfl, tab, own, hsz, hb⟩ := hrel
    have m0 := carry hb n0 (by omega)
    have m1 := carry hb n1 (by omega)
    have kw : Below w.heap.size w wr := KX.out.trans (hb.mono (by have := KX.out.size; omega))
    by_cases hlt : k < n
    · have hki : (k : Int) < (n : Int) := by omega
      have hl1 := Hlab.out k hlt
      obtain ⟨r, hr⟩ : ∃ r : Nat, lab n l k = r := ⟨(lab n l k).toNat, by omega⟩
      have cf := own_intAt own (Hfat.out k hlt)
      rw [hr] at cf
      have hrow : wr.rowIs w2.heap.size 83 12 (fun j => .int .u16 (friendsT l j)) := by obtain ⟨cc, h1, h2⟩ := Row.out; exact ⟨cc, (hb.block _ (by omega)).trans h1, h2⟩
      have T0 := hrow.cell (i := 0) (by omega)
      have T1 := hrow.cell (i := 1) (by omega)
      have T2 := hrow.cell (i := 2) (by omega)
      have T3 := hrow.cell (i := 3) (by omega)
      have T4 := hrow.cell (i := 4) (by omega)
      have T5 := hrow.cell (i := 5) (by omega)
      have T6 := hrow.cell (i := 6) (by omega)
      have T7 := hrow.cell (i := 7) (by omega)
      have T8 := hrow.cell (i := 8) (by omega)
      have T9 := hrow.cell (i := 9) (by omega)
      have T10 := hrow.cell (i := 10) (by omega)
      have T11 := hrow.cell (i := 11) (by omega)
      have call := Hdist.out r k (by omega) hlt wr (HTab.out.below kw hpos)
      have hval : Int.tmod (distR (distO n (adj l) r k)).1 2 = tabD n l k := by
        unfold tabD firstN distR
        rw [hr, Int.toNat_natCast]
        split <;> rfl
      obtain ⟨⟨dv, dk⟩, hdv⟩ : ∃ x, distR (distO n (adj l) r k) = x := ⟨_, rfl⟩
      rw [hdv] at call hval
      simp only at call hval
      have two := tabD_two n l k
      have Call := Lib.hid call
      have Hval := Lib.hid hval
      have Tab := Lib.hid tab
      have Own := Lib.hid own
      have Hb := Lib.hid hb
      clear call hval hrow hr hdv tab own hb
      go_wp2_with fail
      refine Call.out.mono ?_
      rintro e w6 ⟨rfl, hb6⟩
      have s6 := hb6.size
      have tab6 := own_below Tab.out hb6 (Nat.le_refl _)
      have own6 := own_below Own.out hb6 (Nat.le_refl _)
      obtain ⟨z, hz⟩ := getSome ((List.range n).map (tabTo (tabD n l) k)) k (by simp; omega)
      have ck := own_intAt tab6 hz
      have fk := tab6.frozenAt k
      have tab7 := own_setInt tab6 k (tabD n l k)
      rw [range_set, tabTo_next] at tab7
      have own7 := ownsRow_setCell_below own6 (a := ⟨gt, k, none⟩) (by show gt < B4; omega) (.int .i64 (tabD n l k))
      have hb7 : Below gt X (w6.setCell ⟨gt, k, none⟩ (.int .i64 (tabD n l k))) := (Hb.out.trans (hb6.mono (by omega))).setCell (p := ⟨gt, k, none⟩) (Nat.le_refl _) _
      obtain ⟨tv, htv⟩ : ∃ tv, tabD n l k = tv := ⟨_, rfl⟩
      rw [htv] at tab7 own7 hb7 two
      have hv := Hval.out
      rw [htv] at hv
      have Tab7 := Lib.hid tab7
      have Own7 := Lib.hid own7
      have Hb7 := Lib.hid hb7
      clear tab6 own6 tab7 own7 hb7 hz htv T0 T1 T2 T3 T4 T5 T6 T7 T8 T9 T10 T11 hb6 cf Hval
      go_wp2
      go_roundw
      case rel => exact ⟨k + 1, by omega, by go_num, Tab7.out, Own7.out, by simp; omega, Hb7.out⟩
      case measure => simp [intOf]; omega
    · have e : n = k := by omega
      subst e
      have hge : ¬ ((n : Int) < (n : Int)) := by omega
      have hall : (List.range n).map (tabTo (tabD n l) n) = tabsP n l := List.map_congr_left fun x hx => by unfold tabTo; rw [if_pos (List.mem_range.1 hx)]
      rw [hall] at tab
      have hql : (tabsP n l).length = n := by simp [tabsP]
      have hcol : isColI n (tabsP n l) = true := by
        unfold isColI l1AllB
        rw [hql, decide_eq_true rfl, Bool.true_and, List.all_eq_true]
        intro x hx
        obtain ⟨y, _, rfl⟩ := List.mem_map.1 hx
        have := tabD_two n l y
        simp
        omega
      have hri : resIsColouring n l (tabsP n l) = (differI l (tabsP n l), true) := by unfold resIsColouring; rw [Hp.out, hcol]; rfl
      have hres := Hres.out
      obtain ⟨q, hq⟩ : ∃ q, tabsP n l = q := ⟨_, rfl⟩
      unfold resTables at hres
      rw [hq] at tab hql hri hres
      have call := implIsColouring_any n l A c q (some ⟨gt, 0, none⟩) n wr (by omega) ((hA.below kw (Nat.le_refl _)).more kw.size) (by omega) (CRead.of_own tab)
      rw [hql, hri] at call
      have Tab := Lib.hid tab
      have Hql := Lib.hid hql
      clear tab hall hq hcol hri own
      cases hd : differI l q with
      | true =>
        rw [hd] at call hres
        rw [if_pos rfl] at hres
        simp only [Prod.mk.injEq] at hres
        obtain ⟨rfl, rfl⟩ := hres
        have Call := Lib.hid call
        clear call hd hql
        go_wp2_with fail
        refine Call.out.mono ?_
        rintro e w8 ⟨rfl, hb8⟩
        have own8 := Lib.hid (own_below Tab.out hb8 (Nat.le_refl _))
        go_wp2
        go_ret2
        exact ⟨some ⟨gt, 0, none⟩, n, by rw [Hql.out]; rfl, by rw [Hql.out]; exact own_lower own8.out (by omega), kw.trans (hb8.mono kw.size)⟩
      | false =>
        rw [hd] at call hres
        rw [if_neg (by decide)] at hres
        simp only [Prod.mk.injEq] at hres
        obtain ⟨rfl, rfl⟩ := hres
        have Call := Lib.hid call
        clear call hd hql
        go_wp2_with fail
        refine Call.out.mono ?_
        rintro e w8 ⟨rfl, hb8⟩
        go_wp2
        go_ret2
        exact ⟨none, 0, rfl, World.ownsRow_nil _ _ _ _, kw.trans (hb8.mono kw.size)⟩
end Go.Proofs.YtmiecebdkadhbaaDoor
