/-
  For every input that can be read, 'laws.FnExactParsePainting' returns true, and its arguments read afterwards as they read before. Conditions: none.
-/
import Derived.Test.YthpapkfpcijpoaaDoorParsePaintingP4
import Derived.Stop.LaidErr
import Derived.Lib.TrailingZeros
import Derived.Shelf.Vars
namespace Go.Proofs.YthpapkfpcijpoaaDoor
open Go.ChangeShapes Go.WideShapes Go.ChangeAt Go.RowKit

/-! ## The condition of the row: three tables and two errors of the library lie in their variables -/
theorem Tryd.gES : Tryd.prog.globalNamed "strconv.ErrSyntax" = some 2 := by kernel_rfl
theorem Tryd.gESType : (Tryd.prog.globals[2]?).map (·.type) = some 115 := by kernel_rfl
theorem Tryd.gER : Tryd.prog.globalNamed "strconv.ErrRange" = some 3 := by kernel_rfl
theorem Tryd.gERType : (Tryd.prog.globals[3]?).map (·.type) = some 115 := by kernel_rfl
theorem Tryd.cellsES : Tryd.prog.cellsOf 168 = 1 := by kernel_rfl
theorem Tryd.cellsStr : Tryd.prog.cellsOf 9 = 1 := by kernel_rfl
theorem star_errorString : "*" ++ "errors.errorString" = "*errors.errorString" := by decide
theorem Tryd.rowES (u : TypeId) (h : Tryd.prog.typeName? 3 u = some "*errors.errorString") : u = 166 :=
  typeName_ptr_named (nm := "errors.errorString") (by rw [star_errorString]; kernel_rfl) (by kernel_rfl) (by decide) u (by rw [star_errorString]; exact h)
theorem Tryd.maxLenSome (W : World) (h : W.ShapedOpen Tryd.prog) : ∃ m : Int, W.cell? ⟨1, 0, none⟩ = some (.int .i64 m) :=
  cell_of_shapedOpen_int (g := 1) (t := 3) (zero := #[.int .i64 0]) h (of_decide_eq_true (by kernel_rfl)) (by kernel_rfl) rfl (by kernel_rfl) (by kernel_rfl) Tryd.underlying3
theorem Tryd.fiveLt (W : World) (h : W.ShapedOpen Tryd.prog) : 5 < W.heap.size := by
  obtain ⟨cs, hh, _⟩ := h.1 5 (Array.replicate 64 (.int .u8 0)) 170 (of_decide_eq_true (by kernel_rfl)) (by kernel_rfl)
  exact lt_of_heap hh
theorem lib_of_laid {W : World} (h : laidMetH Tryd.prog Rows.fnExactParsePaintingRow.laid W) (hsh : W.ShapedOpen Tryd.prog) : LibW W := by
  have h' : laidMet Tryd.prog (("math/bits.deBruijn32tab", Rows.laid_math_bits_deBruijn32tab) :: ("math/bits.deBruijn64tab", Rows.laid_math_bits_deBruijn64tab) :: ("internal/strconv.uint64pow10", Rows.laid_internal_strconv_uint64pow10) :: ("strconv.ErrRange", Rows.laid_strconv_ErrRange) :: ("strconv.ErrSyntax", Rows.laid_strconv_ErrSyntax) :: []) W := h
  obtain ⟨a0, s0, hv0, -, -, -⟩ := laid_sentinel h'.tail.tail.tail Tryd.gER Tryd.gERType Tryd.underlying115 Tryd.rowES Tryd.underlying166 Tryd.underlying168 rfl rfl Tryd.underlying9 Tryd.cellsES Tryd.cellsStr
  obtain ⟨a1, s1, hv1, -, -, -⟩ := laid_sentinel h'.tail.tail.tail.tail Tryd.gES Tryd.gESType Tryd.underlying115 Tryd.rowES Tryd.underlying166 Tryd.underlying168 rfl rfl Tryd.underlying9 Tryd.cellsES Tryd.cellsStr
  have c0 := World.var?_cell Tryd.gER hv0 0
  have c1 := World.var?_cell Tryd.gES hv1 0
  exact ⟨Tryd.maxLenSome W hsh, ⟨_, show W.cell? ⟨2, 0, none⟩ = _ from (by simpa using c1), .inr ⟨_, _, rfl⟩⟩, ⟨_, show W.cell? ⟨3, 0, none⟩ = _ from (by simpa using c0), .inr ⟨_, _, rfl⟩⟩, Tryd.fiveLt W hsh⟩
abbrev synS : ByteArray := { data := #[105, 110, 118, 97, 108, 105, 100, 32, 115, 121, 110, 116, 97, 120] }
abbrev rngS : ByteArray := { data := #[118, 97, 108, 117, 101, 32, 111, 117, 116, 32, 111, 102, 32, 114, 97, 110, 103, 101] }
def tab64P : List Int := Lib.deBruijn64tab.map fun n : Nat => (n : Int)
def powP : List Int := (List.range 20).map fun n : Nat => (10 : Int) ^ n
/-- So many blocks has the settled world. -/
noncomputable def lowP : Nat := (World.holding Tryd.prog default ⟨#[], #[], []⟩).heap.size
/-- A world that meets the condition. -/
noncomputable def laidWorldP (os : Os) : World :=
  let w0 := World.holding Tryd.prog os ⟨#[.cells #[.string rngS] 168, .cells #[.string synS] 168], #[], []⟩
  { w0 with heap := ((((w0.heap.modify 0 fun
      | .cells _ t frozen => .cells (tabInts.map fun z => Value.int .u8 z).toArray t frozen
      | o => o).modify 5 fun
      | .cells _ t frozen => .cells (tab64P.map fun z => Value.int .u8 z).toArray t frozen
      | o => o).modify 4 fun
      | .cells _ t frozen => .cells (powP.map fun z => Value.int .u64 z).toArray t frozen
      | o => o).modify 3 fun
      | .cells _ t frozen => .cells #[.iface 166 (.pointer (some ⟨lowP, 0, none⟩))] t frozen
      | o => o).modify 2 fun
      | .cells _ t frozen => .cells #[.iface 166 (.pointer (some ⟨lowP + 1, 0, none⟩))] t frozen
      | o => o }
theorem laidWorldP_met (os : Os) (args : Array Value) : laidMetH Tryd.prog Rows.fnExactParsePaintingRow.laid ((laidWorldP os).forCall (fun _ _ => 0) ⟨#[], args, []⟩).memory :=
  laidMetH_of_parts (laidMet_of_run (ps := MemPlace.row ⟨0, 0, none⟩ 32 ++ MemPlace.row ⟨5, 0, none⟩ 64 ++ MemPlace.row ⟨4, 0, none⟩ 20 ++ [.cell 3 0, .cell lowP 0, .cell 2 0, .cell (lowP + 1) 0]) 8 (by kernel_rfl) (by kernel_rfl) (by kernel_rfl)) (by kernel_rfl)
/-- The wrap of a row that lists variables, the world's shape kept. -/
theorem returns_and_shaped {H : Type} {enc : TypeId × Value → H} {a : Assume} {C : Checked} {os : Os} {f : FuncId} {fn : Func} {s : ChangeSpec} {conds : List PathCond} {apart fresh handsOn again : Bool} {X : World → Array Value → Prop}
    (hX : ∀ (w w' : World) (args : Array Value), w.heap = w'.heap → X w args → X w' args)
    (own : ownKnob C.prog.godebug = none) (started : os.Started) (noInit : C.prog.inits.idxOf? f = none) (hfn : C.prog.funcs[f]? = some fn)
    (witness : ∃ (w : World) (tape : Tape) (i : Input), w.os = os ∧ (w.forCall tape i).Shaped C.prog ∧ i.vars = [] ∧ Input.okWide C.prog (w.forCall tape i) .any w.heap.size f i ∧
      ((s.pre enc C.prog fn conds apart (w.forCall tape i).memory i.args ∧ X (w.forCall tape i).memory i.args) ∧ sizedMet enc C.prog fn (OpenSpec.ofChange s) apart (w.forCall tape i).memory i.args) ∧ a.holds C.prog (lone (Frame.enter C.prog f i.args .normal) [] (w.forCall tape i)))
    (contract : ∀ (W : World) (base : Nat) (args : Array Value) (ds gs : List (DataW H)) (before : List MemPlace),
      (∀ (j : Nat) t v, fn.params[j]? = some t → args[j]? = some v → Value.okWide C.prog W .any base t v) →
      DataW.Whole enc C.prog fn.params.toList s.vars apart W args.toList ds gs before →
      X W args → W.ShapedOpen C.prog →
      Calls C.prog f args W fun e W' => ∃ v, e = .returned v ∧ s.post enc C.prog fn apart fresh handsOn again W args v W') :
    ReturnsInHanded a C os f .any (fun w args => (s.pre enc C.prog fn conds apart w args ∧ X w args) ∧ sizedMet enc C.prog fn (OpenSpec.ofChange s) apart w args) (s.post enc C.prog fn apart fresh handsOn again) := by
  refine returnsInHanded_of_calls own started noInit witness ?_
  intro w tape i _ hsh _ hok hpre hholds
  obtain ⟨_, _, _, fn', hfn', _, _, _, _, hval⟩ := hok
  have e : fn' = fn := Option.some.inj (hfn'.symm.trans hfn)
  subst e
  obtain ⟨⟨⟨ds, gs, before, hw, _⟩, hx⟩, _⟩ := hpre
  have hw' := DataW.Whole.of_heap (w' := w.forCall tape i) (by rfl) hw
  refine (contract (w.forCall tape i) w.heap.size i.args ds gs before hval hw' (hX _ _ _ (by rfl) hx) hsh).mono fun e W' ⟨v, he, hp⟩ => ?_
  subst he
  exact ChangeSpec.post_blind hp

set_option maxRecDepth 100000 in
theorem lawParsePainting_lifted (os : Os) (started : os.Started) (H : Type) (enc : TypeId × Value → H) :
    ReturnsInHanded {} Tryd.checked os 9 .any (fun w args => ((Rows.fnExactParsePaintingSpec).pre enc Tryd.prog Tryd.f9 Rows.fnExactParsePaintingRow.domain false w args ∧ laidMetH Tryd.prog Rows.fnExactParsePaintingRow.laid w) ∧ sizedMet enc Tryd.prog Tryd.f9 (OpenSpec.ofChange Rows.fnExactParsePaintingSpec) false w args) (Rows.fnExactParsePaintingSpec.post enc Tryd.prog Tryd.f9 false true false false) := by
  refine returns_and_shaped (C := Tryd.checked) (X := fun w _ => laidMetH Tryd.prog Rows.fnExactParsePaintingRow.laid w) (fun _ _ _ hh h => h.of_heap hh) Tryd.own started (by kernel_rfl) Tryd.func9
    (ChangeSpec.witness_at (enc := enc) (C := Tryd.checked) (os := os) (X := fun w _ => laidMetH Tryd.prog Rows.fnExactParsePaintingRow.laid w) false (laidWorldP os) #[.string ⟨#[]⟩] 8 rfl (by kernel_rfl) (by kernel_rfl) (by kernel_rfl) (by kernel_rfl) (by kernel_rfl) (laidWorldP_met os _)) ?_
  intro W base args ds gs before hval0 hW hL hsh
  have hval : ∀ (j : Nat) t v, Tryd.f9.params[j]? = some t → args[j]? = some v → Value.okWide Tryd.prog W .any base t v := hval0
  have hW' := hW
  obtain ⟨p, q, hA0, hV, rfl, _, _⟩ := hW
  have hA : DataW.TrodAll enc Tryd.prog W 0 (fun _ => true) true Tryd.f9.params.toList args.toList ds p := hA0
  rw [Tryd.params9] at hA hval
  obtain ⟨v0, d0, rfl, rfl, h0⟩ := trodAll_one hA
  obtain ⟨rfl, rfl⟩ := trodVars_none hV
  obtain ⟨z0, rfl, rfl, rfl, _⟩ := Go.ChangeMaps.open_string Tryd.underlying9 (hval 0 _ v0 rfl rfl) h0
  refine (lawParsePainting_any z0 W (lib_of_laid hL hsh)).mono fun e W' ⟨he, hb⟩ => ?_
  subst he
  exact ⟨_, rfl, law_post Tryd.laidOut (by kernel_rfl) (by kernel_rfl) Tryd.underlying4 rfl rfl hW' hb⟩

theorem lawParsePainting_types : typeFacts Tryd.prog Tryd.f9 Rows.fnExactParsePaintingSpec Rows.fnExactParsePaintingRow = true := by kernel_rfl
theorem lawParsePainting_wf : Rows.fnExactParsePaintingRow.wf (OpenSpec.ofChange Rows.fnExactParsePaintingSpec) = true := by kernel_rfl
theorem lawParsePainting_inPlace : (Rows.fnExactParsePaintingRow.inPlace == Tryd.prog.inPlace 9) = true := by kernel_rfl
theorem lawParsePainting_unfollowed : (Rows.fnExactParsePaintingRow.unfollowed == Tryd.prog.unfollowed 9) = true := by kernel_rfl
theorem lawParsePainting_recurses : (Rows.fnExactParsePaintingRow.recurses == Tryd.prog.recurses 9) = true := by kernel_rfl
theorem lawParsePainting_named : (Rows.fnExactParsePaintingRow.named == Tryd.prog.varsNamed 9) = true := by kernel_rfl
theorem lawParsePainting_name : Tryd.prog.funcNamed Rows.fnExactParsePaintingRow.func = some 9 := by kernel_rfl
theorem lawParsePainting_wrap : (Tryd.f9).isWrapper Tryd.prog Rows.fnExactParsePaintingRow.wrapper Rows.fnExactParsePaintingRow.mainSum := by
  unfold Func.isWrapper
  first | (rw [if_pos (by decide +kernel)]; kernel_rfl) | (rw [if_neg (by decide +kernel)]; exact ⟨rfl, rfl⟩)
theorem lawParsePainting_joined : joinedFacts Tryd.prog 9 Tryd.f9 Rows.fnExactParsePaintingSpec Rows.fnExactParsePaintingRow = true :=
  joined_of lawParsePainting_wf lawParsePainting_types lawParsePainting_inPlace lawParsePainting_unfollowed lawParsePainting_recurses lawParsePainting_named rfl rfl rfl

theorem rowParsePainting_holds : Rows.FnExactParsePaintingSaid :=
  OpenClaim.holds_of_wide 9 Tryd.f9 rfl rfl rfl rfl rfl rfl rfl ⟨rfl, rfl, rfl, rfl, rfl⟩ rfl rfl rfl rfl rfl lawParsePainting_name Tryd.func9 lawParsePainting_joined
    (of_decide_eq_true (by kernel_rfl)) lawParsePainting_wrap
    (fun os started H enc _ => lawParsePainting_lifted os started H enc)
/-- The tied card. -/
theorem exactParsePainting_holds : Rows.FnExactParsePaintingCardSaid :=
  Claim7.holds_tied_plain_at .later [] [.data, .data, .data, .sentinel, .sentinel] true (true, _) true
    rowParsePainting_holds (fun _ h => by cases h) (by kernel_rfl) (fun _ h => by cases h) fnExactParsePainting_row_tie rfl ⟨rfl, rfl⟩ (by kernel_rfl) (by kernel_rfl)
    (fun f fn hf hfn => by
      obtain rfl : f = 9 := Option.some.inj (lawParsePainting_name.symm.trans hf) |>.symm
      obtain rfl : fn = Tryd.f9 := (Option.some.inj (Tryd.func9.symm.trans hfn)).symm
      exact ⟨by kernel_rfl, fun j t ht => by
        have hall : (Tryd.f9.params.toList.all fun t => Tryd.prog.wantsStandIn t == false) = true := by kernel_rfl
        have hm : t ∈ Tryd.f9.params.toList := by rw [← Array.getElem?_toList] at ht; exact List.mem_of_getElem? ht
        exact (show Tryd.prog.wantsStandIn t = false by simpa using List.all_eq_true.1 hall t hm)⟩)
    (by kernel_rfl)
end Go.Proofs.YthpapkfpcijpoaaDoor
