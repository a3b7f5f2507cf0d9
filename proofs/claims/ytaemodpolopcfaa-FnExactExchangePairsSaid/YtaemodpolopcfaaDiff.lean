/-
  'impl.areDifferent', by its contract.
-/
import Derived.Test.YtaemodpolopcfaaExchP
import Derived.Test.YtaemodpolopcfaaContI
namespace Go.Proofs.Ytaemodpolopcfaa
open Go.RowKit

/-- people of p, each one another -/
def diffI (p : Int) (q : List Int) : Bool := q.all (fun x => decide (0 ≤ x ∧ x < p)) && decide q.Nodup
theorem diffI_bad {p : Int} {q : List Int} {k : Nat} {x : Int} (hx : q[k]? = some x) (h : ¬ (0 ≤ x ∧ x < p)) : diffI p q = false := by
  cases he : diffI p q with
  | false => rfl
  | true =>
    simp only [diffI, Bool.and_eq_true, decide_eq_true_eq, List.all_eq_true] at he
    exact absurd (he.1 x (List.mem_of_getElem? hx)) h
theorem diffI_dup {p : Int} {q : List Int} {k : Nat} {x : Int} (hx : q[k]? = some x) (h : x ∈ q.take k) : diffI p q = false := by
  cases he : diffI p q with
  | false => rfl
  | true =>
    simp only [diffI, Bool.and_eq_true, decide_eq_true_eq] at he
    have hn := he.2
    rw [List.Nodup, List.pairwise_iff_getElem] at hn
    obtain ⟨i, hi, e⟩ := List.getElem_of_mem h
    rw [List.length_take] at hi
    rw [List.getElem_take] at e
    have hk : k < q.length := (List.getElem?_eq_some_iff.1 hx).1
    rw [List.getElem?_eq_getElem hk] at hx
    simp only [Option.some.injEq] at hx
    exact absurd (e.trans hx.symm) (hn i k (by omega) hk (by omega))
theorem diffI_of {p : Int} {q : List Int} (h : ∀ (k : Nat) (x : Int), k < q.length → q[k]? = some x → (0 ≤ x ∧ x < p) ∧ x ∉ q.take k) : diffI p q = true := by
  simp only [diffI, Bool.and_eq_true, decide_eq_true_eq, List.all_eq_true]
  constructor
  · intro x hx
    obtain ⟨i, hi, e⟩ := List.getElem_of_mem hx
    exact (h i x hi (by rw [List.getElem?_eq_getElem hi, e])).1
  · rw [List.Nodup, List.pairwise_iff_getElem]
    intro i j hi hj hij e
    refine (h j q[j] hj (List.getElem?_eq_getElem hj)).2 ?_
    rw [List.mem_take_iff_getElem]
    exact ⟨i, by omega, e⟩
theorem diff_four (p a b c d : Int) : diffI p [a, b, c, d] = fourI p a b c d := by
  unfold diffI fourI
  rw [Bool.eq_iff_iff]
  simp only [Bool.and_eq_true, decide_eq_true_eq, List.all_eq_true, List.nodup_cons, List.mem_cons, List.not_mem_nil, or_false, not_or, not_false_eq_true, List.nodup_nil, and_true, forall_eq_or_imp, forall_eq]
  constructor
  · rintro ⟨⟨h1, h2, h3, h4⟩, ⟨e1, e2, e3⟩, ⟨e4, e5⟩, e6⟩
    exact ⟨h1, h2, h3, h4, e1, e2, e3, e4, e5, e6⟩
  · rintro ⟨h1, h2, h3, h4, e1, e2, e3, e4, e5, e6⟩
    exact ⟨⟨h1, h2, h3, h4⟩, ⟨e1, e2, e3⟩, ⟨e4, e5⟩, e6⟩

set_option maxHeartbeats 2000000 in
set_option maxRecDepth 100000 in
theorem areDifferent_any (p : Int) (q : List Int) (A B : Option Addr) (n c d : Nat) (w : World) (hq : q.length ≤ 1048576) (hd : q.length ≤ d) (hB : CRead w w.heap.size B (icells q)) :
    Calls Try.prog 61 #[.agg #[.int .i64 p, .slice A n c], .slice B q.length d] w fun e w' => e = .returned (.bool (diffI p q)) ∧ Below w.heap.size w w' := by
  go_enter Try.func61, Try.ntmps61
  go_wp2
  go_loopw [9] (fun i wr => ∃ k : Nat, k ≤ q.length ∧ i = .int .i64 k ∧ (∀ (j : Nat) (x : Int), j < k → q[j]? = some x → (0 ≤ x ∧ x < p) ∧ x ∉ q.take j) ∧ Below (w.heap.size + 1) (w.alloc (Obj.cells #[.int .i64 p, .slice A n c] 29)) wr) (fun i _ => q.length - (intOf i).toNat)
  case atStart => exact ⟨0, Nat.zero_le _, rfl, fun j x hj => by omega, by simpa using Below.refl _ _⟩
  case round =>
    obtain ⟨k, hk, rfl, hg, hb⟩ := hrel
    have Hg := Lib.hid hg
    have hs := hb.size
    simp only [World.size_alloc] at hs
    have hbw : Below w.heap.size w wr := Below.trans (b := _) (by go_grown) (hb.mono (by omega))
    have u0 : wr.cell? ⟨w.heap.size, 0, none⟩ = some (.int .i64 p) := carry hb (by simp) (by omega)
    have u1 : wr.cell? ⟨w.heap.size, 1, none⟩ = some (.slice A n c) := carry hb (by simp) (by omega)
    clear hg
    by_cases hlt : k < q.length
    · obtain ⟨x, hx⟩ := getSome q k hlt
      have RB := (hB.below hbw (Nat.le_refl _)).more hbw.size
      obtain ⟨b, off, rfl, hbb, v0⟩ := RB.int hx
      have hki : (k : Int) < (q.length : Int) := by omega
      have hkd : (k : Int) ≤ (d : Int) := by omega
      have hkd2 : k ≤ d := by omega
      have RBf := RB.front k
      have hlk : (q.take k).length = k := by rw [List.length_take]; omega
      have Hx := Lib.hid hx
      clear hx
      by_cases hman : 0 ≤ x ∧ x < p
      · have Hm := Lib.hid (isMan_yes hman)
        have Hman := Lib.hid hman
        clear hman
        go_wp2_with fail
        refine (isPerson_any p x A n c _).mono ?_
        rw [Hm.out]
        rintro e w2 ⟨rfl, hb2⟩
        have h := containsI_any (q.take k) x (some ⟨b, off, none⟩) d w2 (by omega) ((RBf.below hb2 (Nat.le_refl _)).more hb2.size)
        rw [hlk] at h
        go_wp2_with fail
        refine h.mono ?_
        rintro e w3 ⟨rfl, rfl⟩
        clear h
        cases hh : hasI (q.take k) x with
        | true =>
          have He := Lib.hid (diffI_dup (p := p) Hx.out (hasI_mem.1 hh))
          clear hh
          go_wp2
          go_ret
          exact ⟨by rw [He.out]; rfl, hbw.trans (hb2.mono (by omega))⟩
        | false =>
          have hnm : x ∉ q.take k := fun hm => by rw [hasI_mem.2 hm] at hh; cases hh
          clear hh
          go_wp2
          go_roundw
          case rel =>
            refine ⟨k + 1, by omega, by go_num, fun j z hj hz => ?_, hb.trans (hb2.mono (by omega))⟩
            by_cases hjk : j = k
            · subst hjk
              rw [Hx.out] at hz
              simp only [Option.some.injEq] at hz
              subst hz
              exact ⟨Hman.out, hnm⟩
            · exact Hg.out j z (by omega) hz
          case measure => simp [intOf]; omega
      · have Hm := Lib.hid (isMan_no hman)
        have He := Lib.hid (diffI_bad (p := p) Hx.out hman)
        clear hman
        go_wp2_with fail
        refine (isPerson_any p x A n c _).mono ?_
        rw [Hm.out]
        rintro e w2 ⟨rfl, hb2⟩
        go_wp2
        go_ret
        exact ⟨by rw [He.out]; rfl, hbw.trans (hb2.mono (by omega))⟩
    · have hkl : k = q.length := by omega
      have hge : ¬ ((k : Int) < (q.length : Int)) := by omega
      have He := Lib.hid (diffI_of (p := p) (q := q) fun j x hj hx => Hg.out j x (by omega) hx)
      go_wp2
      go_ret
      exact ⟨by rw [He.out]; rfl, hbw⟩
end Go.Proofs.Ytaemodpolopcfaa
