/-
  math/bits.TrailingZeros16 by its contract, where the library's table lies as its initialiser lays it.
-/
import Derived.Test.YtgccapdjhnejcaaDoorTiedP
import Derived.Test.YtgccapdjhnejcaaDoorHelp
namespace Go.Proofs.YtgccapdjhnejcaaDoor
open Go.RowKit

/-- The table in its variable (block 0). -/
def TabW (w : World) : Prop := ∀ j, j < 32 → w.cell? ⟨0, j, none⟩ = some (.int .u8 (Lib.deBruijn32tab.getD j 0))
theorem TabW.below {B : Nat} {w w' : World} (h : TabW w) (hb : Below B w w') (hB : 0 < B) : TabW w' := fun j hj => (hb.cell (p := ⟨0, j, none⟩) hB).trans (h j hj)
theorem TabW.pos {w : World} (h : TabW w) : 0 < w.heap.size := World.block_lt_of_cell? w _ (h 0 (by omega))

theorem tz16_key (x a : Nat) (hx : x < 65536) (hx0 : x ≠ 0) (hlow : x &&& (65536 - x) = 2 ^ a) (ha : a < 16) :
    bits BinOp.and IntKind.u16 (x : Int) (IntKind.u16.wrap (-(x : Int))) % 4294967296 * 125613361 % 4294967296 / 134217728 = ((2 ^ a * 125613361 % 4294967296 / 134217728 : Nat) : Int) := by
  have e1 : IntKind.u16.wrap (-(x : Int)) = ((65536 - x : Nat) : Int) := by rw [IntKind.wrap_u16]; omega
  have h2 : 2 ^ a < 2 ^ 16 := Nat.pow_lt_pow_right (by omega) ha
  rw [show (2 : Nat) ^ 16 = 65536 from rfl] at h2
  rw [e1, u16_and_nat x _ hx (by omega), hlow]
  omega

set_option maxHeartbeats 1000000 in
theorem tz16_core (x k idx : Nat) (w : World) (hx0 : ((x : Int) == 0) = false)
    (key : bits BinOp.and IntKind.u16 (x : Int) (IntKind.u16.wrap (-(x : Int))) % 4294967296 * 125613361 % 4294967296 / 134217728 = (idx : Int))
    (hi : idx < 32) (hk : k < 32) (hcell : w.cell? ⟨0, idx, none⟩ = some (.int .u8 k)) :
    Calls Tryd.prog 91 #[.int .u16 x] w fun e w' => e = .returned (.int .i64 k) ∧ w = w' := by
  go_enter Tryd.func91, Tryd.ntmps91
  go_wp2_with (simp only [key])
  go_ret
  exact ⟨rfl, rfl⟩
/-- the least person of a set -/
theorem tz16_any {J a : Nat} {cs : List Nat} (h : IsSet J (a :: cs)) (w : World) (hT : TabW w) :
    Calls Tryd.prog 91 #[.int .u16 J] w fun e w' => e = .returned (.int .i64 a) ∧ w = w' := by
  have hp := h.pos
  have hs := h.small
  have ha := h.lt a List.mem_cons_self
  obtain ⟨hlow, _⟩ := Lib.lowest_bit 16 J hp hs
  rw [h.least] at hlow
  obtain ⟨hi, htab⟩ := Lib.deBruijn32_at a (by omega)
  have hcell := hT _ hi
  rw [htab] at hcell
  exact tz16_core J a _ w (by simp; omega) (tz16_key J a hs hp hlow ha) hi (by omega) hcell
end Go.Proofs.YtgccapdjhnejcaaDoor
