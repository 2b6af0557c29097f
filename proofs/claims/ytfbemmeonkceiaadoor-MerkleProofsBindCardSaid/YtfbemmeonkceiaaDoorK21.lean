/- Contracts of math/bits at merkle's peaks. -/
import Derived.Test.YtfbemmeonkceiaaDoorK20
import Derived.Test.YtfbemmeonkceiaaDoorKPop
import Derived.Shelf.Spec.TrailingZeros
namespace Go.Proofs.YtfbemmeonkceiaaDoor
open Go.RowKit Hm Wm

theorem m55 : Pc.rep 0x55 8 = 6148914691236517205 := by decide
theorem m33 : Pc.rep 0x33 8 = 3689348814741910323 := by decide
theorem m0f : Pc.rep 0x0f 8 = 1085102592571150095 := by decide
theorem w1_le (y : Nat) : Pc.w1 8 y ≤ 12297829382473034410 := by
  have h1 : (y / 2) &&& Pc.rep 0x55 8 ≤ Pc.rep 0x55 8 := Nat.and_le_right
  have h2 : y &&& Pc.rep 0x55 8 ≤ Pc.rep 0x55 8 := Nat.and_le_right
  unfold Pc.w1; rw [m55] at *; omega
theorem w2_le (y : Nat) : Pc.w2 8 y ≤ 7378697629483820646 := by
  have h1 : (y / 4) &&& Pc.rep 0x33 8 ≤ Pc.rep 0x33 8 := Nat.and_le_right
  have h2 : y &&& Pc.rep 0x33 8 ≤ Pc.rep 0x33 8 := Nat.and_le_right
  unfold Pc.w2; rw [m33] at *; omega
theorem l1 (y : Nat) (h : y < 18446744073709551616) : IntKind.u64.wrap (bits .and .u64 ((y : Int) / 2) 6148914691236517205 + bits .and .u64 (y : Int) 6148914691236517205) = ((Pc.w1 8 y : Nat) : Int) := by
  have e1 : (y : Int) / 2 = ((y / 2 : Nat) : Int) := by omega
  have e2 : (6148914691236517205 : Int) = ((6148914691236517205 : Nat) : Int) := rfl
  have hl := w1_le y
  rw [e1, e2, bits_and_u64_nat _ _ (by omega) (by omega), bits_and_u64_nat _ _ h (by omega), IntKind.wrap_u64]
  unfold Pc.w1 at hl ⊢
  rw [m55] at *
  omega
theorem l2 (y : Nat) (h : y < 18446744073709551616) : IntKind.u64.wrap (bits .and .u64 ((y : Int) / 4) 3689348814741910323 + bits .and .u64 (y : Int) 3689348814741910323) = ((Pc.w2 8 y : Nat) : Int) := by
  have e1 : (y : Int) / 4 = ((y / 4 : Nat) : Int) := by omega
  have e2 : (3689348814741910323 : Int) = ((3689348814741910323 : Nat) : Int) := rfl
  have hl := w2_le y
  rw [e1, e2, bits_and_u64_nat _ _ (by omega) (by omega), bits_and_u64_nat _ _ h (by omega), IntKind.wrap_u64]
  unfold Pc.w2 at hl ⊢
  rw [m33] at *
  omega
theorem l3 (y : Nat) (h : y ≤ 7378697629483820646) : bits .and .u64 (IntKind.u64.wrap ((y : Int) / 16 + (y : Int))) 1085102592571150095 = ((Pc.w3 8 y : Nat) : Int) := by
  have e1 : IntKind.u64.wrap ((y : Int) / 16 + (y : Int)) = ((y / 16 + y : Nat) : Int) := by rw [IntKind.wrap_u64]; omega
  have e2 : (1085102592571150095 : Int) = ((1085102592571150095 : Nat) : Int) := rfl
  rw [e1, e2, bits_and_u64_nat _ _ (by omega) (by omega)]
  unfold Pc.w3
  rw [m0f]
theorem l4 (y : Nat) (h : y ≤ 700000000000000000) (d : Nat) : IntKind.u64.wrap ((y : Int) + (y : Int) / (d : Int)) = ((y + y / d : Nat) : Int) := by
  have h1 : y / d ≤ y := Nat.div_le_self y d
  have e : (y : Int) / (d : Int) = ((y / d : Nat) : Int) := by simp
  rw [e, IntKind.wrap_u64]
  generalize y / d = z at h1 ⊢
  omega
theorem and127 (x : Int) : bits .and .i64 x 127 = x % 128 := by
  have e1 : (BitVec.ofInt 64 x &&& BitVec.ofInt 64 127).toNat = (x % 18446744073709551616).toNat % 128 := by
    rw [BitVec.toNat_and, show (BitVec.ofInt 64 127).toNat = 2 ^ 7 - 1 from rfl, Nat.and_two_pow_sub_one_eq_mod, BitVec.toNat_ofInt]
    rfl
  show IntKind.i64.wrap ((BitVec.ofInt 64 x &&& BitVec.ofInt 64 127).toNat : Int) = _
  rw [e1, IntWalk.i64_in _ (by omega)]; omega

theorem wrap_mod (z : Nat) : wrap64 (z : Int) % 128 = ((z % 128 : Nat) : Int) := by unfold wrap64; omega

set_option maxRecDepth 100000 in
set_option maxHeartbeats 1000000 in
theorem ones64_any (x : Nat) (w : World) (hx : x < 18446744073709551616) :
    Calls Tryd.prog 89 #[.int .u64 x] w fun e w' => e = .returned (.int .i64 (Go.Lib.popAux 64 x : Nat)) ∧ w' = w := by
  go_enter Tryd.func89, Tryd.ntmps89
  go_wp2
  go_ret
  refine ⟨?_, rfl⟩
  have g1 := w1_le x
  have g2 := w2_le (Pc.w1 8 x)
  obtain ⟨x3, h3⟩ : ∃ x3, x3 = Pc.w3 8 (Pc.w2 8 (Pc.w1 8 x)) := ⟨_, rfl⟩
  obtain ⟨x4, h4⟩ : ∃ x4, x4 = x3 + x3 / 256 := ⟨_, rfl⟩
  obtain ⟨x5, h5⟩ : ∃ x5, x5 = x4 + x4 / 65536 := ⟨_, rfl⟩
  obtain ⟨x6, h6⟩ : ∃ x6, x6 = x5 + x5 / 4294967296 := ⟨_, rfl⟩
  obtain ⟨hp, hb3, hp64⟩ := Pc.summed x hx x3 x4 x5 x6 h3 h4 h5 h6
  have q4 : IntKind.u64.wrap ((x3 : Int) + (x3 : Int) / 256) = (x4 : Int) := by have := l4 x3 (by omega) 256; rw [← h4] at this; exact this
  have q5 : IntKind.u64.wrap ((x4 : Int) + (x4 : Int) / 65536) = (x5 : Int) := by have := l4 x4 (by omega) 65536; rw [← h5] at this; exact this
  have q6 : IntKind.u64.wrap ((x5 : Int) + (x5 : Int) / 4294967296) = (x6 : Int) := by have := l4 x5 (by omega) 4294967296; rw [← h6] at this; exact this
  have q7 : wrap64 (x6 : Int) % 128 = ((Go.Lib.popAux 64 x : Nat) : Int) := by rw [wrap_mod, hp]
  simp only [l1 x hx, l2 _ (show Pc.w1 8 x < 18446744073709551616 by omega), l3 _ g2, ← h3, q4, q5, q6, and127, q7]
  rfl

set_option maxRecDepth 100000 in
set_option maxHeartbeats 1000000 in
theorem ones_any (x : Nat) (w : World) (hx : x < 18446744073709551616) :
    Calls Tryd.prog 74 #[.int .u64 x] w fun e w' => e = .returned (.int .i64 (Go.Lib.popAux 64 x : Nat)) ∧ w' = w := by
  have HC := Lib.hid (fun w => ones64_any x w hx)
  go_enter Tryd.func74, Tryd.ntmps74
  go_wp2_with fail
  refine (HC.out _).mono ?_
  rintro e w' ⟨rfl, rfl⟩
  go_wp2
  go_ret
  exact ⟨rfl, rfl⟩

/-- The table of trailing zeros in its variable. -/
def Tab64 (w : World) : Prop := TabAt 2 Go.Lib.deBruijn64tab w
theorem Tab64.next {w w' : World} (h : Tab64 w) (hb : Below w.heap.size w w') : Tab64 w' := fun j hj => by
  have h1 := h j hj
  rw [hb.cell (p := ⟨_, j, none⟩) (World.block_lt_of_cell? w _ h1)]; exact h1

set_option maxHeartbeats 1000000 in
theorem tz64_core (x k idx : Nat) (w : World) (hx0 : ((x : Int) == 0) = false)
    (key : IntKind.u64.wrap (bits BinOp.and IntKind.u64 (x : Int) (IntKind.u64.wrap (-(x : Int))) * 285870213051353865) / 288230376151711744 = (idx : Int))
    (hi : idx < 64) (hk : k < 64) (hcell : w.cell? ⟨2, idx, none⟩ = some (.int .u8 k)) :
    Calls Tryd.prog 76 #[.int .u64 x] w fun e w' => e = .returned (.int .i64 k) ∧ w' = w := by
  go_enter Tryd.func76, Tryd.ntmps76
  go_wp2_with (simp only [key])
  go_ret
  exact ⟨rfl, rfl⟩
theorem tz64_any (x : Nat) (hx0 : x ≠ 0) (hx : x < 18446744073709551616) (w : World) (hT : Tab64 w) :
    Calls Tryd.prog 76 #[.int .u64 x] w fun e w' => e = .returned (.int .i64 (Go.Lib.ctz 64 x : Nat)) ∧ w' = w := by
  obtain ⟨hlow, hk⟩ := Go.Lib.lowest_bit 64 x hx0 hx
  obtain ⟨hi, htab⟩ := Go.Lib.deBruijn64_at _ hk
  have hcell := hT _ hi
  rw [htab] at hcell
  exact tz64_core x _ _ w (by simp; omega) (tz64_key x _ hx hx0 hlow) hi hk hcell
set_option maxHeartbeats 1000000 in
theorem tz_any (x : Nat) (hx0 : x ≠ 0) (hx : x < 18446744073709551616) (w : World) (hT : Tab64 w) :
    Calls Tryd.prog 52 #[.int .u64 x] w fun e w' => e = .returned (.int .i64 (Go.Lib.ctz 64 x : Nat)) ∧ w' = w := by
  have HC := Lib.hid (tz64_any x hx0 hx w hT)
  clear hT
  go_enter Tryd.func52, Tryd.ntmps52
  go_wp2_with fail
  refine HC.out.mono ?_
  rintro e w' ⟨rfl, rfl⟩
  go_wp2
  go_ret
  exact ⟨rfl, rfl⟩
end Go.Proofs.YtfbemmeonkceiaaDoor
