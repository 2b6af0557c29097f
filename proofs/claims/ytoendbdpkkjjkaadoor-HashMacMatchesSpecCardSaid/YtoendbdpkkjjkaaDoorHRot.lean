/- Contracts of rotr (the program's and the reference's), RotateLeft32 and word. -/
import Derived.Test.YtoendbdpkkjjkaaDoorHMath
import Derived.Test.YtoendbdpkkjjkaaDoorHWPut
import Derived.Laws.DeepBits32
import Derived.Outline
import Derived.Deep.QuietTactic
import Derived.BigQuiet
import Derived.IntWalk
namespace Go.Proofs.YtoendbdpkkjjkaaDoor
open Go.RowKit Hm

theorem wrap_u32 (n : Int) : IntKind.u32.wrap n = n % 4294967296 := by simp [IntKind.wrap, IntKind.bits, IntKind.signed]
theorem u32_lt (x : UInt32) : x.toNat < 4294967296 := x.toNat_lt

theorem bv_u32 (a : Nat) (h : a < 4294967296) : (BitVec.ofInt 32 (a : Int)).toNat = a := by
  rw [BitVec.ofInt_natCast, BitVec.toNat_ofNat]; exact Nat.mod_eq_of_lt (by omega)
theorem bv_u64 (a : Nat) (h : a < 18446744073709551616) : (BitVec.ofInt 64 (a : Int)).toNat = a := by
  rw [BitVec.ofInt_natCast, BitVec.toNat_ofNat]; exact Nat.mod_eq_of_lt (by omega)
/-- The operations on words, at numbers below 2 ^ 32. -/
theorem or_u32 (a b : Nat) (ha : a < 4294967296) (hb : b < 4294967296) : bits .or .u32 (a : Int) (b : Int) = ((a ||| b : Nat) : Int) := by
  have h : a ||| b < 2 ^ 32 := Nat.or_lt_two_pow (by omega) (by omega)
  show IntKind.u32.wrap ((BitVec.ofInt 32 (a : Int) ||| BitVec.ofInt 32 (b : Int)).toNat : Int) = _
  rw [BitVec.toNat_or, bv_u32 a (by omega), bv_u32 b (by omega), wrap_u32]; omega
theorem xor_u32 (x y : UInt32) : bits .xor .u32 (x.toNat : Int) (y.toNat : Int) = ((x ^^^ y).toNat : Int) := by
  have ha := u32_lt x
  have hb := u32_lt y
  have h : x.toNat ^^^ y.toNat < 2 ^ 32 := Nat.xor_lt_two_pow (by omega) (by omega)
  show IntKind.u32.wrap ((BitVec.ofInt 32 (x.toNat : Int) ^^^ BitVec.ofInt 32 (y.toNat : Int)).toNat : Int) = _
  rw [BitVec.toNat_xor, bv_u32 _ (by omega), bv_u32 _ (by omega), wrap_u32, UInt32.toNat_xor]; omega
theorem and_u32 (x y : UInt32) : bits .and .u32 (x.toNat : Int) (y.toNat : Int) = ((x &&& y).toNat : Int) := by
  have ha := u32_lt x
  have hb := u32_lt y
  have h : x.toNat &&& y.toNat < 2 ^ 32 := Nat.and_lt_two_pow _ (by omega)
  show IntKind.u32.wrap ((BitVec.ofInt 32 (x.toNat : Int) &&& BitVec.ofInt 32 (y.toNat : Int)).toNat : Int) = _
  rw [BitVec.toNat_and, bv_u32 _ (by omega), bv_u32 _ (by omega), wrap_u32, UInt32.toNat_and]; omega
theorem add_u32 (x y : UInt32) : IntKind.u32.wrap ((x.toNat : Int) + (y.toNat : Int)) = ((x + y).toNat : Int) := by
  rw [wrap_u32, UInt32.toNat_add]; omega
theorem shr_u32 (x : UInt32) (n : Nat) : (x.toNat : Int) / ((2 ^ n : Nat) : Int) = ((UInt32.ofNat (x.toNat / 2 ^ n)).toNat : Int) := by
  have ha := u32_lt x
  have h : x.toNat / 2 ^ n ≤ x.toNat := Nat.div_le_self _ _
  rw [UInt32.toNat_ofNat_of_lt' (by show _ < 4294967296; omega)]; simp

theorem rot_eq (x : UInt32) (n m : Nat) (hm : m + n = 32) : bits .or .u32 (IntKind.u32.wrap ((x.toNat : Int) * ((2 ^ m : Nat) : Int))) ((x.toNat : Int) / ((2 ^ n : Nat) : Int)) = ((rotr x n).toNat : Int) := by
  have hx := u32_lt x
  have h1 : x.toNat / 2 ^ n ≤ x.toNat := Nat.div_le_self _ _
  have e1 : IntKind.u32.wrap ((x.toNat : Int) * ((2 ^ m : Nat) : Int)) = ((x.toNat * 2 ^ m % 4294967296 : Nat) : Int) := by rw [wrap_u32, ← Int.natCast_mul]; omega
  have e2 : (x.toNat : Int) / ((2 ^ n : Nat) : Int) = ((x.toNat / 2 ^ n : Nat) : Int) := by simp
  have h2 : x.toNat / 2 ^ n ||| x.toNat * 2 ^ m % 4294967296 < 2 ^ 32 := Nat.or_lt_two_pow (by omega) (by omega)
  rw [e1, e2, or_u32 _ _ (by omega) (by omega)]
  unfold rotr
  rw [show 32 - n = m from by omega, UInt32.toNat_ofNat_of_lt' h2, Nat.or_comm]
theorem rot_eq' (x : UInt32) (n m : Nat) (hm : m + n = 32) : bits .or .u32 ((x.toNat : Int) / ((2 ^ n : Nat) : Int)) (IntKind.u32.wrap ((x.toNat : Int) * ((2 ^ m : Nat) : Int))) = ((rotr x n).toNat : Int) := by
  have hx := u32_lt x
  have h1 : x.toNat / 2 ^ n ≤ x.toNat := Nat.div_le_self _ _
  have e1 : IntKind.u32.wrap ((x.toNat : Int) * ((2 ^ m : Nat) : Int)) = ((x.toNat * 2 ^ m % 4294967296 : Nat) : Int) := by rw [wrap_u32, ← Int.natCast_mul]; omega
  have e2 : (x.toNat : Int) / ((2 ^ n : Nat) : Int) = ((x.toNat / 2 ^ n : Nat) : Int) := by simp
  have h2 : x.toNat / 2 ^ n ||| x.toNat * 2 ^ m % 4294967296 < 2 ^ 32 := Nat.or_lt_two_pow (by omega) (by omega)
  rw [e1, e2, or_u32 _ _ (by omega) (by omega)]
  unfold rotr
  rw [show 32 - n = m from by omega, UInt32.toNat_ofNat_of_lt' h2]
theorem and31 (n m : Nat) (hm : m + n = 32) (h0 : 0 < n) : bits .and .u64 (IntKind.u64.wrap (-(n : Int))) 31 = (m : Int) := by
  have e : IntKind.u64.wrap (-(n : Int)) = ((18446744073709551616 - n : Nat) : Int) := by rw [IntKind.wrap_u64]; omega
  rw [e]
  show IntKind.u64.wrap ((BitVec.ofInt 64 _ &&& BitVec.ofInt 64 ((31 : Nat) : Int)).toNat : Int) = _
  rw [BitVec.toNat_and, bv_u64 _ (by omega), bv_u64 _ (by omega), IntKind.wrap_u64, show (31 : Nat) = 2 ^ 5 - 1 from rfl, Nat.and_two_pow_sub_one_eq_mod]; omega

set_option maxHeartbeats 400000 in
theorem rotl_any (x : UInt32) (n m : Nat) (w : World) (h0 : 0 < n) (h1 : n < 32) (hm : m + n = 32) :
    Calls Tryd.prog 68 #[.int .u32 x.toNat, .int .i64 (-(n : Int))] w fun e w' => e = .returned (.int .u32 (rotr x n).toNat) ∧ w = w' := by
  have hx := u32_lt x
  have ha := and31 n m hm h0
  have HE := Lib.hid (rot_eq x n m hm)
  have hm0 : (m : Int) ≤ 32 := by omega
  have e32 : (32 : Int) - (m : Int) = (n : Int) := by omega
  have hn : (n : Int) ≤ 32 := by omega
  clear hm
  go_enter Tryd.func68, Tryd.ntmps68
  go_wp2
  go_ret
  exact ⟨ret_int (by rw [← HE.out, wrap_u32]; simp), rfl⟩

set_option maxHeartbeats 400000 in
theorem rotr_any (x : UInt32) (n : Nat) (w : World) (h0 : 0 < n) (h1 : n < 32) :
    Calls Tryd.prog 63 #[.int .u32 x.toNat, .int .i64 n] w fun e w' => e = .returned (.int .u32 (rotr x n).toNat) ∧ w = w' := by
  have HC := Lib.hid (rotl_any x n (32 - n) w h0 h1 (by omega))
  go_enter Tryd.func63, Tryd.ntmps63
  go_wp2_with (go_at_call 68; refine HC.out.mono ?_; rintro e w' ⟨rfl, rfl⟩)
  go_ret
  exact ⟨rfl, rfl⟩

set_option maxHeartbeats 400000 in
theorem rrotr_any' (x : UInt32) (n m : Nat) (w : World) (h0 : 0 < n) (h1 : n < 32) (hm : m + n = 32) :
    Calls Tryd.prog 38 #[.int .u32 x.toNat, .int .i64 n] w fun e w' => e = .returned (.int .u32 (rotr x n).toNat) ∧ ∃ k, w' = w.drewN k := by
  have hx := u32_lt x
  have HE := Lib.hid (rot_eq' x n m hm)
  have hn : (n : Int) ≤ 32 := by omega
  have hm0 : (m : Int) ≤ 32 := by omega
  have e32 : (32 : Int) - (n : Int) = (m : Int) := by omega
  have ew : IntKind.i64.wrap ((32 : Int) - (n : Int)) = (m : Int) := by rw [e32]; exact IntWalk.i64_in _ (by omega)
  clear hm
  go_enter Tryd.func38, Tryd.ntmps38
  go_wp2
  go_quiet (fail)
  go_wp2
  go_ret
  exact ⟨ret_int (by rw [← HE.out, wrap_u32]; simp), _, rfl⟩
theorem rrotr_any (x : UInt32) (n : Nat) (w : World) (h0 : 0 < n) (h1 : n < 32) :
    Calls Tryd.prog 38 #[.int .u32 x.toNat, .int .i64 n] w fun e w' => e = .returned (.int .u32 (rotr x n).toNat) ∧ ∃ k, w' = w.drewN k :=
  rrotr_any' x n (32 - n) w h0 h1 (by omega)

theorem be4_eq (a b c d : UInt8) : bits .or .u32 (bits .or .u32 (bits .or .u32 ((a.toNat : Int) * 16777216) ((b.toNat : Int) * 65536)) ((c.toNat : Int) * 256)) (d.toNat : Int) = ((be4 a b c d).toNat : Int) := by
  have ha := a.toNat_lt
  have hb := b.toNat_lt
  have hc := c.toNat_lt
  have hd := d.toNat_lt
  have o1 : a.toNat * 16777216 ||| b.toNat * 65536 = a.toNat * 16777216 + b.toNat * 65536 := by
    have := Nat.two_pow_add_eq_or_of_lt (i := 24) (b := b.toNat * 65536) (by omega) a.toNat
    rw [Nat.mul_comm a.toNat]; exact this.symm
  have o2 : (a.toNat * 256 + b.toNat) * 65536 ||| c.toNat * 256 = (a.toNat * 256 + b.toNat) * 65536 + c.toNat * 256 := by
    have := Nat.two_pow_add_eq_or_of_lt (i := 16) (b := c.toNat * 256) (by omega) (a.toNat * 256 + b.toNat)
    rw [Nat.mul_comm _ 65536]; exact this.symm
  have o3 : (a.toNat * 65536 + b.toNat * 256 + c.toNat) * 256 ||| d.toNat = (a.toNat * 65536 + b.toNat * 256 + c.toNat) * 256 + d.toNat := by
    have := Nat.two_pow_add_eq_or_of_lt (i := 8) (b := d.toNat) (by omega) (a.toNat * 65536 + b.toNat * 256 + c.toNat)
    rw [Nat.mul_comm _ 256]; exact this.symm
  rw [show (a.toNat : Int) * 16777216 = ((a.toNat * 16777216 : Nat) : Int) from by omega, show (b.toNat : Int) * 65536 = ((b.toNat * 65536 : Nat) : Int) from by omega,
    show (c.toNat : Int) * 256 = ((c.toNat * 256 : Nat) : Int) from by omega, or_u32 _ _ (by omega) (by omega), o1,
    show a.toNat * 16777216 + b.toNat * 65536 = (a.toNat * 256 + b.toNat) * 65536 from by omega, or_u32 _ _ (by omega) (by omega), o2,
    show (a.toNat * 256 + b.toNat) * 65536 + c.toNat * 256 = (a.toNat * 65536 + b.toNat * 256 + c.toNat) * 256 from by omega, or_u32 _ _ (by omega) (by omega), o3]
  unfold be4
  rw [UInt32.toNat_ofNat_of_lt' (by show _ < 4294967296; omega)]; omega

set_option maxHeartbeats 400000 in
theorem word_any (a b c d : UInt8) (w : World) :
    Calls Tryd.prog 67 #[.agg #[.int .u8 a.toNat, .int .u8 b.toNat, .int .u8 c.toNat, .int .u8 d.toNat]] w fun e w' => e = .returned (.int .u32 (be4 a b c d).toNat) ∧ Below w.heap.size w w' := by
  have ha := a.toNat_lt
  have hb := b.toNat_lt
  have hc := c.toNat_lt
  have hd := d.toNat_lt
  have HE := Lib.hid (be4_eq a b c d)
  go_enter Tryd.func67, Tryd.ntmps67
  go_wp2
  go_ret
  exact ⟨ret_int (by rw [← HE.out]), (Below.refl _ _).alloc (Nat.le_refl _) _⟩
end Go.Proofs.YtoendbdpkkjjkaaDoor
