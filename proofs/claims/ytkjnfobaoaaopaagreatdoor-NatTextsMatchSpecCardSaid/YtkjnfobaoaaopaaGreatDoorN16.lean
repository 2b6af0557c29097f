/- guess and up. -/
import Derived.Test.YtkjnfobaoaaopaaGreatDoorN15
namespace Go.Proofs.YtkjnfobaoaaopaaGreatDoor
open Go.RowKit Hm Wm Wn

theorem div64_any (hi lo y : Nat) (w : World) (hy : y < B) (hh : hi < y) (hlo : lo < B) :
    Calls Tryz.prog 80 #[.int .u64 hi, .int .u64 lo, .int .u64 y] w fun e w' => e = .returned (.tuple #[.int .u64 ((hi * 18446744073709551616 + lo) / y : Nat), .int .u64 ((hi * 18446744073709551616 + lo) % y : Nat)]) ∧ Below w.heap.size w w' := by
  by_cases h0 : hi = 0
  · subst h0
    rw [Nat.zero_mul, Nat.zero_add]
    exact div64_zero lo y w hlo hh
  · refine (div64_pos hi lo y w hy hh hlo (by omega)).mono ?_
    rintro e w' ⟨rfl, rfl⟩
    exact ⟨rfl, Below.refl _ _⟩
/-- A digit of a quotient, not less than the true one. -/
def guessN (hi lo y : Nat) : Nat := if y ≤ hi then 18446744073709551615 else (hi * 18446744073709551616 + lo) / y
set_option maxRecDepth 100000 in
set_option maxHeartbeats 400000 in
theorem guess_any (hi lo y : Nat) (w : World) (hy : y < B) (hlo : lo < B) :
    Calls Tryz.prog 59 #[.int .u64 hi, .int .u64 lo, .int .u64 y] w fun e w' => e = .returned (.int .u64 (guessN hi lo y)) ∧ Below w.heap.size w w' := by
  by_cases h : y ≤ hi
  · have e1 : decide ((y : Int) ≤ (hi : Int)) = true := decide_eq_true (by omega)
    have e1' : decide (y ≤ hi) = true := decide_eq_true h
    have hg : guessN hi lo y = 18446744073709551615 := by unfold guessN; rw [if_pos h]
    rw [hg]
    clear hg h hy hlo
    go_enter Tryz.func59, Tryz.ntmps59
    go_wp2_with fail
    go_ret
    exact ⟨rfl, Below.refl _ _⟩
  · have e1 : decide ((y : Int) ≤ (hi : Int)) = false := decide_eq_false (by omega)
    have e1' : decide (y ≤ hi) = false := decide_eq_false h
    have hg : guessN hi lo y = (hi * 18446744073709551616 + lo) / y := by unfold guessN; rw [if_neg h]
    have HC := div64_any hi lo y w hy (by omega) hlo
    rw [hg]
    obtain ⟨q, hq⟩ : ∃ q, (hi * 18446744073709551616 + lo) / y = q := ⟨_, rfl⟩
    obtain ⟨r, hr⟩ : ∃ r, (hi * 18446744073709551616 + lo) % y = r := ⟨_, rfl⟩
    rw [hq, hr] at HC
    rw [hq]
    have HD := Lib.hid HC
    have HN := Lib.hid h
    clear hg hq hr HC hy hlo h
    go_enter Tryz.func59, Tryz.ntmps59
    go_wp2_with fail
    refine HD.out.mono ?_
    rintro e w' ⟨rfl, hb⟩
    have HB := Lib.hid hb
    clear hb HD
    go_wp2_with fail
    go_ret
    exact ⟨rfl, HB.out⟩
theorem run_shlI (x z s : Nat) (w : World) (hs : s ≤ 64) (h : x * 2 ^ s % B = z) : (binOp .shl 53 (.int .u64 x) (.int .i64 s)).run Tryz.prog w = .ok (.int .u64 (z : Int)) w := by
  rw [binOp_shl, shift_shl .u64 .i64 (x : Int) (s : Int) (by omega) (by show _ ≤ ((64 : Nat) : Int); omega), Sem.run_pure]
  have e : ((x : Int) * 2 ^ (s : Int).toNat) = ((x * 2 ^ s : Nat) : Int) := by rw [Int.toNat_natCast]; push_cast; rfl
  rw [e, IntKind.wrap_u64]
  subst h
  unfold B
  generalize x * 2 ^ s = p
  congr 2 <;> omega
theorem run_shrI (x z s : Nat) (w : World) (hs : s ≤ 64) (h : x / 2 ^ s = z) : (binOp .shr 53 (.int .u64 x) (.int .i64 s)).run Tryz.prog w = .ok (.int .u64 (z : Int)) w := by
  have e : binOp .shr 53 (.int .u64 (x : Int)) (.int .i64 (s : Int)) = Op.shift .shr .u64 (x : Int) .i64 (s : Int) := rfl
  rw [e, shift_shr .u64 .i64 (x : Int) (s : Int) (by omega) (by show _ ≤ ((64 : Nat) : Int); omega), Sem.run_pure]
  have e : ((x : Int) / 2 ^ (s : Int).toNat) = ((x / 2 ^ s : Nat) : Int) := by rw [Int.toNat_natCast]; push_cast; rfl
  rw [e, h]
theorem up_row (X : List Nat) (s : Nat) (hX : Dig X) (hs : s < 64) : (addTL (zd (X.length + 1)) X (2 ^ s) 0).1.length = X.length + 1 ∧ num (addTL (zd (X.length + 1)) X (2 ^ s) 0).1 = num X * 2 ^ s ∧ Dig (addTL (zd (X.length + 1)) X (2 ^ s) 0).1 := by
  have hp : (2 : Nat) ^ s < B := by
    have := Nat.pow_lt_pow_right (a := 2) (by decide) hs
    exact this
  have hn := num_lt hX
  have h1 : num (zd (X.length + 1)) + 2 ^ s * num X < B ^ (zd (X.length + 1)).length := by
    unfold zd
    rw [num_zeros, List.length_replicate, Nat.zero_add, Nat.pow_succ, Nat.mul_comm]
    exact Nat.mul_lt_mul'' hn hp
  have h2 := (addTL_fits (by rw [zd_len]; omega) h1).1
  refine ⟨by rw [addTL_len, zd_len], ?_, addTL_dig _ _ _ _⟩
  rw [h2]
  unfold zd
  rw [num_zeros, Nat.zero_add, Nat.mul_comm]
/-- A row in new memory, with its number times a power of 2. -/
def UpW (w : World) (g : Nat) (X : List Nat) (s : Nat) (P : List Nat) : Prop := P.length = X.length + 1 ∧ num P = num X * 2 ^ s ∧ Dig P ∧ Blk w g 53 (ws P)
set_option maxRecDepth 100000 in
set_option maxHeartbeats 400000 in
theorem up_any (A : Option Addr) (c : Nat) (X : List Nat) (s : Nat) (w : World) (hr : RdW w A X) (hX : Dig X) (hs : s < 64) (hl : X.length ≤ 100000) :
    Calls Tryz.prog 58 #[.slice A X.length c, .int .i64 s] w fun e w' => e = .returned (.slice (some ⟨w.heap.size, 0, none⟩) (X.length + 1 : Nat) (X.length + 1 : Nat)) ∧ (∃ P, UpW w' w.heap.size X s P) ∧ Below w.heap.size w w' := by
  obtain ⟨u1, u2, u3⟩ := up_row X s hX hs
  have hp : (2 : Nat) ^ s < B := Nat.pow_lt_pow_right (a := 2) (by decide) hs
  have HSH := Lib.hid (fun W => show (binOp .shl 53 (.int .u64 1) (.int .i64 s)).run Tryz.prog W = _ from run_shlI 1 (2 ^ s) s W (by omega) (by rw [Nat.one_mul]; exact Nat.mod_eq_of_lt hp))
  have HR := Lib.hid hr
  have HOF := Lib.hid (off_old hr)
  have HX := Lib.hid hX
  obtain ⟨f, hf⟩ : ∃ f, (2 : Nat) ^ s = f := ⟨_, rfl⟩
  have hu2 := u2
  rw [hf] at u1 u2 u3 hp HSH
  have HP := Lib.hid hp
  have HU1 := Lib.hid u1
  have HU3 := Lib.hid u3
  have HU2 := Lib.hid (show num (addTL (zd (X.length + 1)) X f 0).1 = num X * 2 ^ s by rw [u2, hf])
  clear hr hX u1 u2 u3 hp hf hu2 hs
  go_enter Tryz.func58, Tryz.ntmps58
  go_wp2_with (first | (refine wpList_makeW rfl (.tmp 8) (.tmp 8) rfl (X.length + 1) (by go_num) (by go_num) (by omega) ?_; intro w1 HK1 HB1) | (refine wpList_run 13 rfl rfl _ (exec_bin .shl 53 _ (.const (.int .u64 1)) (.tmp 12) rfl _ _ _ rfl rfl rfl (HSH.out _)) ?_))
  have HC := Lib.hid (addT_any w.heap.size [] (zd (X.length + 1)) [] X (X.length + 1) A c f w1 (by simpa using HK1.out) (HR.out.next HB1.out) HOF.out (dig_zeros _) HX.out HP.out (by rw [zd_len]; omega))
  skip --@@
  refine Calls.mono (by have := HC.out; rw [zd_len] at this; exact this) ?_
  rintro e w3 ⟨rfl, hk3, ho3⟩
  have HU := Lib.hid (show ∃ P, UpW w3 w.heap.size X s P from ⟨_, HU1.out, HU2.out, HU3.out, by simpa using hk3⟩)
  have HB3 := Lib.hid (HB1.out.trans (ho3.below (Nat.le_refl _)))
  clear hk3 ho3 HC
  go_wp2
  go_ret
  exact ⟨by rfl, HU.out, HB3.out⟩
end Go.Proofs.YtkjnfobaoaaopaaGreatDoor
