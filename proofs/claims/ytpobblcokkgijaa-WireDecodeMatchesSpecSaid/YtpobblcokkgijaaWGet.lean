/- The contract of wire's GetInt. -/
import Derived.Test.YtpobblcokkgijaaWInt
namespace Go.Proofs.Ytpobblcokkgijaa
open Go.RowKit Wm

def comb (Z k : Nat) (r : Nat × Nat × Nat) : Nat × Nat × Nat := if r.2.2 = 0 then (Z + 128 ^ k * r.1, k + r.2.1, 0) else (0, 0, r.2.2)

theorem comb_zero (r : Nat × Nat × Nat) (h : r.2.2 ≠ 0 → r.1 = 0 ∧ r.2.1 = 0) : r = comb 0 0 r := by
  obtain ⟨a, b, c⟩ := r
  unfold comb
  by_cases hc : c = 0
  · subst hc; simp
  · rw [if_neg hc]
    obtain ⟨rfl, rfl⟩ := h hc
    rfl

theorem or_digit {Z k d : Nat} (hZ : Z < 128 ^ k) (hd : d * 128 ^ k < 18446744073709551616) (h9 : k ≤ 9) :
    bits .or .u64 (Z : Int) ((d * 128 ^ k : Nat) : Int) = ((Z + 128 ^ k * d : Nat) : Int) := by
  have h2 : (128 : Nat) ^ k = 2 ^ (7 * k) := by rw [show (128 : Nat) = 2 ^ 7 from rfl, ← Nat.pow_mul]
  have hZ' : Z < 18446744073709551616 := by
    have h3 : (128 : Nat) ^ k ≤ 128 ^ 9 := Nat.pow_le_pow_right (by omega) h9
    have h4 : (128 : Nat) ^ 9 < 18446744073709551616 := by decide
    omega
  rw [bits_or_u64_nat Z _ hZ' hd]
  congr 1
  rw [h2] at hZ ⊢
  have h5 := Nat.two_pow_add_eq_or_of_lt hZ d
  rw [Nat.mul_comm d, Nat.or_comm, ← h5, Nat.add_comm]

theorem or_small {Z k C : Nat} (hZ : Z < 128 ^ k) (h8 : k ≤ 8) :
    bits .or .u64 (Z : Int) (IntKind.u64.wrap ((C : Int) % 128 * 2 ^ (7 * k))) = ((Z + 128 ^ k * (C % 128) : Nat) : Int) := by
  have h2 : (128 : Nat) ^ k = 2 ^ (7 * k) := by rw [show (128 : Nat) = 2 ^ 7 from rfl, ← Nat.pow_mul]
  have hb : C % 128 * 128 ^ k < 18446744073709551616 := by
    have h3 : (128 : Nat) ^ k ≤ 128 ^ 8 := Nat.pow_le_pow_right (by omega) h8
    have h4 : C % 128 * 128 ^ k ≤ 127 * 128 ^ 8 := Nat.mul_le_mul (by omega) h3
    have h5 : 127 * (128 : Nat) ^ 8 < 18446744073709551616 := by decide
    omega
  have e : (C : Int) % 128 * 2 ^ (7 * k) = ((C % 128 * 128 ^ k : Nat) : Int) := by
    rw [h2, Int.natCast_mul, Int.natCast_pow]
    rfl
  rw [e, IntKind.wrap_u64, Int.emod_eq_of_lt (by omega) (by omega)]
  exact or_digit hZ hb (by omega)

theorem or_last {Z C : Nat} (hZ : Z < 128 ^ 9) (hC : C ≤ 1) :
    bits .or .u64 (Z : Int) ((C : Int) % 128 * 9223372036854775808) = ((Z + 128 ^ 9 * (C % 128) : Nat) : Int) := by
  have h9 : (128 : Nat) ^ 9 = 9223372036854775808 := by decide
  have e : (C : Int) % 128 * 9223372036854775808 = ((C % 128 * 128 ^ 9 : Nat) : Int) := by
    rw [h9]; omega
  rw [e]
  exact or_digit hZ (by rw [h9]; omega) (by omega)

theorem or_last1 {Z : Nat} (hZ : Z < 128 ^ 9) : bits .or .u64 (Z : Int) 9223372036854775808 = ((Z + 128 ^ 9 * (1 % 128) : Nat) : Int) := by
  have h := or_last (C := 1) hZ (Nat.le_refl 1)
  rw [show ((1 : Nat) : Int) % 128 * 9223372036854775808 = 9223372036854775808 from by omega] at h
  exact h
theorem or_zero (C : Nat) : bits .or .u64 0 ((C : Int) % 128) = ((0 + 128 ^ 0 * (C % 128) : Nat) : Int) := by
  have h := or_digit (Z := 0) (k := 0) (d := C % 128) (by decide) (by omega) (by omega)
  rw [Nat.pow_zero, Nat.mul_one] at h
  rw [Nat.pow_zero]
  exact h

/-- unfold, its argument as the walk spells it. -/
theorem unfold_int (z : Int) (Z : Nat) (w : World) (hz : z = (Z : Int)) (h : Z < 18446744073709551616) :
    Calls Try.prog 44 #[.int .u64 z] w fun e w' => e = .returned (.int .i64 (zag Z)) ∧ w = w' := by
  subst hz; exact unfold_any Z w h

theorem comb_stop {l : List UInt8} {Z k C : Nat} (hk : k < l.length) (hC : l[k].toNat = C) (h : gz 0 l = comb Z k (gz k (l.drop k))) (hb : (k = 9 ∧ 1 < C) ∨ (0 < k ∧ C = 0)) : gi l = (0, 0, 11) := by
  rw [List.drop_eq_getElem_cons hk] at h
  simp only [gz, hC, if_pos hb] at h
  unfold gi
  rw [h]; simp [comb]
theorem comb_end {l : List UInt8} {Z k : Nat} (hk : ¬ k < l.length) (h : gz 0 l = comb Z k (gz k (l.drop k))) : gi l = (0, 0, 10) := by
  rw [List.drop_eq_nil_of_le (by omega)] at h
  simp only [gz] at h
  unfold gi
  rw [h]; simp [comb]
theorem comb_last {l : List UInt8} {Z k C : Nat} (hk : k < l.length) (hC : l[k].toNat = C) (h : gz 0 l = comb Z k (gz k (l.drop k))) (hb : ¬ ((k = 9 ∧ 1 < C) ∨ (0 < k ∧ C = 0))) (hs : C < 128) :
    gi l = (zag (Z + 128 ^ k * (C % 128)), k + 1, 0) ∧ Z + 128 ^ k * (C % 128) < 18446744073709551616 := by
  rw [List.drop_eq_getElem_cons hk] at h
  simp only [gz, hC, if_neg hb, if_pos hs] at h
  have hm : C % 128 = C := Nat.mod_eq_of_lt hs
  have e : gz 0 l = (Z + 128 ^ k * C, k + 1, 0) := by rw [h]; simp [comb]
  refine ⟨?_, ?_⟩
  · unfold gi
    rw [e, hm]; simp
  · have := (gz_dig l 0 (by omega) (by rw [e])).2.1
    rw [e] at this
    rw [hm]; simpa using this
theorem comb_on {l : List UInt8} {Z k C : Nat} (hk : k < l.length) (hC : l[k].toNat = C) (hZ : Z < 128 ^ k) (h : gz 0 l = comb Z k (gz k (l.drop k))) (hb : ¬ ((k = 9 ∧ 1 < C) ∨ (0 < k ∧ C = 0))) (hs : ¬ C < 128) :
    Z + 128 ^ k * (C % 128) < 128 ^ (k + 1) ∧ gz 0 l = comb (Z + 128 ^ k * (C % 128)) (k + 1) (gz (k + 1) (l.drop (k + 1))) := by
  have e1 : (128 : Nat) ^ (k + 1) = 128 ^ k * 128 := Nat.pow_succ ..
  refine ⟨?_, ?_⟩
  · have h1 : 128 ^ k * (C % 128) ≤ 128 ^ k * 127 := Nat.mul_le_mul_left _ (by omega)
    rw [e1]; omega
  · rw [List.drop_eq_getElem_cons hk] at h
    simp only [gz, hC, if_neg hb, if_neg hs] at h
    rw [h]
    unfold comb
    by_cases hr : (gz (k + 1) (l.drop (k + 1))).2.2 = 0
    · rw [if_pos hr, if_pos hr, if_pos rfl]
      have e2 : Z + 128 ^ k * (C % 128 + 128 * (gz (k + 1) (l.drop (k + 1))).1) = Z + 128 ^ k * (C % 128) + 128 ^ (k + 1) * (gz (k + 1) (l.drop (k + 1))).1 := by
        rw [e1, Nat.mul_add, Nat.mul_assoc, Nat.add_assoc]
      show (_, _, _) = (_, _, _)
      rw [e2, show k + ((gz (k + 1) (l.drop (k + 1))).2.1 + 1) = k + 1 + (gz (k + 1) (l.drop (k + 1))).2.1 from by omega]
    · rw [if_neg hr, if_neg hr, if_neg hr]

set_option maxRecDepth 100000 in
set_option maxHeartbeats 1000000 in
theorem getInt_any (A : Option Addr) (c : Nat) (l : List UInt8) (w : World) (hl : l.length ≤ 140737488355328) (hr : Rd w A (bc l)) :
    Calls Try.prog 24 #[.slice A l.length c] w fun e w' => e = .returned (.tuple #[.int .i64 (gi l).1, .int .i64 ((gi l).2.1 : Nat), .int .i64 ((gi l).2.2 : Nat)]) ∧ w = w' := by
  go_enter Try.func24, Try.ntmps24
  go_wp2
  go_step3
  go_wp2
  go_step3
  go_wp2
  go_loop [5, 6, 11] (fun z u i => ∃ (k Z : Nat), i = .int .i64 k ∧ k ≤ l.length ∧ k ≤ 9 ∧ z = .int .u64 Z ∧ u = .int .i64 0 ∧ Hid (Z < 128 ^ k ∧ gz 0 l = comb Z k (gz k (l.drop k))))
    (fun _ _ i => l.length - (intOf i).toNat)
  case atStart =>
    exact ⟨0, 0, rfl, by omega, by omega, rfl, rfl, by simp, comb_zero _ (gz_bad l 0)⟩
  case round =>
    obtain ⟨k, Z, rfl, hk, hk9, rfl, rfl, HD⟩ := hrel
    by_cases hlt : k < l.length
    · obtain ⟨b, off, hA, hcell⟩ := hr.at_ (bc_at hlt)
      subst hA
      clear hr
      obtain ⟨C, hC⟩ : ∃ C : Nat, l[k].toNat = C := ⟨_, rfl⟩
      have hC2 : C < 256 := by have := l[k].toNat_lt; omega
      rw [hC] at hcell
      have HC := Lib.hid hC
      clear hC
      by_cases h9 : k = 9
      · subst h9
        by_cases h1 : 1 < C
        · have HG := Lib.hid (comb_stop hlt HC.out HD.out.2 (.inl ⟨rfl, h1⟩))
          go_wp2
          go_ret3
          exact ⟨by rw [HG.out]; rfl, rfl⟩
        · by_cases hC0 : C = 0
          · subst hC0
            have HG := Lib.hid (comb_stop hlt HC.out HD.out.2 (.inr ⟨by omega, rfl⟩))
            go_wp2
            go_ret3
            exact ⟨by rw [HG.out]; rfl, rfl⟩
          · obtain rfl : C = 1 := by omega
            have HG := Lib.hid (comb_last hlt HC.out HD.out.2 (by omega) (by omega))
            have HE := Lib.hid (or_last1 HD.out.1)
            clear hC0 h1
            go_wp2_with (go_at_call 44; refine (unfold_int _ _ _ HE.out HG.out.2).mono ?_; rintro e w' ⟨rfl, rfl⟩)
            rw [Exit.noGoto_ret]
            go_ret3
            exact ⟨by rw [HG.out.1]; rfl, rfl⟩
      · have b9 : ((k : Int) == 9) = false := beq_eq_false_iff_ne.2 (by omega)
        by_cases hb : 0 < k ∧ C = 0
        · obtain ⟨h0, rfl⟩ := hb
          have HG := Lib.hid (comb_stop hlt HC.out HD.out.2 (.inr ⟨h0, rfl⟩))
          go_wp2
          go_ret3
          exact ⟨by rw [HG.out]; rfl, rfl⟩
        · by_cases hs : C < 128
          · have HG := Lib.hid (comb_last hlt HC.out HD.out.2 (by omega) hs)
            have HE := Lib.hid (or_small (C := C) HD.out.1 (by omega : k ≤ 8))
            rcases Nat.eq_zero_or_pos k with h0 | h0
            · subst h0
              obtain rfl : Z = 0 := by have := HD.out.1; simpa using this
              rw [Nat.add_zero] at hcell
              clear HE
              have HE := Lib.hid (or_zero C)
              go_wp2_with (go_at_call 44; refine (unfold_int _ _ _ HE.out HG.out.2).mono ?_; rintro e w' ⟨rfl, rfl⟩)
              rw [Exit.noGoto_ret]
              go_ret3
              have hg := HG.out.1
              rw [show 0 + 128 ^ 0 * (C % 128) = C % 128 from by simp] at hg
              exact ⟨by rw [hg]; rfl, rfl⟩
            · have bC : ((C : Int) == 0) = false := beq_eq_false_iff_ne.2 (by omega)
              go_wp2_with (go_at_call 44; refine (unfold_int _ _ _ HE.out HG.out.2).mono ?_; rintro e w' ⟨rfl, rfl⟩)
              rw [Exit.noGoto_ret]
              go_ret3
              exact ⟨by rw [HG.out.1]; rfl, rfl⟩
          · have HG := Lib.hid (comb_on hlt HC.out HD.out.1 HD.out.2 (by omega) hs)
            have HE := Lib.hid (or_small (C := C) HD.out.1 (by omega : k ≤ 8))
            rcases Nat.eq_zero_or_pos k with h0 | h0
            · subst h0
              obtain rfl : Z = 0 := by have := HD.out.1; simpa using this
              rw [Nat.add_zero] at hcell
              go_wp2
              go_round
              case rel => exact ⟨0 + 1, _, by go_num, by omega, by omega, by rw [or_zero], rfl, HG.out.1, HG.out.2⟩
              case measure => simp [intOf]; omega
            · have bC : ((C : Int) == 0) = false := beq_eq_false_iff_ne.2 (by omega)
              go_wp2
              go_round
              case rel => exact ⟨k + 1, _, by go_num, by omega, by omega, by rw [HE.out], rfl, HG.out.1, HG.out.2⟩
              case measure => simp [intOf]; omega
    · have HG := Lib.hid (comb_end hlt HD.out.2)
      go_wp2
      go_ret3
      exact ⟨by rw [HG.out]; rfl, rfl⟩
end Go.Proofs.Ytpobblcokkgijaa
