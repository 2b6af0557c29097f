/- Div64: operations of words, and the plain lemmas of its two guesses. -/
import Derived.Test.YtkjnfobaoaaopaaGreatDoorN13
import Derived.Lib.ItoaNum
namespace Go.Proofs.YtkjnfobaoaaopaaGreatDoor
open Go.RowKit Hm Wm Wn

section
variable (x y z s : Nat) (w : World)
theorem run_mulW (h : x * y % B = z) : (binOp .mul 53 (.int .u64 x) (.int .u64 y)).run Tryz.prog w = .ok (.int .u64 (z : Int)) w := by
  have e : ((x : Int) * (y : Int)) = ((x * y : Nat) : Int) := by push_cast; rfl
  simp [binOp, go_sem]
  rw [e, IntKind.wrap_u64]
  subst h
  unfold B
  generalize x * y = p
  omega
theorem run_addW (h : (x + y) % B = z) : (binOp .add 53 (.int .u64 x) (.int .u64 y)).run Tryz.prog w = .ok (.int .u64 (z : Int)) w := by
  simp [binOp, go_sem]
  rw [IntKind.wrap_u64]
  subst h
  unfold B
  omega
theorem run_subW (hy : y ≤ B) (h : (x + B - y) % B = z) : (binOp .sub 53 (.int .u64 x) (.int .u64 y)).run Tryz.prog w = .ok (.int .u64 (z : Int)) w := by
  simp [binOp, go_sem]
  rw [IntKind.wrap_u64]
  subst h
  unfold B at *
  omega
theorem run_quoW (hy : y ≠ 0) (hx : x < B) (h : x / y = z) : (binOp .quo 53 (.int .u64 x) (.int .u64 y)).run Tryz.prog w = .ok (.int .u64 (z : Int)) w := by
  simp [binOp, go_sem]
  have hle := Nat.div_le_self x y
  subst h
  generalize hq : x / y = q at hle
  have e : (x : Int) / (y : Int) = (q : Int) := by rw [← hq]; push_cast; rfl
  simp only [hy, if_false, IntKind.wrap_u64]
  unfold B at hx
  simp [e]
  omega
theorem run_andW (hx : x < B) (h : x % 4294967296 = z) : (binOp .and 53 (.int .u64 x) (.int .u64 4294967295)).run Tryz.prog w = .ok (.int .u64 (z : Int)) w := by
  have h1 : bits .and .u64 (x : Int) ((4294967295 : Nat) : Int) = ((z : Nat) : Int) := by
    unfold B at hx
    rw [bits_and_u64_nat x _ (by omega) (by omega), ← h]
    congr 1
    exact Nat.and_two_pow_sub_one_eq_mod x 32
  simp [binOp, go_sem]
  exact h1
theorem run_shlW (hs : s ≤ 64) (h : x * 2 ^ s % B = z) : (binOp .shl 53 (.int .u64 x) (.int .u64 s)).run Tryz.prog w = .ok (.int .u64 (z : Int)) w := by
  rw [binOp_shl, shift_shl .u64 .u64 (x : Int) (s : Int) (by omega) (by show _ ≤ ((64 : Nat) : Int); omega), Sem.run_pure]
  have e : ((x : Int) * 2 ^ (s : Int).toNat) = ((x * 2 ^ s : Nat) : Int) := by rw [Int.toNat_natCast]; push_cast; rfl
  rw [e, IntKind.wrap_u64]
  subst h
  unfold B
  generalize x * 2 ^ s = p
  congr 2 <;> omega
theorem run_shrW (hs : s ≤ 64) (h : x / 2 ^ s = z) : (binOp .shr 53 (.int .u64 x) (.int .u64 s)).run Tryz.prog w = .ok (.int .u64 (z : Int)) w := by
  have e : binOp .shr 53 (.int .u64 (x : Int)) (.int .u64 (s : Int)) = Op.shift .shr .u64 (x : Int) .u64 (s : Int) := rfl
  rw [e, shift_shr .u64 .u64 (x : Int) (s : Int) (by omega) (by show _ ≤ ((64 : Nat) : Int); omega), Sem.run_pure]
  have e : ((x : Int) / 2 ^ (s : Int).toNat) = ((x / 2 ^ s : Nat) : Int) := by rw [Int.toNat_natCast]; push_cast; rfl
  rw [e, h]
theorem run_orW (a : Nat) (hx : a * 2 ^ s = x) (hy : y < 2 ^ s) (hz : x + y < B) : (binOp .or 53 (.int .u64 x) (.int .u64 y)).run Tryz.prog w = .ok (.int .u64 ((x + y : Nat) : Int)) w := by
  have h1 : bits .or .u64 (x : Int) (y : Int) = ((x + y : Nat) : Int) := by
    unfold B at hz
    rw [bits_or_u64_nat x _ (by omega) (by omega)]
    congr 1
    rw [← hx, ← Nat.shiftLeft_eq, Nat.shiftLeft_add_eq_or_of_lt hy]
  simp [binOp, go_sem]
  exact h1
end
/-- The product of a guess. -/
theorem dv_id {Y v1 v0 q : Nat} (hY : Y = v1 * 4294967296 + v0) : q * Y = q * v1 * 4294967296 + q * v0 := by rw [hY, Nat.mul_add, Nat.mul_assoc]
theorem dv_big {Y u d : Nat} (hu : u < Y) (hd : d < 4294967296) : (u * 4294967296 + d) / Y < 4294967296 :=
  Nat.div_lt_of_lt_mul (by omega)
theorem dv_stop {Y v1 v0 u d q r : Nat} (hY : Y = v1 * 4294967296 + v0) (hp : 0 < Y) (h : q * v1 + r = u) (hc : q * v0 ≤ 4294967296 * r + d) : q ≤ (u * 4294967296 + d) / Y := by
  rw [Nat.le_div_iff_mul_le hp, dv_id hY]
  generalize q * v1 = p at *
  generalize q * v0 = t at *
  omega
theorem dv_step {Y v1 v0 u d q r : Nat} (hY : Y = v1 * 4294967296 + v0) (h : q * v1 + r = u) (hc : 4294967296 * r + d < q * v0) : (u * 4294967296 + d) / Y < q := by
  refine Nat.div_lt_of_lt_mul ?_
  rw [Nat.mul_comm Y q, dv_id hY]
  generalize q * v1 = p at *
  generalize q * v0 = t at *
  omega
theorem dv_break {Y v1 v0 u d q r : Nat} (hY : Y = v1 * 4294967296 + v0) (hp : 0 < Y) (hv : v0 < 4294967296) (hu : u < Y) (h : q * v1 + r = u) (hr : 4294967296 ≤ r) : q ≤ (u * 4294967296 + d) / Y := by
  have hq : q ≤ 4294967296 := by
    apply Classical.byContradiction
    intro hn
    have h1 : 4294967296 * v1 ≤ q * v1 := Nat.mul_le_mul_right _ (by omega)
    omega
  have h2 : q * v0 ≤ 4294967296 * v0 := Nat.mul_le_mul_right _ hq
  rw [Nat.le_div_iff_mul_le hp, dv_id hY]
  generalize q * v1 = p at *
  generalize q * v0 = t at *
  omega
theorem dv_start {Y v1 v0 u d : Nat} (hY : Y = v1 * 4294967296 + v0) (hd : d < 4294967296) (hv : 0 < v1) : (u * 4294967296 + d) / Y ≤ u / v1 := by
  rw [Nat.le_div_iff_mul_le hv]
  have h := Nat.div_mul_le_self (u * 4294967296 + d) Y
  rw [dv_id hY] at h
  generalize (u * 4294967296 + d) / Y = Q at *
  generalize Q * v1 = p at *
  generalize Q * v0 = t at *
  omega
theorem dv_rest0 {Y u d z1 z2 z3 P R : Nat} (h4 : P + R = u * 4294967296 + d) (h5 : R < Y) (hYB : Y ≤ B) (h1 : u * 4294967296 % B = z1) (h2 : (z1 + d) % B = z2) (h3 : P % B = z3) : (z2 + B - z3) % B = R := by
  unfold B at *
  omega
/-- What is left of a row, by words. -/
theorem dv_rest {Y u d Q z1 z2 z3 : Nat} (hQ : (u * 4294967296 + d) / Y = Q) (hYB : Y ≤ B) (hp : 0 < Y) (h1 : u * 4294967296 % B = z1) (h2 : (z1 + d) % B = z2) (h3 : Q * Y % B = z3) : (z2 + B - z3) % B = (u * 4294967296 + d) % Y := by
  have h4 := Nat.div_add_mod (u * 4294967296 + d) Y
  have h5 := Nat.mod_lt (u * 4294967296 + d) hp
  rw [hQ, Nat.mul_comm Y Q] at h4
  exact dv_rest0 h4 h5 hYB h1 h2 h3
/-- The two halves of a quotient. -/
theorem dv_halves {Y u d1 d0 Q1 R1 : Nat} (hp : 0 < Y) (hQ : (u * 4294967296 + d1) / Y = Q1) (hR : (u * 4294967296 + d1) % Y = R1) :
    (u * 18446744073709551616 + (d1 * 4294967296 + d0)) / Y = Q1 * 4294967296 + (R1 * 4294967296 + d0) / Y ∧ (u * 18446744073709551616 + (d1 * 4294967296 + d0)) % Y = (R1 * 4294967296 + d0) % Y := by
  have h4 := Nat.div_add_mod (u * 4294967296 + d1) Y
  rw [hQ, hR] at h4
  have e : u * 18446744073709551616 + (d1 * 4294967296 + d0) = (R1 * 4294967296 + d0) + Y * (Q1 * 4294967296) := by
    have e2 : Y * (Q1 * 4294967296) = Y * Q1 * 4294967296 := (Nat.mul_assoc ..).symm
    rw [e2]
    generalize Y * Q1 = P at *
    omega
  rw [e, Nat.add_mul_div_left _ _ hp, Nat.add_mul_mod_self_left]
  exact ⟨Nat.add_comm .., rfl⟩
/-- The highest bit of a number shifted up. -/
theorem lz_bounds {y : Nat} (h0 : y ≠ 0) (hy : y < B) : ∃ s : Nat, (64 - (Lib.bitLen y : Int)) = (s : Int) ∧ s ≤ 63 ∧ 9223372036854775808 ≤ y * 2 ^ s ∧ y * 2 ^ s < B := by
  obtain ⟨h1, h2, h3⟩ := Lib.bitLenAux_bounds 64 y hy h0
  have h4 : Lib.bitLen y ≤ 64 := Lib.bitLen_le y 64 (by omega) hy
  have e : Lib.bitLenAux 64 y = Lib.bitLen y := rfl
  rw [e] at h1 h2 h3
  generalize Lib.bitLen y = n at *
  refine ⟨64 - n, by omega, by omega, ?_, ?_⟩
  · have h5 := Nat.mul_le_mul_right (2 ^ (64 - n)) h2
    rw [← Nat.pow_add, show n - 1 + (64 - n) = 63 by omega] at h5
    exact h5
  · have h5 := Nat.mul_lt_mul_of_pos_right h3 (Nat.two_pow_pos (64 - n))
    rw [← Nat.pow_add, show n + (64 - n) = 64 by omega] at h5
    exact h5
/-- All that a division of two words by one writes down. -/
structure Dv (hi lo y s Y v1 v0 h1 lo1 u l d1 d0 Q1 R1 Q0 R0 : Nat) : Prop where
  hY : y * 2 ^ s % B = Y
  hYB : Y < B
  hv1 : Y / 2 ^ 32 = v1
  hv0 : Y % 4294967296 = v0
  hYe : Y = v1 * 4294967296 + v0
  v1p : 0 < v1
  v1l : v1 < 4294967296
  v0l : v0 < 4294967296
  hh1 : hi * 2 ^ s % B = h1
  hh1' : hi * 2 ^ s = h1
  hlo1 : lo / 2 ^ (64 - s) = lo1
  lo1l : lo1 < 2 ^ s
  hu : h1 + lo1 = u
  uY : u < Y
  hl : lo * 2 ^ s % B = l
  hd1 : l / 2 ^ 32 = d1
  hd0 : l % 4294967296 = d0
  lB : l < B
  d1l : d1 < 4294967296
  d0l : d0 < 4294967296
  hQ1 : (u * 4294967296 + d1) / Y = Q1
  hR1 : (u * 4294967296 + d1) % Y = R1
  hQ0 : (R1 * 4294967296 + d0) / Y = Q0
  hR0 : (R1 * 4294967296 + d0) % Y = R0
  R1Y : R1 < Y
  Q1l : Q1 < 4294967296
  Q0l : Q0 < 4294967296
  hq : (hi * 18446744073709551616 + lo) / y = Q1 * 4294967296 + Q0
  hr : (hi * 18446744073709551616 + lo) % y = R0 / 2 ^ s
theorem dv_low {lo s : Nat} (hs : s ≤ 63) (hlo : lo < B) : lo / 2 ^ (64 - s) < 2 ^ s ∧ lo * 2 ^ s = lo / 2 ^ (64 - s) * B + lo * 2 ^ s % B := by
  have e : (2 : Nat) ^ (64 - s) * 2 ^ s = B := by rw [← Nat.pow_add, show 64 - s + s = 64 by omega]; rfl
  constructor
  · refine Nat.div_lt_of_lt_mul ?_
    rw [e]; exact hlo
  · have h1 : lo * 2 ^ s / B = lo / 2 ^ (64 - s) := by rw [← e, Nat.mul_div_mul_right _ _ (Nat.two_pow_pos s)]
    rw [← h1]
    have h2 := Nat.div_add_mod (lo * 2 ^ s) B
    rw [Nat.mul_comm B] at h2
    exact h2.symm
theorem dv_nums {hi lo y s : Nat} (hs : s ≤ 63) (hh : hi < y) (hlo : lo < B) (h1 : 9223372036854775808 ≤ y * 2 ^ s) (h2 : y * 2 ^ s < B) : ∃ Y v1 v0 h1 lo1 u l d1 d0 Q1 R1 Q0 R0, Dv hi lo y s Y v1 v0 h1 lo1 u l d1 d0 Q1 R1 Q0 R0 := by
  obtain ⟨h3, h4⟩ := dv_low hs hlo
  have h5 : (hi + 1) * 2 ^ s ≤ y * 2 ^ s := Nat.mul_le_mul_right _ hh
  have e := Nat.add_mul hi 1 (2 ^ s)
  rw [Nat.one_mul] at e
  obtain ⟨Y, hY⟩ : ∃ Y, y * 2 ^ s = Y := ⟨_, rfl⟩
  obtain ⟨a, ha⟩ : ∃ a, hi * 2 ^ s = a := ⟨_, rfl⟩
  obtain ⟨b, hb⟩ : ∃ b, lo / 2 ^ (64 - s) = b := ⟨_, rfl⟩
  obtain ⟨l, hl⟩ : ∃ l, lo * 2 ^ s % B = l := ⟨_, rfl⟩
  have lB : l < B := by rw [← hl]; exact Nat.mod_lt _ B_pos
  have hys := Nat.mul_div_mul_right (hi * 18446744073709551616 + lo) y (Nat.two_pow_pos s)
  have hym := Nat.mul_mod_mul_right (2 ^ s) (hi * 18446744073709551616 + lo) y
  have hN : (hi * 18446744073709551616 + lo) * 2 ^ s = (a + b) * 18446744073709551616 + (l / 4294967296 * 4294967296 + l % 4294967296) := by
    rw [Nat.add_mul, h4, hb, hl, Nat.mul_right_comm, ha]
    unfold B
    omega
  rw [hb] at h3
  rw [ha] at e
  rw [hY] at h1 h2 h5 hys hym
  have huY : a + b < Y := by omega
  have hp : 0 < Y := by omega
  have hd1 : l / 4294967296 < 4294967296 := by unfold B at lB; omega
  have hd0 : l % 4294967296 < 4294967296 := by omega
  obtain ⟨d1, hd1e⟩ : ∃ d1, l / 4294967296 = d1 := ⟨_, rfl⟩
  obtain ⟨d0, hd0e⟩ : ∃ d0, l % 4294967296 = d0 := ⟨_, rfl⟩
  rw [hd1e, hd0e] at hN
  rw [hd1e] at hd1
  rw [hd0e] at hd0
  obtain ⟨Q1, hQ1⟩ : ∃ Q1, ((a + b) * 4294967296 + d1) / Y = Q1 := ⟨_, rfl⟩
  obtain ⟨R1, hR1⟩ : ∃ R1, ((a + b) * 4294967296 + d1) % Y = R1 := ⟨_, rfl⟩
  have hR1Y : R1 < Y := by rw [← hR1]; exact Nat.mod_lt _ hp
  have hQ1l : Q1 < 4294967296 := by rw [← hQ1]; exact dv_big huY hd1
  have hQ0l := dv_big hR1Y hd0
  obtain ⟨g1, g2⟩ := dv_halves (d0 := d0) hp hQ1 hR1
  rw [← hN] at g1 g2
  rw [hys] at g1
  rw [hym] at g2
  refine ⟨Y, Y / 4294967296, Y % 4294967296, a, b, a + b, l, d1, d0, Q1, R1, (R1 * 4294967296 + d0) / Y, (R1 * 4294967296 + d0) % Y, ?_⟩
  have hYB : Y < 18446744073709551616 := h2
  exact { hY := by rw [hY]; exact Nat.mod_eq_of_lt h2
          hYB := h2
          hv1 := rfl
          hv0 := rfl
          hYe := by omega
          v1p := by omega
          v1l := by omega
          v0l := by omega
          hh1 := by rw [ha]; exact Nat.mod_eq_of_lt (by unfold B; omega)
          hh1' := ha
          hlo1 := hb
          lo1l := h3
          hu := rfl
          uY := huY
          hl := hl
          hd1 := hd1e
          hd0 := hd0e
          lB := lB
          d1l := hd1
          d0l := hd0
          hQ1 := hQ1
          hR1 := hR1
          hQ0 := rfl
          hR0 := rfl
          R1Y := hR1Y
          Q1l := hQ1l
          Q0l := hQ0l
          hq := g1
          hr := by rw [← g2, Nat.mul_div_cancel _ (Nat.two_pow_pos s)] }
end Go.Proofs.YtkjnfobaoaaopaaGreatDoor
