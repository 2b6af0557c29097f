/- Div64: operations of words, and the plain lemmas of its two guesses. -/
import Derived.Test.YtpmlihhofmblpaaGreatDoorMb
import Derived.Lib.ItoaNum
import Derived.WalkMore
namespace Go.Proofs.YtpmlihhofmblpaaGreatDoor
open Go.RowKit Hm Wm Wn

section
variable (x y z s : Nat) (w : World)
theorem run_mulW (h : x * y % B = z) : (binOp .mul 89 (.int .u64 x) (.int .u64 y)).run Tryz.prog w = .ok (.int .u64 (z : Int)) w := by
  have e : ((x : Int) * (y : Int)) = ((x * y : Nat) : Int) := by push_cast; rfl
  simp [binOp, go_sem]
  rw [e, IntKind.wrap_u64]
  subst h
  unfold B
  generalize x * y = p
  omega
theorem run_addW (h : (x + y) % B = z) : (binOp .add 89 (.int .u64 x) (.int .u64 y)).run Tryz.prog w = .ok (.int .u64 (z : Int)) w := by
  simp [binOp, go_sem]
  rw [IntKind.wrap_u64]
  subst h
  unfold B
  omega
theorem run_subW (hy : y ≤ B) (h : (x + B - y) % B = z) : (binOp .sub 89 (.int .u64 x) (.int .u64 y)).run Tryz.prog w = .ok (.int .u64 (z : Int)) w := by
  simp [binOp, go_sem]
  rw [IntKind.wrap_u64]
  subst h
  unfold B at *
  omega
theorem run_quoW (hy : y ≠ 0) (hx : x < B) (h : x / y = z) : (binOp .quo 89 (.int .u64 x) (.int .u64 y)).run Tryz.prog w = .ok (.int .u64 (z : Int)) w := by
  simp [binOp, go_sem]
  have hle := Nat.div_le_self x y
  subst h
  generalize hq : x / y = q at hle
  have e : (x : Int) / (y : Int) = (q : Int) := by rw [← hq]; push_cast; rfl
  simp only [hy, if_false, IntKind.wrap_u64]
  unfold B at hx
  simp [e]
  omega
theorem run_andW (hx : x < B) (h : x % 4294967296 = z) : (binOp .and 89 (.int .u64 x) (.int .u64 4294967295)).run Tryz.prog w = .ok (.int .u64 (z : Int)) w := by
  have h1 : bits .and .u64 (x : Int) ((4294967295 : Nat) : Int) = ((z : Nat) : Int) := by
    unfold B at hx
    rw [bits_and_u64_nat x _ (by omega) (by omega), ← h]
    congr 1
    exact Nat.and_two_pow_sub_one_eq_mod x 32
  simp [binOp, go_sem]
  exact h1
theorem run_shlW (hs : s ≤ 64) (h : x * 2 ^ s % B = z) : (binOp .shl 89 (.int .u64 x) (.int .u64 s)).run Tryz.prog w = .ok (.int .u64 (z : Int)) w := by
  rw [binOp_shl, shift_shl .u64 .u64 (x : Int) (s : Int) (by omega) (by show _ ≤ ((64 : Nat) : Int); omega), Sem.run_pure]
  have e : ((x : Int) * 2 ^ (s : Int).toNat) = ((x * 2 ^ s : Nat) : Int) := by rw [Int.toNat_natCast]; push_cast; rfl
  rw [e, IntKind.wrap_u64]
  subst h
  unfold B
  generalize x * 2 ^ s = p
  congr 2 <;> omega
theorem run_shrW (hs : s ≤ 64) (h : x / 2 ^ s = z) : (binOp .shr 89 (.int .u64 x) (.int .u64 s)).run Tryz.prog w = .ok (.int .u64 (z : Int)) w := by
  have e : binOp .shr 89 (.int .u64 (x : Int)) (.int .u64 (s : Int)) = Op.shift .shr .u64 (x : Int) .u64 (s : Int) := rfl
  rw [e, shift_shr .u64 .u64 (x : Int) (s : Int) (by omega) (by show _ ≤ ((64 : Nat) : Int); omega), Sem.run_pure]
  have e : ((x : Int) / 2 ^ (s : Int).toNat) = ((x / 2 ^ s : Nat) : Int) := by rw [Int.toNat_natCast]; push_cast; rfl
  rw [e, h]
theorem run_orW (a : Nat) (hx : a * 2 ^ s = x) (hy : y < 2 ^ s) (hz : x + y < B) : (binOp .or 89 (.int .u64 x) (.int .u64 y)).run Tryz.prog w = .ok (.int .u64 ((x + y : Nat) : Int)) w := by
  have h1 : bits .or .u64 (x : Int) (y : Int) = ((x + y : Nat) : Int) := by
    unfold B at hz
    rw [bits_or_u64_nat x _ (by omega) (by omega)]
    congr 1
    rw [← hx, ← Nat.shiftLeft_eq, Nat.shiftLeft_add_eq_or_of_lt hy]
  simp [binOp, go_sem]
  exact h1
end
/-- The product of a guess. -/
theorem dv_id {Y v1 v0 q : Nat} (hY : Y = v1 * 4294967296 + v0) : q * Y = q * v1 * 4294967296 + q * v0 := by rw [hY, Nat.mul_add, Nat.mul_assoc]
theorem dv_big {Y u d : Nat} (hu : u < Y) (hd : d < 4294967296) : (u * 4294967296 + d) / Y < 4294967296 :=
  Nat.div_lt_of_lt_mul (by omega)
theorem dv_stop {Y v1 v0 u d q r : Nat} (hY : Y = v1 * 4294967296 + v0) (hp : 0 < Y) (h : q * v1 + r = u) (hc : q * v0 ≤ 4294967296 * r + d) : q ≤ (u * 4294967296 + d) / Y := by
  rw [Nat.le_div_iff_mul_le hp, dv_id hY]
  generalize q * v1 = p at *
  generalize q * v0 = t at *
  omega
theorem dv_step {Y v1 v0 u d q r : Nat} (hY : Y = v1 * 4294967296 + v0) (h : q * v1 + r = u) (hc : 4294967296 * r + d < q * v0) : (u * 4294967296 + d) / Y < q := by
  refine Nat.div_lt_of_lt_mul ?_
  rw [Nat.mul_comm Y q, dv_id hY]
  generalize q * v1 = p at *
  generalize q * v0 = t at *
  omega
theorem dv_break {Y v1 v0 u d q r : Nat} (hY : Y = v1 * 4294967296 + v0) (hp : 0 < Y) (hv : v0 < 4294967296) (hu : u < Y) (h : q * v1 + r = u) (hr : 4294967296 ≤ r) : q ≤ (u * 4294967296 + d) / Y := by
  have hq : q ≤ 4294967296 := by
    apply Classical.byContradiction
    intro hn
    have h1 : 4294967296 * v1 ≤ q * v1 := Nat.mul_le_mul_right _ (by omega)
    omega
  have h2 : q * v0 ≤ 4294967296 * v0 := Nat.mul_le_mul_right _ hq
  rw [Nat.le_div_iff_mul_le hp, dv_id hY]
  generalize q * v1 = p at *
  generalize q * v0 = t at *
  omega
theorem dv_start {Y v1 v0 u d : Nat} (hY : Y = v1 * 4294967296 + v0) (hd : d < 4294967296) (hv : 0 < v1) : (u * 4294967296 + d) / Y ≤ u / v1 := by
  rw [Nat.le_div_iff_mul_le hv]
  have h := Nat.div_mul_le_self (u * 4294967296 + d) Y
  rw [dv_id hY] at h
  generalize (u * 4294967296 + d) / Y = Q at *
  generalize Q * v1 = p at *
  generalize Q * v0 = t at *
  omega
theorem dv_rest0 {Y u d z1 z2 z3 P R : Nat} (h4 : P + R = u * 4294967296 + d) (h5 : R < Y) (hYB : Y ≤ B) (h1 : u * 4294967296 % B = z1) (h2 : (z1 + d) % B = z2) (h3 : P % B = z3) : (z2 + B - z3) % B = R := by
  unfold B at *
  omega
/-- What is left of a row, by words. -/
theorem dv_rest {Y u d Q z1 z2 z3 : Nat} (hQ : (u * 4294967296 + d) / Y = Q) (hYB : Y ≤ B) (hp : 0 < Y) (h1 : u * 4294967296 % B = z1) (h2 : (z1 + d) % B = z2) (h3 : Q * Y % B = z3) : (z2 + B - z3) % B = (u * 4294967296 + d) % Y := by
  have h4 := Nat.div_add_mod (u * 4294967296 + d) Y
  have h5 := Nat.mod_lt (u * 4294967296 + d) hp
  rw [hQ, Nat.mul_comm Y Q] at h4
  exact dv_rest0 h4 h5 hYB h1 h2 h3
/-- The two halves of a quotient. -/
theorem dv_halves {Y u d1 d0 Q1 R1 : Nat} (hp : 0 < Y) (hQ : (u * 4294967296 + d1) / Y = Q1) (hR : (u * 4294967296 + d1) % Y = R1) :
    (u * 18446744073709551616 + (d1 * 4294967296 + d0)) / Y = Q1 * 4294967296 + (R1 * 4294967296 + d0) / Y ∧ (u * 18446744073709551616 + (d1 * 4294967296 + d0)) % Y = (R1 * 4294967296 + d0) % Y := by
  have h4 := Nat.div_add_mod (u * 4294967296 + d1) Y
  rw [hQ, hR] at h4
  have e : u * 18446744073709551616 + (d1 * 4294967296 + d0) = (R1 * 4294967296 + d0) + Y * (Q1 * 4294967296) := by
    have e2 : Y * (Q1 * 4294967296) = Y * Q1 * 4294967296 := (Nat.mul_assoc ..).symm
    rw [e2]
    generalize Y * Q1 = P at *
    omega
  rw [e, Nat.add_mul_div_left _ _ hp, Nat.add_mul_mod_self_left]
  exact ⟨Nat.add_comm .., rfl⟩
/-- The highest bit of a number shifted up. -/
theorem lz_bounds {y : Nat} (h0 : y ≠ 0) (hy : y < B) : ∃ s : Nat, (64 - (Lib.bitLen y : Int)) = (s : Int) ∧ s ≤ 63 ∧ 9223372036854775808 ≤ y * 2 ^ s ∧ y * 2 ^ s < B := by
  obtain ⟨h1, h2, h3⟩ := Lib.bitLenAux_bounds 64 y hy h0
  have h4 : Lib.bitLen y ≤ 64 := Lib.bitLen_le y 64 (by omega) hy
  have e : Lib.bitLenAux 64 y = Lib.bitLen y := rfl
  rw [e] at h1 h2 h3
  generalize Lib.bitLen y = n at *
  refine ⟨64 - n, by omega, by omega, ?_, ?_⟩
  · have h5 := Nat.mul_le_mul_right (2 ^ (64 - n)) h2
    rw [← Nat.pow_add, show n - 1 + (64 - n) = 63 by omega] at h5
    exact h5
  · have h5 := Nat.mul_lt_mul_of_pos_right h3 (Nat.two_pow_pos (64 - n))
    rw [← Nat.pow_add, show n + (64 - n) = 64 by omega] at h5
    exact h5
/-- All that a division of two words by one writes down. -/
structure Dv (hi lo y s Y v1 v0 h1 lo1 u l d1 d0 Q1 R1 Q0 R0 : Nat) : Prop where
  hY : y * 2 ^ s % B = Y
  hYB : Y < B
  hv1 : Y / 2 ^ 32 = v1
  hv0 : Y % 4294967296 = v0
  hYe : Y = v1 * 4294967296 + v0
  v1p : 0 < v1
  v1l : v1 < 4294967296
  v0l : v0 < 4294967296
  hh1 : hi * 2 ^ s % B = h1
  hh1' : hi * 2 ^ s = h1
  hlo1 : lo / 2 ^ (64 - s) = lo1
  lo1l : lo1 < 2 ^ s
  hu : h1 + lo1 = u
  uY : u < Y
  hl : lo * 2 ^ s % B = l
  hd1 : l / 2 ^ 32 = d1
  hd0 : l % 4294967296 = d0
  lB : l < B
  d1l : d1 < 4294967296
  d0l : d0 < 4294967296
  hQ1 : (u * 4294967296 + d1) / Y = Q1
  hR1 : (u * 4294967296 + d1) % Y = R1
  hQ0 : (R1 * 4294967296 + d0) / Y = Q0
  hR0 : (R1 * 4294967296 + d0) % Y = R0
  R1Y : R1 < Y
  Q1l : Q1 < 4294967296
  Q0l : Q0 < 4294967296
  hq : (hi * 18446744073709551616 + lo) / y = Q1 * 4294967296 + Q0
  hr : (hi * 18446744073709551616 + lo) % y = R0 / 2 ^ s
theorem dv_low {lo s : Nat} (hs : s ≤ 63) (hlo : lo < B) : lo / 2 ^ (64 - s) < 2 ^ s ∧ lo * 2 ^ s = lo / 2 ^ (64 - s) * B + lo * 2 ^ s % B := by
  have e : (2 : Nat) ^ (64 - s) * 2 ^ s = B := by rw [← Nat.pow_add, show 64 - s + s = 64 by omega]; rfl
  constructor
  · refine Nat.div_lt_of_lt_mul ?_
    rw [e]; exact hlo
  · have h1 : lo * 2 ^ s / B = lo / 2 ^ (64 - s) := by rw [← e, Nat.mul_div_mul_right _ _ (Nat.two_pow_pos s)]
    rw [← h1]
    have h2 := Nat.div_add_mod (lo * 2 ^ s) B
    rw [Nat.mul_comm B] at h2
    exact h2.symm
theorem dv_nums {hi lo y s : Nat} (hs : s ≤ 63) (hh : hi < y) (hlo : lo < B) (h1 : 9223372036854775808 ≤ y * 2 ^ s) (h2 : y * 2 ^ s < B) : ∃ Y v1 v0 h1 lo1 u l d1 d0 Q1 R1 Q0 R0, Dv hi lo y s Y v1 v0 h1 lo1 u l d1 d0 Q1 R1 Q0 R0 := by
  obtain ⟨h3, h4⟩ := dv_low hs hlo
  have h5 : (hi + 1) * 2 ^ s ≤ y * 2 ^ s := Nat.mul_le_mul_right _ hh
  have e := Nat.add_mul hi 1 (2 ^ s)
  rw [Nat.one_mul] at e
  obtain ⟨Y, hY⟩ : ∃ Y, y * 2 ^ s = Y := ⟨_, rfl⟩
  obtain ⟨a, ha⟩ : ∃ a, hi * 2 ^ s = a := ⟨_, rfl⟩
  obtain ⟨b, hb⟩ : ∃ b, lo / 2 ^ (64 - s) = b := ⟨_, rfl⟩
  obtain ⟨l, hl⟩ : ∃ l, lo * 2 ^ s % B = l := ⟨_, rfl⟩
  have lB : l < B := by rw [← hl]; exact Nat.mod_lt _ B_pos
  have hys := Nat.mul_div_mul_right (hi * 18446744073709551616 + lo) y (Nat.two_pow_pos s)
  have hym := Nat.mul_mod_mul_right (2 ^ s) (hi * 18446744073709551616 + lo) y
  have hN : (hi * 18446744073709551616 + lo) * 2 ^ s = (a + b) * 18446744073709551616 + (l / 4294967296 * 4294967296 + l % 4294967296) := by
    rw [Nat.add_mul, h4, hb, hl, Nat.mul_right_comm, ha]
    unfold B
    omega
  rw [hb] at h3
  rw [ha] at e
  rw [hY] at h1 h2 h5 hys hym
  have huY : a + b < Y := by omega
  have hp : 0 < Y := by omega
  have hd1 : l / 4294967296 < 4294967296 := by unfold B at lB; omega
  have hd0 : l % 4294967296 < 4294967296 := by omega
  obtain ⟨d1, hd1e⟩ : ∃ d1, l / 4294967296 = d1 := ⟨_, rfl⟩
  obtain ⟨d0, hd0e⟩ : ∃ d0, l % 4294967296 = d0 := ⟨_, rfl⟩
  rw [hd1e, hd0e] at hN
  rw [hd1e] at hd1
  rw [hd0e] at hd0
  obtain ⟨Q1, hQ1⟩ : ∃ Q1, ((a + b) * 4294967296 + d1) / Y = Q1 := ⟨_, rfl⟩
  obtain ⟨R1, hR1⟩ : ∃ R1, ((a + b) * 4294967296 + d1) % Y = R1 := ⟨_, rfl⟩
  have hR1Y : R1 < Y := by rw [← hR1]; exact Nat.mod_lt _ hp
  have hQ1l : Q1 < 4294967296 := by rw [← hQ1]; exact dv_big huY hd1
  have hQ0l := dv_big hR1Y hd0
  obtain ⟨g1, g2⟩ := dv_halves (d0 := d0) hp hQ1 hR1
  rw [← hN] at g1 g2
  rw [hys] at g1
  rw [hym] at g2
  refine ⟨Y, Y / 4294967296, Y % 4294967296, a, b, a + b, l, d1, d0, Q1, R1, (R1 * 4294967296 + d0) / Y, (R1 * 4294967296 + d0) % Y, ?_⟩
  have hYB : Y < 18446744073709551616 := h2
  exact { hY := by rw [hY]; exact Nat.mod_eq_of_lt h2
          hYB := h2
          hv1 := rfl
          hv0 := rfl
          hYe := by omega
          v1p := by omega
          v1l := by omega
          v0l := by omega
          hh1 := by rw [ha]; exact Nat.mod_eq_of_lt (by unfold B; omega)
          hh1' := ha
          hlo1 := hb
          lo1l := h3
          hu := rfl
          uY := huY
          hl := hl
          hd1 := hd1e
          hd0 := hd0e
          lB := lB
          d1l := hd1
          d0l := hd0
          hQ1 := hQ1
          hR1 := hR1
          hQ0 := rfl
          hR0 := rfl
          R1Y := hR1Y
          Q1l := hQ1l
          Q0l := hQ0l
          hq := g1
          hr := by rw [← g2, Nat.mul_div_cancel _ (Nat.two_pow_pos s)] }
end Go.Proofs.YtpmlihhofmblpaaGreatDoor

/- Div64: the walk. -/
namespace Go.Proofs.YtpmlihhofmblpaaGreatDoor
open Go.RowKit Hm Wm Wn

theorem small_mul {a b : Nat} (ha : a < 4294967296) (hb : b < 4294967296) : a * b < 18446744073709551616 := by
  have h := Nat.mul_le_mul (Nat.le_of_lt_succ ha) (Nat.le_of_lt_succ hb)
  omega
theorem wpList_dst {w : World} {ops : Array Oper} {rest : List Oper} {o : Oper} {a : Act} {Q : Exit → Act → World → Prop} (d : Tmp) (_hd : o.dst = some d) (h : wpList Tryz.prog ops Q (o :: rest) a w) : wpList Tryz.prog ops Q (o :: rest) a w := h
/-- What stands in a guess's loop. -/
def DvR (u v1 Q : Nat) (qv rv : Value) : Prop := ∃ q r : Nat, qv = .int .u64 q ∧ rv = .int .u64 r ∧ r < 4294967296 ∧ q < 18446744073709551616 ∧ Hid (q * v1 + r = u) ∧ Hid (Q ≤ q)
theorem dv_first {u v1 Y v0 d Q : Nat} (hY : Y = v1 * 4294967296 + v0) (hd : d < 4294967296) (hv : 0 < v1) (hv2 : v1 < 4294967296) (hu : u < B) (hQ : (u * 4294967296 + d) / Y = Q) :
    ∃ q p r, u / v1 = q ∧ q * v1 % B = p ∧ (u + B - p) % B = r ∧ p ≤ B ∧ DvR u v1 Q (.int .u64 (q : Int)) (.int .u64 (r : Int)) := by
  have h1 := Nat.div_add_mod u v1
  have h2 := Nat.mod_lt u hv
  have h3 := dv_start (u := u) hY hd hv
  have h4 := Nat.div_le_self u v1
  rw [hQ] at h3
  rw [Nat.mul_comm] at h1
  generalize u / v1 = q at *
  generalize u % v1 = r at *
  have h5 : q * v1 ≤ u := by omega
  have h6 : q * v1 % B = q * v1 := Nat.mod_eq_of_lt (by omega)
  refine ⟨q, q * v1, r, rfl, h6, ?_, by omega, q, r, rfl, rfl, by omega, Nat.lt_of_le_of_lt h4 hu, Lib.hid h1, Lib.hid h3⟩
  rw [← h1, show q * v1 + r + B - q * v1 = r + B by omega, Nat.add_mod_right]
  exact Nat.mod_eq_of_lt (by omega)
set_option maxRecDepth 100000 in
set_option maxHeartbeats 400000 in
theorem div64_zero (lo y : Nat) (w : World) (hlo : lo < B) (h0 : 0 < y) :
    Calls Tryz.prog 138 #[.int .u64 0, .int .u64 lo, .int .u64 y] w fun e w' => e = .returned (.tuple #[.int .u64 (lo / y : Nat), .int .u64 (lo % y : Nat)]) ∧ Below w.heap.size w w' := by
  obtain ⟨q, hq⟩ : ∃ q, lo / y = q := ⟨_, rfl⟩
  obtain ⟨r, hr⟩ : ∃ r, lo % y = r := ⟨_, rfl⟩
  have hrm := fun W => run_remW lo y (by omega) W
  rw [hr] at hrm
  have HRM := Lib.hid hrm
  have HQM := Lib.hid (fun W => run_quoW lo y q W (by omega) hlo hq)
  have e0 : ((y : Int) == 0) = false := by simp; omega
  have e0' : decide (y = 0) = false := decide_eq_false (by omega)
  have e1 : decide ((y : Int) ≤ 0) = false := decide_eq_false (by omega)
  have e1' : decide (y ≤ 0) = false := decide_eq_false (by omega)
  rw [hq, hr]
  have HN := Lib.hid (show y ≠ 0 by omega)
  clear hq hr hrm hlo h0
  go_enter Tryz.func138, Tryz.ntmps138
  go_wp2_with fail
  refine wp_region_held_drew (S := fun W => Below w.heap.size w W) (by kernel_rfl) (Below.refl _ w).drew (fun hS => ?_)
  generalize w.drew = u0 at hS ⊢
  refine reg_takeG (i := 0) (some 28) rfl rfl rfl (by kernel_rfl) (by kernel_rfl) (by kernel_rfl) (.int .u64 lo) (fun _ _ _ h => h) (fun W hW => exec_move (.tmp 1) rfl _ rfl) hS ?_
  go_frame
  refine reg_takeG (i := 1) (some 29) rfl rfl rfl (by kernel_rfl) (by kernel_rfl) (by kernel_rfl) (.int .u64 y) (fun _ _ _ h => h) (fun W hW => exec_move (.tmp 2) rfl _ rfl) hS ?_
  go_frame
  refine reg_takeG (i := 2) (some 30) rfl rfl rfl (by kernel_rfl) (by kernel_rfl) (by kernel_rfl) (.int .u64 q) (fun _ _ _ h => h) (fun W hW => exec_bin .quo 89 _ (.tmp 28) (.tmp 29) rfl _ _ _ rfl rfl rfl (HQM.out W)) hS ?_
  go_frame
  refine reg_takeG (i := 3) (some 31) rfl rfl rfl (by kernel_rfl) (by kernel_rfl) (by kernel_rfl) (.int .u64 lo) (fun _ _ _ h => h) (fun W hW => exec_move (.tmp 1) rfl _ rfl) hS ?_
  go_frame
  refine reg_takeG (i := 4) (some 32) rfl rfl rfl (by kernel_rfl) (by kernel_rfl) (by kernel_rfl) (.int .u64 y) (fun _ _ _ h => h) (fun W hW => exec_move (.tmp 2) rfl _ rfl) hS ?_
  go_frame
  refine reg_takeG (i := 5) (some 33) rfl rfl rfl (by kernel_rfl) (by kernel_rfl) (by kernel_rfl) (.int .u64 r) (fun _ _ _ h => h) (fun W hW => exec_bin .rem 89 _ (.tmp 31) (.tmp 32) rfl _ _ _ rfl rfl rfl (HRM.out W)) hS ?_
  go_frame
  refine reg_takeG (i := 6) (some 6) rfl rfl rfl (by kernel_rfl) (by kernel_rfl) (by kernel_rfl) (.int .u64 q) (fun _ _ _ h => h) (fun W hW => exec_assign (.tmp 30) rfl _ rfl) hS ?_
  go_frame
  refine reg_takeG (i := 7) (some 7) rfl rfl rfl (by kernel_rfl) (by kernel_rfl) (by kernel_rfl) (.int .u64 r) (fun _ _ _ h => h) (fun W hW => exec_assign (.tmp 33) rfl _ rfl) hS ?_
  go_frame
  refine wpAnyH_done (by kernel_rfl) ?_ _
  have HS := Lib.hid hS
  clear hS
  go_wp2
  go_ret2
  exact ⟨rfl, HS.out⟩
set_option maxRecDepth 100000 in
set_option maxHeartbeats 8000000 in
theorem div64_pos (hi lo y : Nat) (w : World) (hy : y < B) (hh : hi < y) (hlo : lo < B) (h0 : 0 < hi) :
    Calls Tryz.prog 138 #[.int .u64 hi, .int .u64 lo, .int .u64 y] w fun e w' => e = .returned (.tuple #[.int .u64 ((hi * 18446744073709551616 + lo) / y : Nat), .int .u64 ((hi * 18446744073709551616 + lo) % y : Nat)]) ∧ w' = w := by
  obtain ⟨s, hs0, hs, hb1, hb2⟩ := lz_bounds (y := y) (by omega) hy
  obtain ⟨Y, v1, v0, a1, lo1, u, l, d1, d0, Q1, R1, Q0, R0, D⟩ := dv_nums hs hh hlo hb1 hb2
  have hLZ := Tryz.bits_LeadingZeros64 (y : Int) w (by omega) (by unfold B at hy; omega)
  rw [Int.toNat_natCast, hs0] at hLZ
  have HLZ := Lib.hid hLZ
  have hYB := D.hYB
  have hpo : 0 < Y := by have := D.uY; omega
  have huB : u < B := Nat.lt_trans D.uY D.hYB
  have hRB : R1 < B := Nat.lt_trans D.R1Y D.hYB
  have HPO := Lib.hid hpo
  have HY := Lib.hid (fun W => run_shlW y Y s W (by omega) D.hY)
  have HV1 := Lib.hid (fun W => show (binOp .shr 89 (.int .u64 Y) (.int .u64 32)).run Tryz.prog W = _ from run_shrW Y v1 32 W (by omega) D.hv1)
  have HV0 := Lib.hid (fun W => run_andW Y v0 W D.hYB D.hv0)
  have HH1 := Lib.hid (fun W => run_shlW hi a1 s W (by omega) D.hh1)
  have HLO := Lib.hid (fun W => show (binOp .shr 89 (.int .u64 lo) (.int .u64 (64 - (s : Int)))).run Tryz.prog W = .ok (.int .u64 (lo1 : Int)) W by rw [show 64 - (s : Int) = ((64 - s : Nat) : Int) by omega]; exact run_shrW lo lo1 (64 - s) W (by omega) D.hlo1)
  have hor := fun W => run_orW a1 lo1 s W hi D.hh1' D.lo1l (by have := D.hu; omega)
  rw [D.hu] at hor
  have HOR := Lib.hid hor
  have HL := Lib.hid (fun W => run_shlW lo l s W (by omega) D.hl)
  have HD1 := Lib.hid (fun W => show (binOp .shr 89 (.int .u64 l) (.int .u64 32)).run Tryz.prog W = _ from run_shrW l d1 32 W (by omega) D.hd1)
  have HD0 := Lib.hid (fun W => run_andW l d0 W D.lB D.hd0)
  obtain ⟨q, p, r, hg1, hg2, hg3, hg4, start1⟩ := dv_first D.hYe D.d1l D.v1p D.v1l huB D.hQ1
  have HG := Lib.hid (fun W => run_quoW u v1 q W (by have := D.v1p; omega) huB hg1)
  have HP := Lib.hid (fun W => run_mulW q v1 p W hg2)
  have HR := Lib.hid (fun W => run_subW u p r W hg4 hg3)
  obtain ⟨q2, p2, r2, hg5, hg6, hg7, hg8, start2⟩ := dv_first D.hYe D.d0l D.v1p D.v1l hRB D.hQ0
  have HG2 := Lib.hid (fun W => run_quoW R1 v1 q2 W (by have := D.v1p; omega) hRB hg5)
  have HP2 := Lib.hid (fun W => run_mulW q2 v1 p2 W hg6)
  have HR2 := Lib.hid (fun W => run_subW R1 p2 r2 W hg8 hg7)
  obtain ⟨z1, hz1⟩ : ∃ z, u * 4294967296 % B = z := ⟨_, rfl⟩
  obtain ⟨z2, hz2⟩ : ∃ z, (z1 + d1) % B = z := ⟨_, rfl⟩
  obtain ⟨z3, hz3⟩ : ∃ z, Q1 * Y % B = z := ⟨_, rfl⟩
  have hzr := dv_rest D.hQ1 (Nat.le_of_lt D.hYB) hpo hz1 hz2 hz3
  rw [D.hR1] at hzr
  have HZ1 := Lib.hid (fun W => show (binOp .mul 89 (.int .u64 u) (.int .u64 4294967296)).run Tryz.prog W = _ from run_mulW u 4294967296 z1 W hz1)
  have HZ2 := Lib.hid (fun W => run_addW z1 d1 z2 W hz2)
  have HZ3 := Lib.hid (fun W => run_mulW Q1 Y z3 W hz3)
  have HZR := Lib.hid (fun W => run_subW z2 z3 R1 W (by rw [← hz3]; exact Nat.le_of_lt (Nat.mod_lt _ B_pos)) hzr)
  obtain ⟨z4, hz4⟩ : ∃ z, R1 * 4294967296 % B = z := ⟨_, rfl⟩
  obtain ⟨z5, hz5⟩ : ∃ z, (z4 + d0) % B = z := ⟨_, rfl⟩
  obtain ⟨z7, hz7⟩ : ∃ z, Q0 * Y % B = z := ⟨_, rfl⟩
  have hz0 := dv_rest D.hQ0 (Nat.le_of_lt D.hYB) hpo hz4 hz5 hz7
  rw [D.hR0] at hz0
  have HZ4 := Lib.hid (fun W => show (binOp .mul 89 (.int .u64 R1) (.int .u64 4294967296)).run Tryz.prog W = _ from run_mulW R1 4294967296 z4 W hz4)
  have HZ5 := Lib.hid (fun W => run_addW z4 d0 z5 W hz5)
  have HZ7 := Lib.hid (fun W => run_mulW Q0 Y z7 W hz7)
  have HZ0 := Lib.hid (fun W => run_subW z5 z7 R0 W (by rw [← hz7]; exact Nat.le_of_lt (Nat.mod_lt _ B_pos)) hz0)
  obtain ⟨z6, hz6⟩ : ∃ z, Q1 * 4294967296 = z := ⟨_, rfl⟩
  obtain ⟨qq, hqq⟩ : ∃ z, z6 + Q0 = z := ⟨_, rfl⟩
  obtain ⟨rr, hrr⟩ : ∃ z, R0 / 2 ^ s = z := ⟨_, rfl⟩
  have hQ1l := D.Q1l
  have hQ0l := D.Q0l
  have HZ6 := Lib.hid (fun W => show (binOp .mul 89 (.int .u64 Q1) (.int .u64 4294967296)).run Tryz.prog W = _ from run_mulW Q1 4294967296 z6 W (by rw [hz6]; unfold B; omega))
  have HQQ := Lib.hid (fun W => run_addW z6 Q0 qq W (by rw [hqq]; unfold B; omega))
  have HRR := Lib.hid (fun W => run_shrW R0 rr s W (by omega) hrr)
  have hq1 := D.hq
  have hr1 := D.hr
  rw [hz6, hqq] at hq1
  rw [hrr] at hr1
  rw [hq1, hr1]
  have START1 := Lib.hid start1
  have START2 := Lib.hid start2
  have DD := Lib.hid D
  have e0 : ((y : Int) == 0) = false := by simp; omega
  have e0' : decide (y = 0) = false := decide_eq_false (by omega)
  have f1 : decide ((y : Int) ≤ (hi : Int)) = false := decide_eq_false (by omega)
  have f1' : decide (y ≤ hi) = false := decide_eq_false (by omega)
  have f2 : ((hi : Int) == 0) = false := by simp; omega
  have f2' : decide (hi = 0) = false := decide_eq_false (by omega)
  have HN := Lib.hid (show y ≠ 0 ∧ hi ≠ 0 by omega)
  clear hs0 hb1 hb2 D hLZ hYB hpo huB hRB hor hg1 hg2 hg3 hg4 start1 hg5 hg6 hg7 hg8 start2 hz1 hz2 hz3 hzr hz4 hz5 hz7 hz0 hz6 hqq hrr hQ1l hQ0l hq1 hr1 hy hh hlo h0
  go_enter Tryz.func138, Tryz.ntmps138
  go_wp2_with fail
  refine HLZ.out.mono ?_
  rintro e w' ⟨rfl, rfl⟩
  go_wp2_with (first | (refine wpList_dst 39 rfl ?_; refine wpList_run 39 rfl rfl _ (exec_bin .shl 89 _ (.tmp 37) (.tmp 38) rfl _ _ _ rfl rfl rfl (HY.out _)) ?_) | (refine wpList_dst 41 rfl ?_; refine wpList_run 41 rfl rfl _ (exec_bin .shr 89 _ (.tmp 40) (.const (.int .u64 32)) rfl _ _ _ rfl rfl rfl (HV1.out _)) ?_) | (refine wpList_dst 43 rfl ?_; refine wpList_run 43 rfl rfl _ (exec_bin .and 89 _ (.tmp 42) (.const (.int .u64 4294967295)) rfl _ _ _ rfl rfl rfl (HV0.out _)) ?_) | (refine wpList_dst 46 rfl ?_; refine wpList_run 46 rfl rfl _ (exec_bin .shl 89 _ (.tmp 44) (.tmp 45) rfl _ _ _ rfl rfl rfl (HH1.out _)) ?_) | (refine wpList_dst 50 rfl ?_; refine wpList_run 50 rfl rfl _ (exec_bin .shr 89 _ (.tmp 47) (.tmp 49) rfl _ _ _ rfl rfl rfl (HLO.out _)) ?_) | (refine wpList_dst 51 rfl ?_; refine wpList_run 51 rfl rfl _ (exec_bin .or 89 _ (.tmp 46) (.tmp 50) rfl _ _ _ rfl rfl rfl (HOR.out _)) ?_) | (refine wpList_dst 54 rfl ?_; refine wpList_run 54 rfl rfl _ (exec_bin .shl 89 _ (.tmp 52) (.tmp 53) rfl _ _ _ rfl rfl rfl (HL.out _)) ?_) | (refine wpList_dst 56 rfl ?_; refine wpList_run 56 rfl rfl _ (exec_bin .shr 89 _ (.tmp 55) (.const (.int .u64 32)) rfl _ _ _ rfl rfl rfl (HD1.out _)) ?_) | (refine wpList_dst 58 rfl ?_; refine wpList_run 58 rfl rfl _ (exec_bin .and 89 _ (.tmp 57) (.const (.int .u64 4294967295)) rfl _ _ _ rfl rfl rfl (HD0.out _)) ?_) | (refine wpList_dst 61 rfl ?_; refine wpList_run 61 rfl rfl _ (exec_bin .quo 89 _ (.tmp 59) (.tmp 60) rfl _ _ _ rfl rfl rfl (HG.out _)) ?_) | (refine wpList_dst 65 rfl ?_; refine wpList_run 65 rfl rfl _ (exec_bin .mul 89 _ (.tmp 63) (.tmp 64) rfl _ _ _ rfl rfl rfl (HP.out _)) ?_) | (refine wpList_dst 66 rfl ?_; refine wpList_run 66 rfl rfl _ (exec_bin .sub 89 _ (.tmp 62) (.tmp 65) rfl _ _ _ rfl rfl rfl (HR.out _)) ?_))
  go_loop [15, 16] (DvR u v1 Q1) (fun qv _ => (intOf qv).toNat)
  case atStart => exact START1.out
  case round =>
    obtain ⟨q, r, rfl, rfl, hr, hqB, HE, HQ⟩ := hrel
    by_cases hb : 4294967296 ≤ q
    · have e1 : decide ((4294967296 : Int) ≤ (q : Int)) = true := decide_eq_true (by omega)
      have e1' : decide (4294967296 ≤ q) = true := decide_eq_true hb
      obtain ⟨q', hq'⟩ : ∃ q', q = q' + 1 := ⟨q - 1, by omega⟩
      have hst : Q1 ≤ q' := by have := DD.out.Q1l; omega
      obtain ⟨r', hr'⟩ : ∃ r', r + v1 = r' := ⟨_, rfl⟩
      have HS := Lib.hid (fun W => run_subW q 1 q' W (by unfold B; omega) (by unfold B; omega))
      have HA2 := Lib.hid (fun W => run_addW r v1 r' W (by have := DD.out.v1l; unfold B; omega))
      have hE2 : q' * v1 + r' = u := by have h := HE.out; rw [hq', Nat.add_mul, Nat.one_mul] at h; omega
      by_cases hk : 4294967296 ≤ r'
      · have e3 : decide ((4294967296 : Int) ≤ (r' : Int)) = true := decide_eq_true (by omega)
        have e3' : decide (4294967296 ≤ r') = true := decide_eq_true hk
        have hq3 := dv_break (d := d1) DD.out.hYe HPO.out DD.out.v0l DD.out.uY hE2 hk
        rw [DD.out.hQ1] at hq3
        obtain rfl : q' = Q1 := Nat.le_antisymm hq3 hst
        clear hq' hr' hE2 hk hst hq3 HE HQ
        go_wp2_with (first | (refine wpList_dst 80 rfl ?_; refine wpList_run 80 rfl rfl _ (exec_bin .sub 89 _ (.tmp 79) (.const (.int .u64 1)) rfl _ _ _ rfl rfl rfl (HS.out _)) ?_) | (refine wpList_dst 83 rfl ?_; refine wpList_run 83 rfl rfl _ (exec_bin .add 89 _ (.tmp 81) (.tmp 82) rfl _ _ _ rfl rfl rfl (HA2.out _)) ?_) | (refine wpList_dst 87 rfl ?_; refine wpList_run 87 rfl rfl _ (exec_bin .mul 89 _ (.tmp 86) (.const (.int .u64 4294967296)) rfl _ _ _ rfl rfl rfl (HZ1.out _)) ?_) | (refine wpList_dst 89 rfl ?_; refine wpList_run 89 rfl rfl _ (exec_bin .add 89 _ (.tmp 87) (.tmp 88) rfl _ _ _ rfl rfl rfl (HZ2.out _)) ?_) | (refine wpList_dst 92 rfl ?_; refine wpList_run 92 rfl rfl _ (exec_bin .mul 89 _ (.tmp 90) (.tmp 91) rfl _ _ _ rfl rfl rfl (HZ3.out _)) ?_) | (refine wpList_dst 93 rfl ?_; refine wpList_run 93 rfl rfl _ (exec_bin .sub 89 _ (.tmp 89) (.tmp 92) rfl _ _ _ rfl rfl rfl (HZR.out _)) ?_) | (refine wpList_dst 96 rfl ?_; refine wpList_run 96 rfl rfl _ (exec_bin .quo 89 _ (.tmp 94) (.tmp 95) rfl _ _ _ rfl rfl rfl (HG2.out _)) ?_) | (refine wpList_dst 100 rfl ?_; refine wpList_run 100 rfl rfl _ (exec_bin .mul 89 _ (.tmp 98) (.tmp 99) rfl _ _ _ rfl rfl rfl (HP2.out _)) ?_) | (refine wpList_dst 101 rfl ?_; refine wpList_run 101 rfl rfl _ (exec_bin .sub 89 _ (.tmp 97) (.tmp 100) rfl _ _ _ rfl rfl rfl (HR2.out _)) ?_))
        go_loop [18, 16] (DvR R1 v1 Q0) (fun qv _ => (intOf qv).toNat)
        case atStart => exact START2.out
        case round =>
          obtain ⟨q, r, rfl, rfl, hr, hqB, HE, HQ⟩ := hrel
          by_cases hb : 4294967296 ≤ q
          · have e1 : decide ((4294967296 : Int) ≤ (q : Int)) = true := decide_eq_true (by omega)
            have e1' : decide (4294967296 ≤ q) = true := decide_eq_true hb
            obtain ⟨q', hq'⟩ : ∃ q', q = q' + 1 := ⟨q - 1, by omega⟩
            have hst : Q0 ≤ q' := by have := DD.out.Q0l; omega
            obtain ⟨r', hr'⟩ : ∃ r', r + v1 = r' := ⟨_, rfl⟩
            have HS := Lib.hid (fun W => run_subW q 1 q' W (by unfold B; omega) (by unfold B; omega))
            have HA2 := Lib.hid (fun W => run_addW r v1 r' W (by have := DD.out.v1l; unfold B; omega))
            have hE2 : q' * v1 + r' = R1 := by have h := HE.out; rw [hq', Nat.add_mul, Nat.one_mul] at h; omega
            by_cases hk : 4294967296 ≤ r'
            · have e3 : decide ((4294967296 : Int) ≤ (r' : Int)) = true := decide_eq_true (by omega)
              have e3' : decide (4294967296 ≤ r') = true := decide_eq_true hk
              have hq3 := dv_break (d := d0) DD.out.hYe HPO.out DD.out.v0l DD.out.R1Y hE2 hk
              rw [DD.out.hQ0] at hq3
              obtain rfl : q' = Q0 := Nat.le_antisymm hq3 hst
              clear hq' hr' hE2 hk hst hq3 HE HQ
              go_wp2_with (first | (refine wpList_dst 115 rfl ?_; refine wpList_run 115 rfl rfl _ (exec_bin .sub 89 _ (.tmp 114) (.const (.int .u64 1)) rfl _ _ _ rfl rfl rfl (HS.out _)) ?_) | (refine wpList_dst 118 rfl ?_; refine wpList_run 118 rfl rfl _ (exec_bin .add 89 _ (.tmp 116) (.tmp 117) rfl _ _ _ rfl rfl rfl (HA2.out _)) ?_) | (refine wpList_dst 122 rfl ?_; refine wpList_run 122 rfl rfl _ (exec_bin .mul 89 _ (.tmp 121) (.const (.int .u64 4294967296)) rfl _ _ _ rfl rfl rfl (HZ6.out _)) ?_) | (refine wpList_dst 124 rfl ?_; refine wpList_run 124 rfl rfl _ (exec_bin .add 89 _ (.tmp 122) (.tmp 123) rfl _ _ _ rfl rfl rfl (HQQ.out _)) ?_) | (refine wpList_dst 126 rfl ?_; refine wpList_run 126 rfl rfl _ (exec_bin .mul 89 _ (.tmp 125) (.const (.int .u64 4294967296)) rfl _ _ _ rfl rfl rfl (HZ4.out _)) ?_) | (refine wpList_dst 128 rfl ?_; refine wpList_run 128 rfl rfl _ (exec_bin .add 89 _ (.tmp 126) (.tmp 127) rfl _ _ _ rfl rfl rfl (HZ5.out _)) ?_) | (refine wpList_dst 131 rfl ?_; refine wpList_run 131 rfl rfl _ (exec_bin .mul 89 _ (.tmp 129) (.tmp 130) rfl _ _ _ rfl rfl rfl (HZ7.out _)) ?_) | (refine wpList_dst 132 rfl ?_; refine wpList_run 132 rfl rfl _ (exec_bin .sub 89 _ (.tmp 128) (.tmp 131) rfl _ _ _ rfl rfl rfl (HZ0.out _)) ?_) | (refine wpList_dst 134 rfl ?_; refine wpList_run 134 rfl rfl _ (exec_bin .shr 89 _ (.tmp 132) (.tmp 133) rfl _ _ _ rfl rfl rfl (HRR.out _)) ?_))
              go_ret2
              exact ⟨rfl, rfl⟩
            · have e3 : decide ((4294967296 : Int) ≤ (r' : Int)) = false := decide_eq_false (by omega)
              have e3' : decide (4294967296 ≤ r') = false := decide_eq_false hk
              have HE2 := Lib.hid hE2
              have HST := Lib.hid hst
              have HRB := Lib.hid (show r' < 4294967296 by omega)
              have HQ2 := Lib.hid hq'
              clear hq' hr' hE2 hst hk HE HQ
              go_wp2_with (first | (refine wpList_dst 115 rfl ?_; refine wpList_run 115 rfl rfl _ (exec_bin .sub 89 _ (.tmp 114) (.const (.int .u64 1)) rfl _ _ _ rfl rfl rfl (HS.out _)) ?_) | (refine wpList_dst 118 rfl ?_; refine wpList_run 118 rfl rfl _ (exec_bin .add 89 _ (.tmp 116) (.tmp 117) rfl _ _ _ rfl rfl rfl (HA2.out _)) ?_))
              go_round
              case rel => exact ⟨q', r', rfl, rfl, HRB.out, by have := HQ2.out; omega, HE2, HST⟩
              case measure => have := HQ2.out; simp [intOf]; omega
          · have e1 : decide ((4294967296 : Int) ≤ (q : Int)) = false := decide_eq_false (by omega)
            have e1' : decide (4294967296 ≤ q) = false := decide_eq_false hb
            obtain ⟨z, hz⟩ : ∃ z, q * v0 = z := ⟨_, rfl⟩
            obtain ⟨g0, hg0⟩ : ∃ g0, 4294967296 * r = g0 := ⟨_, rfl⟩
            obtain ⟨g, hg⟩ : ∃ g, g0 + d0 = g := ⟨_, rfl⟩
            have hzB : z < 18446744073709551616 := by rw [← hz]; exact small_mul (by omega) DD.out.v0l
            have hgB : g < 18446744073709551616 := by have := DD.out.d0l; omega
            have HM := Lib.hid (fun W => run_mulW q v0 z W (by rw [hz]; exact Nat.mod_eq_of_lt hzB))
            have HM2 := Lib.hid (fun W => show (binOp .mul 89 (.int .u64 4294967296) (.int .u64 r)).run Tryz.prog W = _ from run_mulW 4294967296 r g0 W (by rw [hg0]; unfold B; omega))
            have HA := Lib.hid (fun W => run_addW g0 d0 g W (by rw [hg]; exact Nat.mod_eq_of_lt hgB))
            by_cases hc : g < z
            · have e2 : decide ((g : Int) < (z : Int)) = true := decide_eq_true (by omega)
              have e2' : decide (g < z) = true := decide_eq_true hc
              have hst0 := dv_step (d := d0) DD.out.hYe HE.out (by omega)
              rw [DD.out.hQ0] at hst0
              obtain ⟨q', hq'⟩ : ∃ q', q = q' + 1 := ⟨q - 1, by omega⟩
              have hst : Q0 ≤ q' := by omega
              clear hst0 hz hg0 hg hzB hgB
              obtain ⟨r', hr'⟩ : ∃ r', r + v1 = r' := ⟨_, rfl⟩
              have HS := Lib.hid (fun W => run_subW q 1 q' W (by unfold B; omega) (by unfold B; omega))
              have HA2 := Lib.hid (fun W => run_addW r v1 r' W (by have := DD.out.v1l; unfold B; omega))
              have hE2 : q' * v1 + r' = R1 := by have h := HE.out; rw [hq', Nat.add_mul, Nat.one_mul] at h; omega
              by_cases hk : 4294967296 ≤ r'
              · have e3 : decide ((4294967296 : Int) ≤ (r' : Int)) = true := decide_eq_true (by omega)
                have e3' : decide (4294967296 ≤ r') = true := decide_eq_true hk
                have hq3 := dv_break (d := d0) DD.out.hYe HPO.out DD.out.v0l DD.out.R1Y hE2 hk
                rw [DD.out.hQ0] at hq3
                obtain rfl : q' = Q0 := Nat.le_antisymm hq3 hst
                clear hq' hr' hE2 hk hst hq3 HE HQ hc
                go_wp2_with (first | (refine wpList_dst 107 rfl ?_; refine wpList_runG 107 rfl rfl _ (exec_bin .mul 89 _ (.tmp 105) (.tmp 106) rfl _ _ _ rfl rfl rfl (HM.out _)) ?_) | (refine wpList_dst 109 rfl ?_; refine wpList_runG 109 rfl rfl _ (exec_bin .mul 89 _ (.const (.int .u64 4294967296)) (.tmp 108) rfl _ _ _ rfl rfl rfl (HM2.out _)) ?_) | (refine wpList_dst 111 rfl ?_; refine wpList_runG 111 rfl rfl _ (exec_bin .add 89 _ (.tmp 109) (.tmp 110) rfl _ _ _ rfl rfl rfl (HA.out _)) ?_) | (refine wpList_dst 115 rfl ?_; refine wpList_run 115 rfl rfl _ (exec_bin .sub 89 _ (.tmp 114) (.const (.int .u64 1)) rfl _ _ _ rfl rfl rfl (HS.out _)) ?_) | (refine wpList_dst 118 rfl ?_; refine wpList_run 118 rfl rfl _ (exec_bin .add 89 _ (.tmp 116) (.tmp 117) rfl _ _ _ rfl rfl rfl (HA2.out _)) ?_) | (refine wpList_dst 122 rfl ?_; refine wpList_run 122 rfl rfl _ (exec_bin .mul 89 _ (.tmp 121) (.const (.int .u64 4294967296)) rfl _ _ _ rfl rfl rfl (HZ6.out _)) ?_) | (refine wpList_dst 124 rfl ?_; refine wpList_run 124 rfl rfl _ (exec_bin .add 89 _ (.tmp 122) (.tmp 123) rfl _ _ _ rfl rfl rfl (HQQ.out _)) ?_) | (refine wpList_dst 126 rfl ?_; refine wpList_run 126 rfl rfl _ (exec_bin .mul 89 _ (.tmp 125) (.const (.int .u64 4294967296)) rfl _ _ _ rfl rfl rfl (HZ4.out _)) ?_) | (refine wpList_dst 128 rfl ?_; refine wpList_run 128 rfl rfl _ (exec_bin .add 89 _ (.tmp 126) (.tmp 127) rfl _ _ _ rfl rfl rfl (HZ5.out _)) ?_) | (refine wpList_dst 131 rfl ?_; refine wpList_run 131 rfl rfl _ (exec_bin .mul 89 _ (.tmp 129) (.tmp 130) rfl _ _ _ rfl rfl rfl (HZ7.out _)) ?_) | (refine wpList_dst 132 rfl ?_; refine wpList_run 132 rfl rfl _ (exec_bin .sub 89 _ (.tmp 128) (.tmp 131) rfl _ _ _ rfl rfl rfl (HZ0.out _)) ?_) | (refine wpList_dst 134 rfl ?_; refine wpList_run 134 rfl rfl _ (exec_bin .shr 89 _ (.tmp 132) (.tmp 133) rfl _ _ _ rfl rfl rfl (HRR.out _)) ?_))
                go_ret2
                exact ⟨rfl, rfl⟩
              · have e3 : decide ((4294967296 : Int) ≤ (r' : Int)) = false := decide_eq_false (by omega)
                have e3' : decide (4294967296 ≤ r') = false := decide_eq_false hk
                have HE2 := Lib.hid hE2
                have HST := Lib.hid hst
                have HRB := Lib.hid (show r' < 4294967296 by omega)
                have HQ2 := Lib.hid hq'
                clear hq' hr' hE2 hst hk HE HQ hc
                go_wp2_with (first | (refine wpList_dst 107 rfl ?_; refine wpList_runG 107 rfl rfl _ (exec_bin .mul 89 _ (.tmp 105) (.tmp 106) rfl _ _ _ rfl rfl rfl (HM.out _)) ?_) | (refine wpList_dst 109 rfl ?_; refine wpList_runG 109 rfl rfl _ (exec_bin .mul 89 _ (.const (.int .u64 4294967296)) (.tmp 108) rfl _ _ _ rfl rfl rfl (HM2.out _)) ?_) | (refine wpList_dst 111 rfl ?_; refine wpList_runG 111 rfl rfl _ (exec_bin .add 89 _ (.tmp 109) (.tmp 110) rfl _ _ _ rfl rfl rfl (HA.out _)) ?_) | (refine wpList_dst 115 rfl ?_; refine wpList_run 115 rfl rfl _ (exec_bin .sub 89 _ (.tmp 114) (.const (.int .u64 1)) rfl _ _ _ rfl rfl rfl (HS.out _)) ?_) | (refine wpList_dst 118 rfl ?_; refine wpList_run 118 rfl rfl _ (exec_bin .add 89 _ (.tmp 116) (.tmp 117) rfl _ _ _ rfl rfl rfl (HA2.out _)) ?_))
                go_round
                case rel => exact ⟨q', r', rfl, rfl, HRB.out, by have := HQ2.out; omega, HE2, HST⟩
                case measure => have := HQ2.out; simp [intOf]; omega
            · have e2 : decide ((g : Int) < (z : Int)) = false := decide_eq_false (by omega)
              have e2' : decide (g < z) = false := decide_eq_false hc
              have hq3 := dv_stop (d := d0) DD.out.hYe HPO.out HE.out (by omega)
              rw [DD.out.hQ0] at hq3
              obtain rfl : q = Q0 := Nat.le_antisymm hq3 HQ.out
              clear hz hg0 hg hzB hgB hc hq3 HE HQ
              go_wp2_with (first | (refine wpList_dst 107 rfl ?_; refine wpList_runG 107 rfl rfl _ (exec_bin .mul 89 _ (.tmp 105) (.tmp 106) rfl _ _ _ rfl rfl rfl (HM.out _)) ?_) | (refine wpList_dst 109 rfl ?_; refine wpList_runG 109 rfl rfl _ (exec_bin .mul 89 _ (.const (.int .u64 4294967296)) (.tmp 108) rfl _ _ _ rfl rfl rfl (HM2.out _)) ?_) | (refine wpList_dst 111 rfl ?_; refine wpList_runG 111 rfl rfl _ (exec_bin .add 89 _ (.tmp 109) (.tmp 110) rfl _ _ _ rfl rfl rfl (HA.out _)) ?_) | (refine wpList_dst 122 rfl ?_; refine wpList_run 122 rfl rfl _ (exec_bin .mul 89 _ (.tmp 121) (.const (.int .u64 4294967296)) rfl _ _ _ rfl rfl rfl (HZ6.out _)) ?_) | (refine wpList_dst 124 rfl ?_; refine wpList_run 124 rfl rfl _ (exec_bin .add 89 _ (.tmp 122) (.tmp 123) rfl _ _ _ rfl rfl rfl (HQQ.out _)) ?_) | (refine wpList_dst 126 rfl ?_; refine wpList_run 126 rfl rfl _ (exec_bin .mul 89 _ (.tmp 125) (.const (.int .u64 4294967296)) rfl _ _ _ rfl rfl rfl (HZ4.out _)) ?_) | (refine wpList_dst 128 rfl ?_; refine wpList_run 128 rfl rfl _ (exec_bin .add 89 _ (.tmp 126) (.tmp 127) rfl _ _ _ rfl rfl rfl (HZ5.out _)) ?_) | (refine wpList_dst 131 rfl ?_; refine wpList_run 131 rfl rfl _ (exec_bin .mul 89 _ (.tmp 129) (.tmp 130) rfl _ _ _ rfl rfl rfl (HZ7.out _)) ?_) | (refine wpList_dst 132 rfl ?_; refine wpList_run 132 rfl rfl _ (exec_bin .sub 89 _ (.tmp 128) (.tmp 131) rfl _ _ _ rfl rfl rfl (HZ0.out _)) ?_) | (refine wpList_dst 134 rfl ?_; refine wpList_run 134 rfl rfl _ (exec_bin .shr 89 _ (.tmp 132) (.tmp 133) rfl _ _ _ rfl rfl rfl (HRR.out _)) ?_))
              go_ret2
              exact ⟨rfl, rfl⟩
      · have e3 : decide ((4294967296 : Int) ≤ (r' : Int)) = false := decide_eq_false (by omega)
        have e3' : decide (4294967296 ≤ r') = false := decide_eq_false hk
        have HE2 := Lib.hid hE2
        have HST := Lib.hid hst
        have HRB := Lib.hid (show r' < 4294967296 by omega)
        have HQ2 := Lib.hid hq'
        clear hq' hr' hE2 hst hk HE HQ
        go_wp2_with (first | (refine wpList_dst 80 rfl ?_; refine wpList_run 80 rfl rfl _ (exec_bin .sub 89 _ (.tmp 79) (.const (.int .u64 1)) rfl _ _ _ rfl rfl rfl (HS.out _)) ?_) | (refine wpList_dst 83 rfl ?_; refine wpList_run 83 rfl rfl _ (exec_bin .add 89 _ (.tmp 81) (.tmp 82) rfl _ _ _ rfl rfl rfl (HA2.out _)) ?_))
        go_round
        case rel => exact ⟨q', r', rfl, rfl, HRB.out, by have := HQ2.out; omega, HE2, HST⟩
        case measure => have := HQ2.out; simp [intOf]; omega
    · have e1 : decide ((4294967296 : Int) ≤ (q : Int)) = false := decide_eq_false (by omega)
      have e1' : decide (4294967296 ≤ q) = false := decide_eq_false hb
      obtain ⟨z, hz⟩ : ∃ z, q * v0 = z := ⟨_, rfl⟩
      obtain ⟨g0, hg0⟩ : ∃ g0, 4294967296 * r = g0 := ⟨_, rfl⟩
      obtain ⟨g, hg⟩ : ∃ g, g0 + d1 = g := ⟨_, rfl⟩
      have hzB : z < 18446744073709551616 := by rw [← hz]; exact small_mul (by omega) DD.out.v0l
      have hgB : g < 18446744073709551616 := by have := DD.out.d1l; omega
      have HM := Lib.hid (fun W => run_mulW q v0 z W (by rw [hz]; exact Nat.mod_eq_of_lt hzB))
      have HM2 := Lib.hid (fun W => show (binOp .mul 89 (.int .u64 4294967296) (.int .u64 r)).run Tryz.prog W = _ from run_mulW 4294967296 r g0 W (by rw [hg0]; unfold B; omega))
      have HA := Lib.hid (fun W => run_addW g0 d1 g W (by rw [hg]; exact Nat.mod_eq_of_lt hgB))
      by_cases hc : g < z
      · have e2 : decide ((g : Int) < (z : Int)) = true := decide_eq_true (by omega)
        have e2' : decide (g < z) = true := decide_eq_true hc
        have hst0 := dv_step (d := d1) DD.out.hYe HE.out (by omega)
        rw [DD.out.hQ1] at hst0
        obtain ⟨q', hq'⟩ : ∃ q', q = q' + 1 := ⟨q - 1, by omega⟩
        have hst : Q1 ≤ q' := by omega
        clear hst0 hz hg0 hg hzB hgB
        obtain ⟨r', hr'⟩ : ∃ r', r + v1 = r' := ⟨_, rfl⟩
        have HS := Lib.hid (fun W => run_subW q 1 q' W (by unfold B; omega) (by unfold B; omega))
        have HA2 := Lib.hid (fun W => run_addW r v1 r' W (by have := DD.out.v1l; unfold B; omega))
        have hE2 : q' * v1 + r' = u := by have h := HE.out; rw [hq', Nat.add_mul, Nat.one_mul] at h; omega
        by_cases hk : 4294967296 ≤ r'
        · have e3 : decide ((4294967296 : Int) ≤ (r' : Int)) = true := decide_eq_true (by omega)
          have e3' : decide (4294967296 ≤ r') = true := decide_eq_true hk
          have hq3 := dv_break (d := d1) DD.out.hYe HPO.out DD.out.v0l DD.out.uY hE2 hk
          rw [DD.out.hQ1] at hq3
          obtain rfl : q' = Q1 := Nat.le_antisymm hq3 hst
          clear hq' hr' hE2 hk hst hq3 HE HQ hc
          go_wp2_with (first | (refine wpList_dst 72 rfl ?_; refine wpList_runG 72 rfl rfl _ (exec_bin .mul 89 _ (.tmp 70) (.tmp 71) rfl _ _ _ rfl rfl rfl (HM.out _)) ?_) | (refine wpList_dst 74 rfl ?_; refine wpList_runG 74 rfl rfl _ (exec_bin .mul 89 _ (.const (.int .u64 4294967296)) (.tmp 73) rfl _ _ _ rfl rfl rfl (HM2.out _)) ?_) | (refine wpList_dst 76 rfl ?_; refine wpList_runG 76 rfl rfl _ (exec_bin .add 89 _ (.tmp 74) (.tmp 75) rfl _ _ _ rfl rfl rfl (HA.out _)) ?_) | (refine wpList_dst 80 rfl ?_; refine wpList_run 80 rfl rfl _ (exec_bin .sub 89 _ (.tmp 79) (.const (.int .u64 1)) rfl _ _ _ rfl rfl rfl (HS.out _)) ?_) | (refine wpList_dst 83 rfl ?_; refine wpList_run 83 rfl rfl _ (exec_bin .add 89 _ (.tmp 81) (.tmp 82) rfl _ _ _ rfl rfl rfl (HA2.out _)) ?_) | (refine wpList_dst 87 rfl ?_; refine wpList_run 87 rfl rfl _ (exec_bin .mul 89 _ (.tmp 86) (.const (.int .u64 4294967296)) rfl _ _ _ rfl rfl rfl (HZ1.out _)) ?_) | (refine wpList_dst 89 rfl ?_; refine wpList_run 89 rfl rfl _ (exec_bin .add 89 _ (.tmp 87) (.tmp 88) rfl _ _ _ rfl rfl rfl (HZ2.out _)) ?_) | (refine wpList_dst 92 rfl ?_; refine wpList_run 92 rfl rfl _ (exec_bin .mul 89 _ (.tmp 90) (.tmp 91) rfl _ _ _ rfl rfl rfl (HZ3.out _)) ?_) | (refine wpList_dst 93 rfl ?_; refine wpList_run 93 rfl rfl _ (exec_bin .sub 89 _ (.tmp 89) (.tmp 92) rfl _ _ _ rfl rfl rfl (HZR.out _)) ?_) | (refine wpList_dst 96 rfl ?_; refine wpList_run 96 rfl rfl _ (exec_bin .quo 89 _ (.tmp 94) (.tmp 95) rfl _ _ _ rfl rfl rfl (HG2.out _)) ?_) | (refine wpList_dst 100 rfl ?_; refine wpList_run 100 rfl rfl _ (exec_bin .mul 89 _ (.tmp 98) (.tmp 99) rfl _ _ _ rfl rfl rfl (HP2.out _)) ?_) | (refine wpList_dst 101 rfl ?_; refine wpList_run 101 rfl rfl _ (exec_bin .sub 89 _ (.tmp 97) (.tmp 100) rfl _ _ _ rfl rfl rfl (HR2.out _)) ?_))
          go_loop [18, 16] (DvR R1 v1 Q0) (fun qv _ => (intOf qv).toNat)
          case atStart => exact START2.out
          case round =>
            obtain ⟨q, r, rfl, rfl, hr, hqB, HE, HQ⟩ := hrel
            by_cases hb : 4294967296 ≤ q
            · have e1 : decide ((4294967296 : Int) ≤ (q : Int)) = true := decide_eq_true (by omega)
              have e1' : decide (4294967296 ≤ q) = true := decide_eq_true hb
              obtain ⟨q', hq'⟩ : ∃ q', q = q' + 1 := ⟨q - 1, by omega⟩
              have hst : Q0 ≤ q' := by have := DD.out.Q0l; omega
              obtain ⟨r', hr'⟩ : ∃ r', r + v1 = r' := ⟨_, rfl⟩
              have HS := Lib.hid (fun W => run_subW q 1 q' W (by unfold B; omega) (by unfold B; omega))
              have HA2 := Lib.hid (fun W => run_addW r v1 r' W (by have := DD.out.v1l; unfold B; omega))
              have hE2 : q' * v1 + r' = R1 := by have h := HE.out; rw [hq', Nat.add_mul, Nat.one_mul] at h; omega
              by_cases hk : 4294967296 ≤ r'
              · have e3 : decide ((4294967296 : Int) ≤ (r' : Int)) = true := decide_eq_true (by omega)
                have e3' : decide (4294967296 ≤ r') = true := decide_eq_true hk
                have hq3 := dv_break (d := d0) DD.out.hYe HPO.out DD.out.v0l DD.out.R1Y hE2 hk
                rw [DD.out.hQ0] at hq3
                obtain rfl : q' = Q0 := Nat.le_antisymm hq3 hst
                clear hq' hr' hE2 hk hst hq3 HE HQ
                go_wp2_with (first | (refine wpList_dst 115 rfl ?_; refine wpList_run 115 rfl rfl _ (exec_bin .sub 89 _ (.tmp 114) (.const (.int .u64 1)) rfl _ _ _ rfl rfl rfl (HS.out _)) ?_) | (refine wpList_dst 118 rfl ?_; refine wpList_run 118 rfl rfl _ (exec_bin .add 89 _ (.tmp 116) (.tmp 117) rfl _ _ _ rfl rfl rfl (HA2.out _)) ?_) | (refine wpList_dst 122 rfl ?_; refine wpList_run 122 rfl rfl _ (exec_bin .mul 89 _ (.tmp 121) (.const (.int .u64 4294967296)) rfl _ _ _ rfl rfl rfl (HZ6.out _)) ?_) | (refine wpList_dst 124 rfl ?_; refine wpList_run 124 rfl rfl _ (exec_bin .add 89 _ (.tmp 122) (.tmp 123) rfl _ _ _ rfl rfl rfl (HQQ.out _)) ?_) | (refine wpList_dst 126 rfl ?_; refine wpList_run 126 rfl rfl _ (exec_bin .mul 89 _ (.tmp 125) (.const (.int .u64 4294967296)) rfl _ _ _ rfl rfl rfl (HZ4.out _)) ?_) | (refine wpList_dst 128 rfl ?_; refine wpList_run 128 rfl rfl _ (exec_bin .add 89 _ (.tmp 126) (.tmp 127) rfl _ _ _ rfl rfl rfl (HZ5.out _)) ?_) | (refine wpList_dst 131 rfl ?_; refine wpList_run 131 rfl rfl _ (exec_bin .mul 89 _ (.tmp 129) (.tmp 130) rfl _ _ _ rfl rfl rfl (HZ7.out _)) ?_) | (refine wpList_dst 132 rfl ?_; refine wpList_run 132 rfl rfl _ (exec_bin .sub 89 _ (.tmp 128) (.tmp 131) rfl _ _ _ rfl rfl rfl (HZ0.out _)) ?_) | (refine wpList_dst 134 rfl ?_; refine wpList_run 134 rfl rfl _ (exec_bin .shr 89 _ (.tmp 132) (.tmp 133) rfl _ _ _ rfl rfl rfl (HRR.out _)) ?_))
                go_ret2
                exact ⟨rfl, rfl⟩
              · have e3 : decide ((4294967296 : Int) ≤ (r' : Int)) = false := decide_eq_false (by omega)
                have e3' : decide (4294967296 ≤ r') = false := decide_eq_false hk
                have HE2 := Lib.hid hE2
                have HST := Lib.hid hst
                have HRB := Lib.hid (show r' < 4294967296 by omega)
                have HQ2 := Lib.hid hq'
                clear hq' hr' hE2 hst hk HE HQ
                go_wp2_with (first | (refine wpList_dst 115 rfl ?_; refine wpList_run 115 rfl rfl _ (exec_bin .sub 89 _ (.tmp 114) (.const (.int .u64 1)) rfl _ _ _ rfl rfl rfl (HS.out _)) ?_) | (refine wpList_dst 118 rfl ?_; refine wpList_run 118 rfl rfl _ (exec_bin .add 89 _ (.tmp 116) (.tmp 117) rfl _ _ _ rfl rfl rfl (HA2.out _)) ?_))
                go_round
                case rel => exact ⟨q', r', rfl, rfl, HRB.out, by have := HQ2.out; omega, HE2, HST⟩
                case measure => have := HQ2.out; simp [intOf]; omega
            · have e1 : decide ((4294967296 : Int) ≤ (q : Int)) = false := decide_eq_false (by omega)
              have e1' : decide (4294967296 ≤ q) = false := decide_eq_false hb
              obtain ⟨z, hz⟩ : ∃ z, q * v0 = z := ⟨_, rfl⟩
              obtain ⟨g0, hg0⟩ : ∃ g0, 4294967296 * r = g0 := ⟨_, rfl⟩
              obtain ⟨g, hg⟩ : ∃ g, g0 + d0 = g := ⟨_, rfl⟩
              have hzB : z < 18446744073709551616 := by rw [← hz]; exact small_mul (by omega) DD.out.v0l
              have hgB : g < 18446744073709551616 := by have := DD.out.d0l; omega
              have HM := Lib.hid (fun W => run_mulW q v0 z W (by rw [hz]; exact Nat.mod_eq_of_lt hzB))
              have HM2 := Lib.hid (fun W => show (binOp .mul 89 (.int .u64 4294967296) (.int .u64 r)).run Tryz.prog W = _ from run_mulW 4294967296 r g0 W (by rw [hg0]; unfold B; omega))
              have HA := Lib.hid (fun W => run_addW g0 d0 g W (by rw [hg]; exact Nat.mod_eq_of_lt hgB))
              by_cases hc : g < z
              · have e2 : decide ((g : Int) < (z : Int)) = true := decide_eq_true (by omega)
                have e2' : decide (g < z) = true := decide_eq_true hc
                have hst0 := dv_step (d := d0) DD.out.hYe HE.out (by omega)
                rw [DD.out.hQ0] at hst0
                obtain ⟨q', hq'⟩ : ∃ q', q = q' + 1 := ⟨q - 1, by omega⟩
                have hst : Q0 ≤ q' := by omega
                clear hst0 hz hg0 hg hzB hgB
                obtain ⟨r', hr'⟩ : ∃ r', r + v1 = r' := ⟨_, rfl⟩
                have HS := Lib.hid (fun W => run_subW q 1 q' W (by unfold B; omega) (by unfold B; omega))
                have HA2 := Lib.hid (fun W => run_addW r v1 r' W (by have := DD.out.v1l; unfold B; omega))
                have hE2 : q' * v1 + r' = R1 := by have h := HE.out; rw [hq', Nat.add_mul, Nat.one_mul] at h; omega
                by_cases hk : 4294967296 ≤ r'
                · have e3 : decide ((4294967296 : Int) ≤ (r' : Int)) = true := decide_eq_true (by omega)
                  have e3' : decide (4294967296 ≤ r') = true := decide_eq_true hk
                  have hq3 := dv_break (d := d0) DD.out.hYe HPO.out DD.out.v0l DD.out.R1Y hE2 hk
                  rw [DD.out.hQ0] at hq3
                  obtain rfl : q' = Q0 := Nat.le_antisymm hq3 hst
                  clear hq' hr' hE2 hk hst hq3 HE HQ hc
                  go_wp2_with (first | (refine wpList_dst 107 rfl ?_; refine wpList_runG 107 rfl rfl _ (exec_bin .mul 89 _ (.tmp 105) (.tmp 106) rfl _ _ _ rfl rfl rfl (HM.out _)) ?_) | (refine wpList_dst 109 rfl ?_; refine wpList_runG 109 rfl rfl _ (exec_bin .mul 89 _ (.const (.int .u64 4294967296)) (.tmp 108) rfl _ _ _ rfl rfl rfl (HM2.out _)) ?_) | (refine wpList_dst 111 rfl ?_; refine wpList_runG 111 rfl rfl _ (exec_bin .add 89 _ (.tmp 109) (.tmp 110) rfl _ _ _ rfl rfl rfl (HA.out _)) ?_) | (refine wpList_dst 115 rfl ?_; refine wpList_run 115 rfl rfl _ (exec_bin .sub 89 _ (.tmp 114) (.const (.int .u64 1)) rfl _ _ _ rfl rfl rfl (HS.out _)) ?_) | (refine wpList_dst 118 rfl ?_; refine wpList_run 118 rfl rfl _ (exec_bin .add 89 _ (.tmp 116) (.tmp 117) rfl _ _ _ rfl rfl rfl (HA2.out _)) ?_) | (refine wpList_dst 122 rfl ?_; refine wpList_run 122 rfl rfl _ (exec_bin .mul 89 _ (.tmp 121) (.const (.int .u64 4294967296)) rfl _ _ _ rfl rfl rfl (HZ6.out _)) ?_) | (refine wpList_dst 124 rfl ?_; refine wpList_run 124 rfl rfl _ (exec_bin .add 89 _ (.tmp 122) (.tmp 123) rfl _ _ _ rfl rfl rfl (HQQ.out _)) ?_) | (refine wpList_dst 126 rfl ?_; refine wpList_run 126 rfl rfl _ (exec_bin .mul 89 _ (.tmp 125) (.const (.int .u64 4294967296)) rfl _ _ _ rfl rfl rfl (HZ4.out _)) ?_) | (refine wpList_dst 128 rfl ?_; refine wpList_run 128 rfl rfl _ (exec_bin .add 89 _ (.tmp 126) (.tmp 127) rfl _ _ _ rfl rfl rfl (HZ5.out _)) ?_) | (refine wpList_dst 131 rfl ?_; refine wpList_run 131 rfl rfl _ (exec_bin .mul 89 _ (.tmp 129) (.tmp 130) rfl _ _ _ rfl rfl rfl (HZ7.out _)) ?_) | (refine wpList_dst 132 rfl ?_; refine wpList_run 132 rfl rfl _ (exec_bin .sub 89 _ (.tmp 128) (.tmp 131) rfl _ _ _ rfl rfl rfl (HZ0.out _)) ?_) | (refine wpList_dst 134 rfl ?_; refine wpList_run 134 rfl rfl _ (exec_bin .shr 89 _ (.tmp 132) (.tmp 133) rfl _ _ _ rfl rfl rfl (HRR.out _)) ?_))
                  go_ret2
                  exact ⟨rfl, rfl⟩
                · have e3 : decide ((4294967296 : Int) ≤ (r' : Int)) = false := decide_eq_false (by omega)
                  have e3' : decide (4294967296 ≤ r') = false := decide_eq_false hk
                  have HE2 := Lib.hid hE2
                  have HST := Lib.hid hst
                  have HRB := Lib.hid (show r' < 4294967296 by omega)
                  have HQ2 := Lib.hid hq'
                  clear hq' hr' hE2 hst hk HE HQ hc
                  go_wp2_with (first | (refine wpList_dst 107 rfl ?_; refine wpList_runG 107 rfl rfl _ (exec_bin .mul 89 _ (.tmp 105) (.tmp 106) rfl _ _ _ rfl rfl rfl (HM.out _)) ?_) | (refine wpList_dst 109 rfl ?_; refine wpList_runG 109 rfl rfl _ (exec_bin .mul 89 _ (.const (.int .u64 4294967296)) (.tmp 108) rfl _ _ _ rfl rfl rfl (HM2.out _)) ?_) | (refine wpList_dst 111 rfl ?_; refine wpList_runG 111 rfl rfl _ (exec_bin .add 89 _ (.tmp 109) (.tmp 110) rfl _ _ _ rfl rfl rfl (HA.out _)) ?_) | (refine wpList_dst 115 rfl ?_; refine wpList_run 115 rfl rfl _ (exec_bin .sub 89 _ (.tmp 114) (.const (.int .u64 1)) rfl _ _ _ rfl rfl rfl (HS.out _)) ?_) | (refine wpList_dst 118 rfl ?_; refine wpList_run 118 rfl rfl _ (exec_bin .add 89 _ (.tmp 116) (.tmp 117) rfl _ _ _ rfl rfl rfl (HA2.out _)) ?_))
                  go_round
                  case rel => exact ⟨q', r', rfl, rfl, HRB.out, by have := HQ2.out; omega, HE2, HST⟩
                  case measure => have := HQ2.out; simp [intOf]; omega
              · have e2 : decide ((g : Int) < (z : Int)) = false := decide_eq_false (by omega)
                have e2' : decide (g < z) = false := decide_eq_false hc
                have hq3 := dv_stop (d := d0) DD.out.hYe HPO.out HE.out (by omega)
                rw [DD.out.hQ0] at hq3
                obtain rfl : q = Q0 := Nat.le_antisymm hq3 HQ.out
                clear hz hg0 hg hzB hgB hc hq3 HE HQ
                go_wp2_with (first | (refine wpList_dst 107 rfl ?_; refine wpList_runG 107 rfl rfl _ (exec_bin .mul 89 _ (.tmp 105) (.tmp 106) rfl _ _ _ rfl rfl rfl (HM.out _)) ?_) | (refine wpList_dst 109 rfl ?_; refine wpList_runG 109 rfl rfl _ (exec_bin .mul 89 _ (.const (.int .u64 4294967296)) (.tmp 108) rfl _ _ _ rfl rfl rfl (HM2.out _)) ?_) | (refine wpList_dst 111 rfl ?_; refine wpList_runG 111 rfl rfl _ (exec_bin .add 89 _ (.tmp 109) (.tmp 110) rfl _ _ _ rfl rfl rfl (HA.out _)) ?_) | (refine wpList_dst 122 rfl ?_; refine wpList_run 122 rfl rfl _ (exec_bin .mul 89 _ (.tmp 121) (.const (.int .u64 4294967296)) rfl _ _ _ rfl rfl rfl (HZ6.out _)) ?_) | (refine wpList_dst 124 rfl ?_; refine wpList_run 124 rfl rfl _ (exec_bin .add 89 _ (.tmp 122) (.tmp 123) rfl _ _ _ rfl rfl rfl (HQQ.out _)) ?_) | (refine wpList_dst 126 rfl ?_; refine wpList_run 126 rfl rfl _ (exec_bin .mul 89 _ (.tmp 125) (.const (.int .u64 4294967296)) rfl _ _ _ rfl rfl rfl (HZ4.out _)) ?_) | (refine wpList_dst 128 rfl ?_; refine wpList_run 128 rfl rfl _ (exec_bin .add 89 _ (.tmp 126) (.tmp 127) rfl _ _ _ rfl rfl rfl (HZ5.out _)) ?_) | (refine wpList_dst 131 rfl ?_; refine wpList_run 131 rfl rfl _ (exec_bin .mul 89 _ (.tmp 129) (.tmp 130) rfl _ _ _ rfl rfl rfl (HZ7.out _)) ?_) | (refine wpList_dst 132 rfl ?_; refine wpList_run 132 rfl rfl _ (exec_bin .sub 89 _ (.tmp 128) (.tmp 131) rfl _ _ _ rfl rfl rfl (HZ0.out _)) ?_) | (refine wpList_dst 134 rfl ?_; refine wpList_run 134 rfl rfl _ (exec_bin .shr 89 _ (.tmp 132) (.tmp 133) rfl _ _ _ rfl rfl rfl (HRR.out _)) ?_))
                go_ret2
                exact ⟨rfl, rfl⟩
        · have e3 : decide ((4294967296 : Int) ≤ (r' : Int)) = false := decide_eq_false (by omega)
          have e3' : decide (4294967296 ≤ r') = false := decide_eq_false hk
          have HE2 := Lib.hid hE2
          have HST := Lib.hid hst
          have HRB := Lib.hid (show r' < 4294967296 by omega)
          have HQ2 := Lib.hid hq'
          clear hq' hr' hE2 hst hk HE HQ hc
          go_wp2_with (first | (refine wpList_dst 72 rfl ?_; refine wpList_runG 72 rfl rfl _ (exec_bin .mul 89 _ (.tmp 70) (.tmp 71) rfl _ _ _ rfl rfl rfl (HM.out _)) ?_) | (refine wpList_dst 74 rfl ?_; refine wpList_runG 74 rfl rfl _ (exec_bin .mul 89 _ (.const (.int .u64 4294967296)) (.tmp 73) rfl _ _ _ rfl rfl rfl (HM2.out _)) ?_) | (refine wpList_dst 76 rfl ?_; refine wpList_runG 76 rfl rfl _ (exec_bin .add 89 _ (.tmp 74) (.tmp 75) rfl _ _ _ rfl rfl rfl (HA.out _)) ?_) | (refine wpList_dst 80 rfl ?_; refine wpList_run 80 rfl rfl _ (exec_bin .sub 89 _ (.tmp 79) (.const (.int .u64 1)) rfl _ _ _ rfl rfl rfl (HS.out _)) ?_) | (refine wpList_dst 83 rfl ?_; refine wpList_run 83 rfl rfl _ (exec_bin .add 89 _ (.tmp 81) (.tmp 82) rfl _ _ _ rfl rfl rfl (HA2.out _)) ?_))
          go_round
          case rel => exact ⟨q', r', rfl, rfl, HRB.out, by have := HQ2.out; omega, HE2, HST⟩
          case measure => have := HQ2.out; simp [intOf]; omega
      · have e2 : decide ((g : Int) < (z : Int)) = false := decide_eq_false (by omega)
        have e2' : decide (g < z) = false := decide_eq_false hc
        have hq3 := dv_stop (d := d1) DD.out.hYe HPO.out HE.out (by omega)
        rw [DD.out.hQ1] at hq3
        obtain rfl : q = Q1 := Nat.le_antisymm hq3 HQ.out
        clear hz hg0 hg hzB hgB hc hq3 HE HQ
        go_wp2_with (first | (refine wpList_dst 72 rfl ?_; refine wpList_runG 72 rfl rfl _ (exec_bin .mul 89 _ (.tmp 70) (.tmp 71) rfl _ _ _ rfl rfl rfl (HM.out _)) ?_) | (refine wpList_dst 74 rfl ?_; refine wpList_runG 74 rfl rfl _ (exec_bin .mul 89 _ (.const (.int .u64 4294967296)) (.tmp 73) rfl _ _ _ rfl rfl rfl (HM2.out _)) ?_) | (refine wpList_dst 76 rfl ?_; refine wpList_runG 76 rfl rfl _ (exec_bin .add 89 _ (.tmp 74) (.tmp 75) rfl _ _ _ rfl rfl rfl (HA.out _)) ?_) | (refine wpList_dst 87 rfl ?_; refine wpList_run 87 rfl rfl _ (exec_bin .mul 89 _ (.tmp 86) (.const (.int .u64 4294967296)) rfl _ _ _ rfl rfl rfl (HZ1.out _)) ?_) | (refine wpList_dst 89 rfl ?_; refine wpList_run 89 rfl rfl _ (exec_bin .add 89 _ (.tmp 87) (.tmp 88) rfl _ _ _ rfl rfl rfl (HZ2.out _)) ?_) | (refine wpList_dst 92 rfl ?_; refine wpList_run 92 rfl rfl _ (exec_bin .mul 89 _ (.tmp 90) (.tmp 91) rfl _ _ _ rfl rfl rfl (HZ3.out _)) ?_) | (refine wpList_dst 93 rfl ?_; refine wpList_run 93 rfl rfl _ (exec_bin .sub 89 _ (.tmp 89) (.tmp 92) rfl _ _ _ rfl rfl rfl (HZR.out _)) ?_) | (refine wpList_dst 96 rfl ?_; refine wpList_run 96 rfl rfl _ (exec_bin .quo 89 _ (.tmp 94) (.tmp 95) rfl _ _ _ rfl rfl rfl (HG2.out _)) ?_) | (refine wpList_dst 100 rfl ?_; refine wpList_run 100 rfl rfl _ (exec_bin .mul 89 _ (.tmp 98) (.tmp 99) rfl _ _ _ rfl rfl rfl (HP2.out _)) ?_) | (refine wpList_dst 101 rfl ?_; refine wpList_run 101 rfl rfl _ (exec_bin .sub 89 _ (.tmp 97) (.tmp 100) rfl _ _ _ rfl rfl rfl (HR2.out _)) ?_))
        go_loop [18, 16] (DvR R1 v1 Q0) (fun qv _ => (intOf qv).toNat)
        case atStart => exact START2.out
        case round =>
          obtain ⟨q, r, rfl, rfl, hr, hqB, HE, HQ⟩ := hrel
          by_cases hb : 4294967296 ≤ q
          · have e1 : decide ((4294967296 : Int) ≤ (q : Int)) = true := decide_eq_true (by omega)
            have e1' : decide (4294967296 ≤ q) = true := decide_eq_true hb
            obtain ⟨q', hq'⟩ : ∃ q', q = q' + 1 := ⟨q - 1, by omega⟩
            have hst : Q0 ≤ q' := by have := DD.out.Q0l; omega
            obtain ⟨r', hr'⟩ : ∃ r', r + v1 = r' := ⟨_, rfl⟩
            have HS := Lib.hid (fun W => run_subW q 1 q' W (by unfold B; omega) (by unfold B; omega))
            have HA2 := Lib.hid (fun W => run_addW r v1 r' W (by have := DD.out.v1l; unfold B; omega))
            have hE2 : q' * v1 + r' = R1 := by have h := HE.out; rw [hq', Nat.add_mul, Nat.one_mul] at h; omega
            by_cases hk : 4294967296 ≤ r'
            · have e3 : decide ((4294967296 : Int) ≤ (r' : Int)) = true := decide_eq_true (by omega)
              have e3' : decide (4294967296 ≤ r') = true := decide_eq_true hk
              have hq3 := dv_break (d := d0) DD.out.hYe HPO.out DD.out.v0l DD.out.R1Y hE2 hk
              rw [DD.out.hQ0] at hq3
              obtain rfl : q' = Q0 := Nat.le_antisymm hq3 hst
              clear hq' hr' hE2 hk hst hq3 HE HQ
              go_wp2_with (first | (refine wpList_dst 115 rfl ?_; refine wpList_run 115 rfl rfl _ (exec_bin .sub 89 _ (.tmp 114) (.const (.int .u64 1)) rfl _ _ _ rfl rfl rfl (HS.out _)) ?_) | (refine wpList_dst 118 rfl ?_; refine wpList_run 118 rfl rfl _ (exec_bin .add 89 _ (.tmp 116) (.tmp 117) rfl _ _ _ rfl rfl rfl (HA2.out _)) ?_) | (refine wpList_dst 122 rfl ?_; refine wpList_run 122 rfl rfl _ (exec_bin .mul 89 _ (.tmp 121) (.const (.int .u64 4294967296)) rfl _ _ _ rfl rfl rfl (HZ6.out _)) ?_) | (refine wpList_dst 124 rfl ?_; refine wpList_run 124 rfl rfl _ (exec_bin .add 89 _ (.tmp 122) (.tmp 123) rfl _ _ _ rfl rfl rfl (HQQ.out _)) ?_) | (refine wpList_dst 126 rfl ?_; refine wpList_run 126 rfl rfl _ (exec_bin .mul 89 _ (.tmp 125) (.const (.int .u64 4294967296)) rfl _ _ _ rfl rfl rfl (HZ4.out _)) ?_) | (refine wpList_dst 128 rfl ?_; refine wpList_run 128 rfl rfl _ (exec_bin .add 89 _ (.tmp 126) (.tmp 127) rfl _ _ _ rfl rfl rfl (HZ5.out _)) ?_) | (refine wpList_dst 131 rfl ?_; refine wpList_run 131 rfl rfl _ (exec_bin .mul 89 _ (.tmp 129) (.tmp 130) rfl _ _ _ rfl rfl rfl (HZ7.out _)) ?_) | (refine wpList_dst 132 rfl ?_; refine wpList_run 132 rfl rfl _ (exec_bin .sub 89 _ (.tmp 128) (.tmp 131) rfl _ _ _ rfl rfl rfl (HZ0.out _)) ?_) | (refine wpList_dst 134 rfl ?_; refine wpList_run 134 rfl rfl _ (exec_bin .shr 89 _ (.tmp 132) (.tmp 133) rfl _ _ _ rfl rfl rfl (HRR.out _)) ?_))
              go_ret2
              exact ⟨rfl, rfl⟩
            · have e3 : decide ((4294967296 : Int) ≤ (r' : Int)) = false := decide_eq_false (by omega)
              have e3' : decide (4294967296 ≤ r') = false := decide_eq_false hk
              have HE2 := Lib.hid hE2
              have HST := Lib.hid hst
              have HRB := Lib.hid (show r' < 4294967296 by omega)
              have HQ2 := Lib.hid hq'
              clear hq' hr' hE2 hst hk HE HQ
              go_wp2_with (first | (refine wpList_dst 115 rfl ?_; refine wpList_run 115 rfl rfl _ (exec_bin .sub 89 _ (.tmp 114) (.const (.int .u64 1)) rfl _ _ _ rfl rfl rfl (HS.out _)) ?_) | (refine wpList_dst 118 rfl ?_; refine wpList_run 118 rfl rfl _ (exec_bin .add 89 _ (.tmp 116) (.tmp 117) rfl _ _ _ rfl rfl rfl (HA2.out _)) ?_))
              go_round
              case rel => exact ⟨q', r', rfl, rfl, HRB.out, by have := HQ2.out; omega, HE2, HST⟩
              case measure => have := HQ2.out; simp [intOf]; omega
          · have e1 : decide ((4294967296 : Int) ≤ (q : Int)) = false := decide_eq_false (by omega)
            have e1' : decide (4294967296 ≤ q) = false := decide_eq_false hb
            obtain ⟨z, hz⟩ : ∃ z, q * v0 = z := ⟨_, rfl⟩
            obtain ⟨g0, hg0⟩ : ∃ g0, 4294967296 * r = g0 := ⟨_, rfl⟩
            obtain ⟨g, hg⟩ : ∃ g, g0 + d0 = g := ⟨_, rfl⟩
            have hzB : z < 18446744073709551616 := by rw [← hz]; exact small_mul (by omega) DD.out.v0l
            have hgB : g < 18446744073709551616 := by have := DD.out.d0l; omega
            have HM := Lib.hid (fun W => run_mulW q v0 z W (by rw [hz]; exact Nat.mod_eq_of_lt hzB))
            have HM2 := Lib.hid (fun W => show (binOp .mul 89 (.int .u64 4294967296) (.int .u64 r)).run Tryz.prog W = _ from run_mulW 4294967296 r g0 W (by rw [hg0]; unfold B; omega))
            have HA := Lib.hid (fun W => run_addW g0 d0 g W (by rw [hg]; exact Nat.mod_eq_of_lt hgB))
            by_cases hc : g < z
            · have e2 : decide ((g : Int) < (z : Int)) = true := decide_eq_true (by omega)
              have e2' : decide (g < z) = true := decide_eq_true hc
              have hst0 := dv_step (d := d0) DD.out.hYe HE.out (by omega)
              rw [DD.out.hQ0] at hst0
              obtain ⟨q', hq'⟩ : ∃ q', q = q' + 1 := ⟨q - 1, by omega⟩
              have hst : Q0 ≤ q' := by omega
              clear hst0 hz hg0 hg hzB hgB
              obtain ⟨r', hr'⟩ : ∃ r', r + v1 = r' := ⟨_, rfl⟩
              have HS := Lib.hid (fun W => run_subW q 1 q' W (by unfold B; omega) (by unfold B; omega))
              have HA2 := Lib.hid (fun W => run_addW r v1 r' W (by have := DD.out.v1l; unfold B; omega))
              have hE2 : q' * v1 + r' = R1 := by have h := HE.out; rw [hq', Nat.add_mul, Nat.one_mul] at h; omega
              by_cases hk : 4294967296 ≤ r'
              · have e3 : decide ((4294967296 : Int) ≤ (r' : Int)) = true := decide_eq_true (by omega)
                have e3' : decide (4294967296 ≤ r') = true := decide_eq_true hk
                have hq3 := dv_break (d := d0) DD.out.hYe HPO.out DD.out.v0l DD.out.R1Y hE2 hk
                rw [DD.out.hQ0] at hq3
                obtain rfl : q' = Q0 := Nat.le_antisymm hq3 hst
                clear hq' hr' hE2 hk hst hq3 HE HQ hc
                go_wp2_with (first | (refine wpList_dst 107 rfl ?_; refine wpList_runG 107 rfl rfl _ (exec_bin .mul 89 _ (.tmp 105) (.tmp 106) rfl _ _ _ rfl rfl rfl (HM.out _)) ?_) | (refine wpList_dst 109 rfl ?_; refine wpList_runG 109 rfl rfl _ (exec_bin .mul 89 _ (.const (.int .u64 4294967296)) (.tmp 108) rfl _ _ _ rfl rfl rfl (HM2.out _)) ?_) | (refine wpList_dst 111 rfl ?_; refine wpList_runG 111 rfl rfl _ (exec_bin .add 89 _ (.tmp 109) (.tmp 110) rfl _ _ _ rfl rfl rfl (HA.out _)) ?_) | (refine wpList_dst 115 rfl ?_; refine wpList_run 115 rfl rfl _ (exec_bin .sub 89 _ (.tmp 114) (.const (.int .u64 1)) rfl _ _ _ rfl rfl rfl (HS.out _)) ?_) | (refine wpList_dst 118 rfl ?_; refine wpList_run 118 rfl rfl _ (exec_bin .add 89 _ (.tmp 116) (.tmp 117) rfl _ _ _ rfl rfl rfl (HA2.out _)) ?_) | (refine wpList_dst 122 rfl ?_; refine wpList_run 122 rfl rfl _ (exec_bin .mul 89 _ (.tmp 121) (.const (.int .u64 4294967296)) rfl _ _ _ rfl rfl rfl (HZ6.out _)) ?_) | (refine wpList_dst 124 rfl ?_; refine wpList_run 124 rfl rfl _ (exec_bin .add 89 _ (.tmp 122) (.tmp 123) rfl _ _ _ rfl rfl rfl (HQQ.out _)) ?_) | (refine wpList_dst 126 rfl ?_; refine wpList_run 126 rfl rfl _ (exec_bin .mul 89 _ (.tmp 125) (.const (.int .u64 4294967296)) rfl _ _ _ rfl rfl rfl (HZ4.out _)) ?_) | (refine wpList_dst 128 rfl ?_; refine wpList_run 128 rfl rfl _ (exec_bin .add 89 _ (.tmp 126) (.tmp 127) rfl _ _ _ rfl rfl rfl (HZ5.out _)) ?_) | (refine wpList_dst 131 rfl ?_; refine wpList_run 131 rfl rfl _ (exec_bin .mul 89 _ (.tmp 129) (.tmp 130) rfl _ _ _ rfl rfl rfl (HZ7.out _)) ?_) | (refine wpList_dst 132 rfl ?_; refine wpList_run 132 rfl rfl _ (exec_bin .sub 89 _ (.tmp 128) (.tmp 131) rfl _ _ _ rfl rfl rfl (HZ0.out _)) ?_) | (refine wpList_dst 134 rfl ?_; refine wpList_run 134 rfl rfl _ (exec_bin .shr 89 _ (.tmp 132) (.tmp 133) rfl _ _ _ rfl rfl rfl (HRR.out _)) ?_))
                go_ret2
                exact ⟨rfl, rfl⟩
              · have e3 : decide ((4294967296 : Int) ≤ (r' : Int)) = false := decide_eq_false (by omega)
                have e3' : decide (4294967296 ≤ r') = false := decide_eq_false hk
                have HE2 := Lib.hid hE2
                have HST := Lib.hid hst
                have HRB := Lib.hid (show r' < 4294967296 by omega)
                have HQ2 := Lib.hid hq'
                clear hq' hr' hE2 hst hk HE HQ hc
                go_wp2_with (first | (refine wpList_dst 107 rfl ?_; refine wpList_runG 107 rfl rfl _ (exec_bin .mul 89 _ (.tmp 105) (.tmp 106) rfl _ _ _ rfl rfl rfl (HM.out _)) ?_) | (refine wpList_dst 109 rfl ?_; refine wpList_runG 109 rfl rfl _ (exec_bin .mul 89 _ (.const (.int .u64 4294967296)) (.tmp 108) rfl _ _ _ rfl rfl rfl (HM2.out _)) ?_) | (refine wpList_dst 111 rfl ?_; refine wpList_runG 111 rfl rfl _ (exec_bin .add 89 _ (.tmp 109) (.tmp 110) rfl _ _ _ rfl rfl rfl (HA.out _)) ?_) | (refine wpList_dst 115 rfl ?_; refine wpList_run 115 rfl rfl _ (exec_bin .sub 89 _ (.tmp 114) (.const (.int .u64 1)) rfl _ _ _ rfl rfl rfl (HS.out _)) ?_) | (refine wpList_dst 118 rfl ?_; refine wpList_run 118 rfl rfl _ (exec_bin .add 89 _ (.tmp 116) (.tmp 117) rfl _ _ _ rfl rfl rfl (HA2.out _)) ?_))
                go_round
                case rel => exact ⟨q', r', rfl, rfl, HRB.out, by have := HQ2.out; omega, HE2, HST⟩
                case measure => have := HQ2.out; simp [intOf]; omega
            · have e2 : decide ((g : Int) < (z : Int)) = false := decide_eq_false (by omega)
              have e2' : decide (g < z) = false := decide_eq_false hc
              have hq3 := dv_stop (d := d0) DD.out.hYe HPO.out HE.out (by omega)
              rw [DD.out.hQ0] at hq3
              obtain rfl : q = Q0 := Nat.le_antisymm hq3 HQ.out
              clear hz hg0 hg hzB hgB hc hq3 HE HQ
              go_wp2_with (first | (refine wpList_dst 107 rfl ?_; refine wpList_runG 107 rfl rfl _ (exec_bin .mul 89 _ (.tmp 105) (.tmp 106) rfl _ _ _ rfl rfl rfl (HM.out _)) ?_) | (refine wpList_dst 109 rfl ?_; refine wpList_runG 109 rfl rfl _ (exec_bin .mul 89 _ (.const (.int .u64 4294967296)) (.tmp 108) rfl _ _ _ rfl rfl rfl (HM2.out _)) ?_) | (refine wpList_dst 111 rfl ?_; refine wpList_runG 111 rfl rfl _ (exec_bin .add 89 _ (.tmp 109) (.tmp 110) rfl _ _ _ rfl rfl rfl (HA.out _)) ?_) | (refine wpList_dst 122 rfl ?_; refine wpList_run 122 rfl rfl _ (exec_bin .mul 89 _ (.tmp 121) (.const (.int .u64 4294967296)) rfl _ _ _ rfl rfl rfl (HZ6.out _)) ?_) | (refine wpList_dst 124 rfl ?_; refine wpList_run 124 rfl rfl _ (exec_bin .add 89 _ (.tmp 122) (.tmp 123) rfl _ _ _ rfl rfl rfl (HQQ.out _)) ?_) | (refine wpList_dst 126 rfl ?_; refine wpList_run 126 rfl rfl _ (exec_bin .mul 89 _ (.tmp 125) (.const (.int .u64 4294967296)) rfl _ _ _ rfl rfl rfl (HZ4.out _)) ?_) | (refine wpList_dst 128 rfl ?_; refine wpList_run 128 rfl rfl _ (exec_bin .add 89 _ (.tmp 126) (.tmp 127) rfl _ _ _ rfl rfl rfl (HZ5.out _)) ?_) | (refine wpList_dst 131 rfl ?_; refine wpList_run 131 rfl rfl _ (exec_bin .mul 89 _ (.tmp 129) (.tmp 130) rfl _ _ _ rfl rfl rfl (HZ7.out _)) ?_) | (refine wpList_dst 132 rfl ?_; refine wpList_run 132 rfl rfl _ (exec_bin .sub 89 _ (.tmp 128) (.tmp 131) rfl _ _ _ rfl rfl rfl (HZ0.out _)) ?_) | (refine wpList_dst 134 rfl ?_; refine wpList_run 134 rfl rfl _ (exec_bin .shr 89 _ (.tmp 132) (.tmp 133) rfl _ _ _ rfl rfl rfl (HRR.out _)) ?_))
              go_ret2
              exact ⟨rfl, rfl⟩
end Go.Proofs.YtpmlihhofmblpaaGreatDoor

/- guess and up. -/
namespace Go.Proofs.YtpmlihhofmblpaaGreatDoor
open Go.RowKit Hm Wm Wn

theorem div64_any (hi lo y : Nat) (w : World) (hy : y < B) (hh : hi < y) (hlo : lo < B) :
    Calls Tryz.prog 138 #[.int .u64 hi, .int .u64 lo, .int .u64 y] w fun e w' => e = .returned (.tuple #[.int .u64 ((hi * 18446744073709551616 + lo) / y : Nat), .int .u64 ((hi * 18446744073709551616 + lo) % y : Nat)]) ∧ Below w.heap.size w w' := by
  by_cases h0 : hi = 0
  · subst h0
    rw [Nat.zero_mul, Nat.zero_add]
    exact div64_zero lo y w hlo hh
  · refine (div64_pos hi lo y w hy hh hlo (by omega)).mono ?_
    rintro e w' ⟨rfl, rfl⟩
    exact ⟨rfl, Below.refl _ _⟩
/-- A digit of a quotient, not less than the true one. -/
def guessN (hi lo y : Nat) : Nat := if y ≤ hi then 18446744073709551615 else (hi * 18446744073709551616 + lo) / y
set_option maxRecDepth 100000 in
set_option maxHeartbeats 400000 in
theorem guess_any (hi lo y : Nat) (w : World) (hy : y < B) (hlo : lo < B) :
    Calls Tryz.prog 111 #[.int .u64 hi, .int .u64 lo, .int .u64 y] w fun e w' => e = .returned (.int .u64 (guessN hi lo y)) ∧ Below w.heap.size w w' := by
  by_cases h : y ≤ hi
  · have e1 : decide ((y : Int) ≤ (hi : Int)) = true := decide_eq_true (by omega)
    have e1' : decide (y ≤ hi) = true := decide_eq_true h
    have hg : guessN hi lo y = 18446744073709551615 := by unfold guessN; rw [if_pos h]
    rw [hg]
    clear hg h hy hlo
    go_enter Tryz.func111, Tryz.ntmps111
    go_wp2_with fail
    go_ret
    exact ⟨rfl, Below.refl _ _⟩
  · have e1 : decide ((y : Int) ≤ (hi : Int)) = false := decide_eq_false (by omega)
    have e1' : decide (y ≤ hi) = false := decide_eq_false h
    have hg : guessN hi lo y = (hi * 18446744073709551616 + lo) / y := by unfold guessN; rw [if_neg h]
    have HC := div64_any hi lo y w hy (by omega) hlo
    rw [hg]
    obtain ⟨q, hq⟩ : ∃ q, (hi * 18446744073709551616 + lo) / y = q := ⟨_, rfl⟩
    obtain ⟨r, hr⟩ : ∃ r, (hi * 18446744073709551616 + lo) % y = r := ⟨_, rfl⟩
    rw [hq, hr] at HC
    rw [hq]
    have HD := Lib.hid HC
    have HN := Lib.hid h
    clear hg hq hr HC hy hlo h
    go_enter Tryz.func111, Tryz.ntmps111
    go_wp2_with fail
    refine HD.out.mono ?_
    rintro e w' ⟨rfl, hb⟩
    have HB := Lib.hid hb
    clear hb HD
    go_wp2_with fail
    go_ret
    exact ⟨rfl, HB.out⟩
theorem run_shlI (x z s : Nat) (w : World) (hs : s ≤ 64) (h : x * 2 ^ s % B = z) : (binOp .shl 89 (.int .u64 x) (.int .i64 s)).run Tryz.prog w = .ok (.int .u64 (z : Int)) w := by
  rw [binOp_shl, shift_shl .u64 .i64 (x : Int) (s : Int) (by omega) (by show _ ≤ ((64 : Nat) : Int); omega), Sem.run_pure]
  have e : ((x : Int) * 2 ^ (s : Int).toNat) = ((x * 2 ^ s : Nat) : Int) := by rw [Int.toNat_natCast]; push_cast; rfl
  rw [e, IntKind.wrap_u64]
  subst h
  unfold B
  generalize x * 2 ^ s = p
  congr 2 <;> omega
theorem run_shrI (x z s : Nat) (w : World) (hs : s ≤ 64) (h : x / 2 ^ s = z) : (binOp .shr 89 (.int .u64 x) (.int .i64 s)).run Tryz.prog w = .ok (.int .u64 (z : Int)) w := by
  have e : binOp .shr 89 (.int .u64 (x : Int)) (.int .i64 (s : Int)) = Op.shift .shr .u64 (x : Int) .i64 (s : Int) := rfl
  rw [e, shift_shr .u64 .i64 (x : Int) (s : Int) (by omega) (by show _ ≤ ((64 : Nat) : Int); omega), Sem.run_pure]
  have e : ((x : Int) / 2 ^ (s : Int).toNat) = ((x / 2 ^ s : Nat) : Int) := by rw [Int.toNat_natCast]; push_cast; rfl
  rw [e, h]
theorem up_row (X : List Nat) (s : Nat) (hX : Dig X) (hs : s < 64) : (addTL (zd (X.length + 1)) X (2 ^ s) 0).1.length = X.length + 1 ∧ num (addTL (zd (X.length + 1)) X (2 ^ s) 0).1 = num X * 2 ^ s ∧ Dig (addTL (zd (X.length + 1)) X (2 ^ s) 0).1 := by
  have hp : (2 : Nat) ^ s < B := by
    have := Nat.pow_lt_pow_right (a := 2) (by decide) hs
    exact this
  have hn := num_lt hX
  have h1 : num (zd (X.length + 1)) + 2 ^ s * num X < B ^ (zd (X.length + 1)).length := by
    unfold zd
    rw [num_zeros, List.length_replicate, Nat.zero_add, Nat.pow_succ, Nat.mul_comm]
    exact Nat.mul_lt_mul'' hn hp
  have h2 := (addTL_fits (by rw [zd_len]; omega) h1).1
  refine ⟨by rw [addTL_len, zd_len], ?_, addTL_dig _ _ _ _⟩
  rw [h2]
  unfold zd
  rw [num_zeros, Nat.zero_add, Nat.mul_comm]
/-- A row in new memory, with its number times a power of 2. -/
def UpW (w : World) (g : Nat) (X : List Nat) (s : Nat) (P : List Nat) : Prop := P.length = X.length + 1 ∧ num P = num X * 2 ^ s ∧ Dig P ∧ Blk w g 89 (ws P)
set_option maxRecDepth 100000 in
set_option maxHeartbeats 400000 in
theorem up_any (A : Option Addr) (c : Nat) (X : List Nat) (s : Nat) (w : World) (hr : RdW w A X) (hX : Dig X) (hs : s < 64) (hl : X.length ≤ 100000) :
    Calls Tryz.prog 110 #[.slice A X.length c, .int .i64 s] w fun e w' => e = .returned (.slice (some ⟨w.heap.size, 0, none⟩) (X.length + 1 : Nat) (X.length + 1 : Nat)) ∧ (∃ P, UpW w' w.heap.size X s P) ∧ Below w.heap.size w w' := by
  obtain ⟨u1, u2, u3⟩ := up_row X s hX hs
  have hp : (2 : Nat) ^ s < B := Nat.pow_lt_pow_right (a := 2) (by decide) hs
  have HSH := Lib.hid (fun W => show (binOp .shl 89 (.int .u64 1) (.int .i64 s)).run Tryz.prog W = _ from run_shlI 1 (2 ^ s) s W (by omega) (by rw [Nat.one_mul]; exact Nat.mod_eq_of_lt hp))
  have HR := Lib.hid hr
  have HOF := Lib.hid (off_old hr)
  have HX := Lib.hid hX
  obtain ⟨f, hf⟩ : ∃ f, (2 : Nat) ^ s = f := ⟨_, rfl⟩
  have hu2 := u2
  rw [hf] at u1 u2 u3 hp HSH
  have HP := Lib.hid hp
  have HU1 := Lib.hid u1
  have HU3 := Lib.hid u3
  have HU2 := Lib.hid (show num (addTL (zd (X.length + 1)) X f 0).1 = num X * 2 ^ s by rw [u2, hf])
  clear hr hX u1 u2 u3 hp hf hu2 hs
  go_enter Tryz.func110, Tryz.ntmps110
  go_wp2_with (first | (refine wpList_makeW rfl (.tmp 8) (.tmp 8) rfl (X.length + 1) (by go_num) (by go_num) (by omega) ?_; intro w1 HK1 HB1) | (refine wpList_run 13 rfl rfl _ (exec_bin .shl 89 _ (.const (.int .u64 1)) (.tmp 12) rfl _ _ _ rfl rfl rfl (HSH.out _)) ?_))
  have HC := Lib.hid (addT_any w.heap.size [] (zd (X.length + 1)) [] X (X.length + 1) A c f w1 (by simpa using HK1.out) (HR.out.next HB1.out) HOF.out (dig_zeros _) HX.out HP.out (by rw [zd_len]; omega))
  skip --@@
  refine Calls.mono (by have := HC.out; rw [zd_len] at this; exact this) ?_
  rintro e w3 ⟨rfl, hk3, ho3⟩
  have HU := Lib.hid (show ∃ P, UpW w3 w.heap.size X s P from ⟨_, HU1.out, HU2.out, HU3.out, by simpa using hk3⟩)
  have HB3 := Lib.hid (HB1.out.trans (ho3.below (Nat.le_refl _)))
  clear hk3 ho3 HC
  go_wp2
  go_ret
  exact ⟨by rfl, HU.out, HB3.out⟩
end Go.Proofs.YtpmlihhofmblpaaGreatDoor

/- down. -/
namespace Go.Proofs.YtpmlihhofmblpaaGreatDoor
open Go.RowKit Hm Wm Wn

/-- A row, shifted down. -/
def dnL : List Nat → Nat → List Nat
  | [], _ => []
  | x :: r, s => (x / 2 ^ s + r.headD 0 * 2 ^ (64 - s) % B) :: dnL r s
theorem dnL_len : ∀ (l : List Nat) (s : Nat), (dnL l s).length = l.length
  | [], _ => rfl
  | _ :: r, s => by rw [dnL, List.length_cons, List.length_cons, dnL_len r s]
theorem dn_two {s : Nat} (hs : s ≤ 64) : 2 ^ s * 2 ^ (64 - s) = B := by
  rw [← Nat.pow_add, show s + (64 - s) = 64 by omega]
  rfl
theorem dn_mod {s h : Nat} (hs : s ≤ 64) : h * 2 ^ (64 - s) % B = h % 2 ^ s * 2 ^ (64 - s) := by rw [← dn_two hs, Nat.mul_mod_mul_right]
theorem dnL_num : ∀ (l : List Nat) (s : Nat), s ≤ 64 → num (dnL l s) = num l / 2 ^ s
  | [], s, _ => by simp [dnL, num]
  | x :: r, s, hs => by
    rw [dnL, num, num, dnL_num r s hs, dn_mod hs]
    have hp := Nat.two_pow_pos s
    have hh : num r % 2 ^ s = r.headD 0 % 2 ^ s := by
      cases r with
      | nil => rfl
      | cons y t =>
        rw [num, List.headD_cons, ← dn_two hs, Nat.mul_assoc, Nat.add_mul_mod_self_left]
    rw [← hh]
    have h1 := Nat.div_add_mod (num r) (2 ^ s)
    rw [← dn_two hs, Nat.mul_assoc, Nat.mul_assoc, Nat.add_mul_div_left _ _ hp]
    conv => rhs; rw [← h1, Nat.mul_add]
    rw [Nat.mul_left_comm (2 ^ (64 - s)) (2 ^ s), Nat.mul_comm (2 ^ (64 - s)) (num r % 2 ^ s)]
    omega
theorem dn_word {s x h : Nat} (hs : s ≤ 64) (hx : x < B) : x / 2 ^ s < 2 ^ (64 - s) ∧ x / 2 ^ s + h % 2 ^ s * 2 ^ (64 - s) < B := by
  have h1 : x / 2 ^ s < 2 ^ (64 - s) := Nat.div_lt_of_lt_mul (by rw [dn_two hs]; exact hx)
  refine ⟨h1, ?_⟩
  have h2 := Nat.mod_lt h (Nat.two_pow_pos s)
  have h3 := Nat.mul_le_mul_right (2 ^ (64 - s)) (Nat.succ_le_of_lt h2)
  rw [dn_two hs, Nat.succ_mul] at h3
  omega
theorem dnL_dig : ∀ (l : List Nat) (s : Nat), s ≤ 64 → Dig l → Dig (dnL l s)
  | [], _, _, _ => fun _ h => by cases h
  | x :: r, s, hs, hd => by
    intro d hd2
    rw [dnL, List.mem_cons] at hd2
    rcases hd2 with rfl | hd2
    · rw [dn_mod hs]
      exact (dn_word hs (hd x (List.mem_cons_self ..))).2
    · exact dnL_dig r s hs (fun y hy => hd y (List.mem_cons_of_mem _ hy)) d hd2
theorem run_orC (x y s a : Nat) (w : World) (hx : a * 2 ^ s = x) (hy : y < 2 ^ s) (hz : y + x < B) : (binOp .or 89 (.int .u64 y) (.int .u64 x)).run Tryz.prog w = .ok (.int .u64 ((y + x : Nat) : Int)) w := by
  have h1 : bits .or .u64 (y : Int) (x : Int) = ((y + x : Nat) : Int) := by
    unfold B at hz
    rw [bits_or_u64_nat y _ (by omega) (by omega), Nat.or_comm, Nat.add_comm]
    congr 1
    rw [← hx, ← Nat.shiftLeft_eq, Nat.shiftLeft_add_eq_or_of_lt hy]
  simp [binOp, go_sem]
  exact h1
theorem run_incI (i : Nat) (h : i ≤ 1000000) (w : World) : (binOp .add 3 (.int .i64 i) (.int .i64 1)).run Tryz.prog w = .ok (.int .i64 ((i + 1 : Nat) : Int)) w := by
  simp [binOp, go_sem]
  simp [IntKind.wrap, IntKind.bits, IntKind.signed]; omega
theorem run_backI (s : Nat) (h : s ≤ 64) (w : World) : (binOp .sub 3 (.int .i64 64) (.int .i64 s)).run Tryz.prog w = .ok (.int .i64 ((64 - s : Nat) : Int)) w := by
  simp [binOp, go_sem]
  simp [IntKind.wrap, IntKind.bits, IntKind.signed]; omega
/-- What stands in the loop of down. -/
def DnR (w : World) (g : Nat) (X : List Nat) (s : Nat) (iv : Value) (wr : World) : Prop :=
  ∃ (i : Nat) (dn : List Nat), iv = .int .i64 i ∧ i ≤ X.length ∧ Hid (dn.length = i) ∧ Hid (dn ++ dnL (X.drop i) s = dnL X s) ∧ Hid (Blk wr g 89 (ws (dn ++ X.drop i))) ∧ Hid (Only g w wr)
set_option maxRecDepth 100000 in
set_option maxHeartbeats 400000 in
theorem down_any (g c : Nat) (X : List Nat) (s : Nat) (w : World) (hk : Blk w g 89 (ws X)) (hX : Dig X) (hs : s < 64) (hl : X.length ≤ 100001) :
    Calls Tryz.prog 113 #[.slice (some ⟨g, 0, none⟩) X.length c, .int .i64 s] w fun e w' => e = .returned (.slice (some ⟨g, 0, none⟩) X.length c) ∧ Blk w' g 89 (ws (dnL X s)) ∧ Only g w w' := by
  have HK := Lib.hid hk
  have HX := Lib.hid hX
  clear hk hX
  go_enter Tryz.func113, Tryz.ntmps113
  go_wp2_with fail
  go_loopw [8] (DnR w g X s) (fun iv _ => X.length - (intOf iv).toNat)
  case atStart => exact ⟨0, [], rfl, Nat.zero_le _, rfl, Lib.hid (by simp), Lib.hid (by simpa using HK.out), Lib.hid (Only.refl _ _)⟩
  case round =>
    obtain ⟨i, dn, rfl, hi, HDN, HD, HB, HO⟩ := hrel
    by_cases hlt : i < X.length
    · have d1 : decide ((i : Int) < (X.length : Int)) = true := decide_eq_true (by omega)
      have d1' : decide (i < X.length) = true := decide_eq_true hlt
      have hxd : X.drop i = X[i] :: X.drop (i + 1) := List.drop_eq_getElem_cons hlt
      have hxB := HX.out _ (List.getElem_mem hlt)
      obtain ⟨x, hx⟩ : ∃ x, X[i] = x := ⟨_, rfl⟩
      rw [hx] at hxd hxB
      obtain ⟨x', hx'⟩ : ∃ x', x / 2 ^ s = x' := ⟨_, rfl⟩
      have hB := HB.out
      have hD := HD.out
      rw [hxd] at hB hD
      have hgm := get_mid [] dn (X.drop (i + 1)) [] x
      have hst := set_mid [] dn (X.drop (i + 1)) [] x x'
      have hgm2 := get_mid [] dn (X.drop (i + 1)) [] x'
      simp only [List.nil_append, List.append_nil, List.length_nil, Nat.zero_add, HDN.out] at hgm hst hgm2
      have hcell : wr.cell? ⟨g, i, none⟩ = some (.int .u64 x) := by
        rw [hB.cell i]
        unfold ws
        rw [List.getElem?_map, hgm]
        rfl
      have hlen : i < (dn ++ x :: X.drop (i + 1)).length := by rw [List.length_append, HDN.out, List.length_cons]; omega
      have HSR := Lib.hid (fun W => run_shrI x x' s W (by omega) hx')
      have hwd := dn_word (h := (X.drop (i + 1)).headD 0) (s := s) (by omega) hxB
      rw [hx'] at hwd
      rw [dnL, hx'] at hD
      by_cases hlast : i + 1 < X.length
      · have d2 : decide ((i : Int) + 1 < (X.length : Int)) = true := decide_eq_true (by omega)
        have d2' : decide (i + 1 < X.length) = true := decide_eq_true hlast
        have hyd : X.drop (i + 1) = X[i + 1] :: X.drop (i + 1 + 1) := List.drop_eq_getElem_cons hlast
        obtain ⟨y, hy⟩ : ∃ y, X[i + 1] = y := ⟨_, rfl⟩
        rw [hy] at hyd
        have hyh : (X.drop (i + 1)).headD 0 = y := by rw [hyd]; rfl
        rw [hyh] at hD hwd
        rw [← dn_mod (s := s) (by omega)] at hwd
        obtain ⟨z, hz⟩ : ∃ z, y * 2 ^ (64 - s) % B = z := ⟨_, rfl⟩
        have hz2 := dn_mod (s := s) (h := y) (by omega)
        rw [hz] at hD hwd hz2
        have HSL := Lib.hid (fun W => run_shlI y z (64 - s) W (by omega) hz)
        have HOR := Lib.hid (fun W => run_orC z x' (64 - s) (y % 2 ^ s) W hz2.symm hwd.1 hwd.2)
        have hst2 := set_mid [] dn (X.drop (i + 1)) [] x' (x' + z)
        have hgm3 : (dn ++ x' :: X.drop (i + 1))[i + 1]? = some y := by
          rw [List.getElem?_append_right (by rw [HDN.out]; omega), HDN.out, show i + 1 - i = 0 + 1 by omega, List.getElem?_cons_succ, hyd]
          rfl
        simp only [List.nil_append, List.append_nil, List.length_nil, Nat.zero_add, HDN.out] at hst2
        have hst3 : dn ++ [x'] ++ X.drop (i + 1) = dn ++ x' :: X.drop (i + 1) := by simp
        rw [hst3] at hst
        have hlen2 : i < (dn ++ x' :: X.drop (i + 1)).length := by rw [List.length_append, HDN.out, List.length_cons]; omega
        have HD2 := Lib.hid (show (dn ++ [x' + z]) ++ dnL (X.drop (i + 1)) s = dnL X s by rw [← hD]; simp)
        have HDN2 := Lib.hid (show (dn ++ [x' + z]).length = i + 1 by rw [List.length_append, HDN.out]; rfl)
        obtain ⟨R, hR⟩ : ∃ R, X.drop (i + 1) = R := ⟨_, rfl⟩
        rw [hR] at hB hst hlen hgm2 hgm3 hst2 hlen2
        have HRR := Lib.hid hR
        obtain ⟨L1, hL1⟩ : ∃ L1, dn ++ x :: R = L1 := ⟨_, rfl⟩
        obtain ⟨L2, hL2⟩ : ∃ L2, dn ++ x' :: R = L2 := ⟨_, rfl⟩
        rw [hL1] at hB hst hlen
        rw [hL2] at hst hgm2 hgm3 hst2 hlen2
        have HBL := Lib.hid hB
        have HST := Lib.hid hst
        have HLN := Lib.hid hlen
        have HG2 := Lib.hid hgm2
        have HG3 := Lib.hid hgm3
        have HST2 := Lib.hid hst2
        have HLN2 := Lib.hid hlen2
        clear hxd hx hxB hx' hB hD hgm hst hgm2 hlen hwd hyd hy hyh hz hz2 hst2 hgm3 hst3 hlen2 hR hL1 hL2 HB HD
        go_wp2_with (first | (refine wpList_dst 16 rfl ?_; refine wpList_run 16 rfl rfl _ (exec_bin .shr 89 _ (.tmp 14) (.tmp 15) rfl _ _ _ rfl rfl rfl (HSR.out _)) ?_) | (refine wpList_store_w rfl (.tmp 17) (.tmp 16) rfl g i _ L1 x' rfl rfl HBL.out HLN.out ?_; intro w5 HB5 ho5; have HO5 := Lib.hid (HO.out.trans ho5); clear ho5))
        skip --@@
        have hk5 := HB5.out
        rw [HST.out] at hk5
        have hc1 : w5.cell? ⟨g, i, none⟩ = some (.int .u64 x') := by
          rw [hk5.cell i]
          unfold ws
          rw [List.getElem?_map, HG2.out]
          rfl
        have hc2 : w5.cell? ⟨g, i + 1, none⟩ = some (.int .u64 y) := by
          rw [hk5.cell (i + 1)]
          unfold ws
          rw [List.getElem?_map, HG3.out]
          rfl
        refine late_begin (S := TillQ 14 (fun W => W.cell? ⟨g, i, none⟩ = some (.int .u64 (x' : Int)) ∧ W.cell? ⟨g, i + 1, none⟩ = some (.int .u64 (y : Int)))) (by kernel_rfl) ?_
        have hS1 : w5.drew.cell? ⟨g, i, none⟩ = some (.int .u64 (x' : Int)) ∧ w5.drew.cell? ⟨g, i + 1, none⟩ = some (.int .u64 (y : Int)) := ⟨hc1, hc2⟩
        have hK1 : Blk w5.drew g 89 (ws L2) := hk5
        have hO1 : Only g w w5.drew := HO5.out.trans ⟨rfl, rfl, rfl, rfl, fun _ _ => rfl⟩
        generalize w5.drew = u1 at hS1 hK1 hO1 ⊢
        have hS0 : ∀ {L}, TillQ 14 (fun W => W.cell? ⟨g, i, none⟩ = some (.int .u64 (x' : Int)) ∧ W.cell? ⟨g, i + 1, none⟩ = some (.int .u64 (y : Int))) L u1 := fun _ => hS1
        refine late_take [14] (i := 0) (some 23) rfl rfl rfl (by kernel_rfl) (by kernel_rfl) (by kernel_rfl) (by kernel_rfl) (by kernel_rfl) (fun Ls W h => h.off (by decide)) (.slice (some ⟨g, 0, none⟩) X.length c) (fun _ _ _ h => h) (fun Ls W hl0 hW => exec_move (.tmp 0) rfl _ rfl) hS0 hS0 ?_
        go_frame
        refine late_take [14] (i := 1) (some 24) rfl rfl rfl (by kernel_rfl) (by kernel_rfl) (by kernel_rfl) (by kernel_rfl) (by kernel_rfl) (fun Ls W h => h.off (by decide)) (.int .i64 i) (fun _ _ _ h => h) (fun Ls W hl0 hW => exec_move (.tmp 5) rfl _ rfl) hS0 hS0 ?_
        go_frame
        refine late_take [14] (i := 2) (some 25) rfl rfl rfl (by kernel_rfl) (by kernel_rfl) (by kernel_rfl) (by kernel_rfl) (by kernel_rfl) (fun Ls W h => h.off (by decide)) (.pointer (some ⟨g, 0 + i, none⟩)) (fun _ _ _ h => h) (fun Ls W hl0 hW => exec_atW (.tmp 23) (.tmp 24) rfl g 0 X.length c i hlt rfl rfl) hS0 hS0 ?_
        go_frame
        refine late_take [14] (i := 3) (some 26) rfl rfl rfl (by kernel_rfl) (by kernel_rfl) (by kernel_rfl) (by kernel_rfl) (by kernel_rfl) (fun Ls W h => h.off (by decide)) (.int .u64 (x' : Int)) (fun _ _ _ h => h) (fun Ls W hl0 hW => exec_loadW (.tmp 25) rfl x' rfl (by rw [Nat.zero_add]; exact (hW (hl0 14 (by simp))).1)) hS0 hS0 ?_
        go_frame
        refine late_take [14] (i := 4) (some 27) rfl rfl rfl (by kernel_rfl) (by kernel_rfl) (by kernel_rfl) (by kernel_rfl) (by kernel_rfl) (fun Ls W h => h.off (by decide)) (.slice (some ⟨g, 0, none⟩) X.length c) (fun _ _ _ h => h) (fun Ls W hl0 hW => exec_move (.tmp 0) rfl _ rfl) hS0 hS0 ?_
        go_frame
        refine late_take [14] (i := 5) (some 28) rfl rfl rfl (by kernel_rfl) (by kernel_rfl) (by kernel_rfl) (by kernel_rfl) (by kernel_rfl) (fun Ls W h => h.off (by decide)) (.int .i64 i) (fun _ _ _ h => h) (fun Ls W hl0 hW => exec_move (.tmp 5) rfl _ rfl) hS0 hS0 ?_
        go_frame
        refine late_take [14] (i := 6) (some 29) rfl rfl rfl (by kernel_rfl) (by kernel_rfl) (by kernel_rfl) (by kernel_rfl) (by kernel_rfl) (fun Ls W h => h.off (by decide)) (.int .i64 ((i + 1 : Nat) : Int)) (fun _ _ _ h => h) (fun Ls W hl0 hW => exec_bin .add 3 _ (.tmp 28) (.const (.int .i64 1)) rfl _ _ _ rfl rfl rfl (run_incI i (by omega) W)) hS0 hS0 ?_
        go_frame
        refine late_take [14] (i := 7) (some 30) rfl rfl rfl (by kernel_rfl) (by kernel_rfl) (by kernel_rfl) (by kernel_rfl) (by kernel_rfl) (fun Ls W h => h.off (by decide)) (.pointer (some ⟨g, 0 + (i + 1), none⟩)) (fun _ _ _ h => h) (fun Ls W hl0 hW => exec_atW (.tmp 27) (.tmp 29) rfl g 0 X.length c (i + 1) hlast rfl rfl) hS0 hS0 ?_
        go_frame
        refine late_take [14] (i := 8) (some 31) rfl rfl rfl (by kernel_rfl) (by kernel_rfl) (by kernel_rfl) (by kernel_rfl) (by kernel_rfl) (fun Ls W h => h.off (by decide)) (.int .u64 (y : Int)) (fun _ _ _ h => h) (fun Ls W hl0 hW => exec_loadW (.tmp 30) rfl y rfl (by rw [Nat.zero_add]; exact (hW (hl0 14 (by simp))).2)) hS0 hS0 ?_
        go_frame
        refine late_take [14] (i := 9) (some 32) rfl rfl rfl (by kernel_rfl) (by kernel_rfl) (by kernel_rfl) (by kernel_rfl) (by kernel_rfl) (fun Ls W h => h.off (by decide)) (.int .i64 s) (fun _ _ _ h => h) (fun Ls W hl0 hW => exec_move (.tmp 1) rfl _ rfl) hS0 hS0 ?_
        go_frame
        refine late_take [14] (i := 10) (some 33) rfl rfl rfl (by kernel_rfl) (by kernel_rfl) (by kernel_rfl) (by kernel_rfl) (by kernel_rfl) (fun Ls W h => h.off (by decide)) (.int .i64 ((64 - s : Nat) : Int)) (fun _ _ _ h => h) (fun Ls W hl0 hW => exec_bin .sub 3 _ (.const (.int .i64 64)) (.tmp 32) rfl _ _ _ rfl rfl rfl (run_backI s (by omega) W)) hS0 hS0 ?_
        go_frame
        refine late_take [14] (i := 11) (some 34) rfl rfl rfl (by kernel_rfl) (by kernel_rfl) (by kernel_rfl) (by kernel_rfl) (by kernel_rfl) (fun Ls W h => h.off (by decide)) (.int .u64 (z : Int)) (fun _ _ _ h => h) (fun Ls W hl0 hW => exec_bin .shl 89 _ (.tmp 31) (.tmp 33) rfl _ _ _ rfl rfl rfl (HSL.out W)) hS0 hS0 ?_
        go_frame
        refine late_take [14] (i := 12) (some 35) rfl rfl rfl (by kernel_rfl) (by kernel_rfl) (by kernel_rfl) (by kernel_rfl) (by kernel_rfl) (fun Ls W h => h.off (by decide)) (.int .u64 ((x' + z : Nat) : Int)) (fun _ _ _ h => h) (fun Ls W hl0 hW => exec_bin .or 89 _ (.tmp 26) (.tmp 34) rfl _ _ _ rfl rfl rfl (HOR.out W)) hS0 hS0 ?_
        go_frame
        refine late_take [14] (i := 13) (some 36) rfl rfl rfl (by kernel_rfl) (by kernel_rfl) (by kernel_rfl) (by kernel_rfl) (by kernel_rfl) (fun Ls W h => h.off (by decide)) (.pointer (some ⟨g, 0 + i, none⟩)) (fun _ _ _ h => h) (fun Ls W hl0 hW => exec_atW (.tmp 23) (.tmp 24) rfl g 0 X.length c i hlt rfl rfl) hS0 hS0 ?_
        go_frame
        refine late_one (i := 14) (by kernel_rfl) (op_wp rfl rfl (wp_store_w (.tmp 36) (.tmp 35) rfl g (0 + i) 89 L2 (x' + z) rfl rfl hK1 (by rw [Nat.zero_add]; exact HLN2.out) (fun w6 hk6 ho6 => ⟨fun h => absurd h (by decide), late_done (by kernel_rfl) ?_ _⟩)))
        go_frame
        rw [Nat.zero_add, HST2.out] at hk6
        have HK6 := Lib.hid hk6
        have HO6 := Lib.hid (hO1.trans ho6)
        clear hk6 ho6 hS1 hK1 hO1 hS0 hc1 hc2 hk5
        go_wp2
        go_roundw
        case rel => exact ⟨i + 1, dn ++ [x' + z], by go_num, by omega, HDN2, HD2, Lib.hid (by rw [HRR.out]; exact HK6.out), HO6⟩
        case measure => simp [intOf]; omega
      · have d2 : decide ((i : Int) + 1 < (X.length : Int)) = false := decide_eq_false (by omega)
        have d2' : decide (i + 1 < X.length) = false := decide_eq_false hlast
        have hn : X.drop (i + 1) = [] := List.drop_eq_nil_of_le (by omega)
        rw [hn] at hB hst hlen hD
        have hz0 : ([] : List Nat).headD 0 * 2 ^ (64 - s) % B = 0 := by simp
        rw [hz0, Nat.add_zero] at hD
        have HD2 := Lib.hid (show (dn ++ [x']) ++ dnL (X.drop (i + 1)) s = dnL X s by rw [← hD, hn]; simp)
        have HDN2 := Lib.hid (show (dn ++ [x']).length = i + 1 by rw [List.length_append, HDN.out]; rfl)
        obtain ⟨L1, hL1⟩ : ∃ L1, dn ++ x :: [] = L1 := ⟨_, rfl⟩
        rw [hL1] at hB hst hlen
        have HRR := Lib.hid hn
        have HBL := Lib.hid hB
        have HST := Lib.hid hst
        have HLN := Lib.hid hlen
        clear hxd hx hxB hx' hB hD hgm hst hgm2 hlen hwd hn hz0 hL1 HB HD
        go_wp2_with (first | (refine wpList_dst 16 rfl ?_; refine wpList_run 16 rfl rfl _ (exec_bin .shr 89 _ (.tmp 14) (.tmp 15) rfl _ _ _ rfl rfl rfl (HSR.out _)) ?_) | (refine wpList_store_w rfl (.tmp 17) (.tmp 16) rfl g i _ L1 x' rfl rfl HBL.out HLN.out ?_; intro w5 HB5 ho5; have HO5 := Lib.hid (HO.out.trans ho5); clear ho5))
        go_roundw
        case rel => exact ⟨i + 1, dn ++ [x'], by go_num, by omega, HDN2, HD2, Lib.hid (by rw [HRR.out, ← HST.out]; exact HB5.out), HO5⟩
        case measure => simp [intOf]; omega
    · obtain rfl : i = X.length := by omega
      have d1 : decide ((X.length : Int) < (X.length : Int)) = false := decide_eq_false (by omega)
      have hD := HD.out
      have hB := HB.out
      rw [List.drop_length] at hD hB
      simp only [dnL, List.append_nil] at hD hB
      have HE := Lib.hid (show Blk wr g 89 (ws (dnL X s)) by rw [← hD]; exact hB)
      clear hD hB HD HB
      go_wp2
      go_ret
      exact ⟨rfl, HE.out, HO.out⟩
end Go.Proofs.YtpmlihhofmblpaaGreatDoor

/- divMod: the plain part. -/
namespace Go.Proofs.YtpmlihhofmblpaaGreatDoor
open Go.RowKit Hm Wm Wn

/-- A guess is not less than the true digit. -/
theorem guess_ge {W d q hi lo top k r : Nat} (hW : W = (hi * 18446744073709551616 + lo) * k + r) (hr : r < k) (hd : top * k ≤ d) (ht : 0 < top) (hq : q * d ≤ W) (hqB : q < B) : q ≤ guessN hi lo top := by
  unfold guessN
  by_cases h : top ≤ hi
  · rw [if_pos h]
    exact Nat.le_of_lt_succ hqB
  · rw [if_neg h, Nat.le_div_iff_mul_le ht]
    have h1 : q * (top * k) ≤ q * d := Nat.mul_le_mul_left _ hd
    rw [← Nat.mul_assoc] at h1
    have h2 : q * top * k < (hi * 18446744073709551616 + lo + 1) * k := by rw [Nat.add_mul _ 1, Nat.one_mul]; omega
    exact Nat.le_of_lt_succ (Nat.lt_of_mul_lt_mul_right h2)
section
variable {W d f f2 q Z b n n2 : Nat}
theorem take_ok (hd : 0 < d) (hq : W / d = q) (hf : q ≤ f) (hs : n + f * d = W + Z * b) (hb : b = 0) : f = q ∧ n < d ∧ n + q * d = W := by
  subst hb
  rw [Nat.mul_zero, Nat.add_zero] at hs
  have h1 : f ≤ q := by rw [← hq, Nat.le_div_iff_mul_le hd]; omega
  obtain rfl : f = q := Nat.le_antisymm h1 hf
  have h2 := Nat.div_add_mod W d
  have h3 := Nat.mod_lt W hd
  rw [hq, Nat.mul_comm] at h2
  exact ⟨rfl, by omega, hs⟩
theorem take_no (hq : W / d = q) (hs : n + f * d = W + Z * b) (hb : b ≠ 0) (hn : n < Z) (hfd : f * d < Z) : n + f * d = W + Z ∧ q < f := by
  have hb1 : b = 1 := by
    rcases Nat.lt_or_ge b 2 with h | h
    · omega
    · have := Nat.mul_le_mul_left Z h
      omega
  subst hb1
  rw [Nat.mul_one] at hs
  refine ⟨hs, ?_⟩
  rcases Nat.lt_or_ge q f with h | h
  · exact h
  · have h1 := Nat.mul_le_mul_right d h
    have h2 := Nat.div_mul_le_self W d
    rw [hq] at h2
    omega
theorem back_no (hq : W / d = q) (h0 : n + f * d = W + Z) (hf : f = f2 + 1) (hs : n2 + Z * b = n + d) (hb : b = 0) (hn2 : n2 < Z) : n2 + f2 * d = W + Z ∧ q < f2 := by
  subst hb hf
  rw [Nat.mul_zero, Nat.add_zero] at hs
  rw [Nat.add_mul, Nat.one_mul] at h0
  have h1 : n2 + f2 * d = W + Z := by omega
  refine ⟨h1, ?_⟩
  rcases Nat.lt_or_ge q f2 with h | h
  · exact h
  · have h3 := Nat.mul_le_mul_right d h
    have h2 := Nat.div_mul_le_self W d
    rw [hq] at h2
    omega
theorem back_ok (hd : 0 < d) (hq : W / d = q) (h0 : n + f * d = W + Z) (hqf : q < f) (hf : f = f2 + 1) (hs : n2 + Z * b = n + d) (hb : b ≠ 0) (hn : n < Z) (hdZ : d ≤ Z) : f2 = q ∧ n2 < d ∧ n2 + q * d = W := by
  have hb1 : b = 1 := by
    rcases Nat.lt_or_ge b 2 with h | h
    · omega
    · have := Nat.mul_le_mul_left Z h
      omega
  subst hb1 hf
  rw [Nat.mul_one] at hs
  rw [Nat.add_mul, Nat.one_mul] at h0
  exact take_ok (Z := 0) (b := 0) hd hq (by omega) (by omega) rfl
end
/-- A row set at a place where it was 0. -/
theorem num_set0 : ∀ (l : List Nat) (i v : Nat), l[i]? = some 0 → num (l.set i v) = num l + B ^ i * v
  | [], i, v, h => by simp at h
  | x :: r, 0, v, h => by
    obtain rfl : x = 0 := by simpa using h
    rw [List.set_cons_zero, num, num, Nat.pow_zero]; omega
  | x :: r, i + 1, v, h => by
    rw [List.set_cons_succ, num, num, num_set0 r i v (by simpa using h), Nat.mul_add, Nat.pow_succ, Nat.mul_comm (B ^ i) B, Nat.mul_assoc]; omega
/-- The window at a place. -/
theorem win_split (R : List Nat) (i k : Nat) (h : i + k ≤ R.length) : (R.take i).length = i ∧ ((R.drop i).take k).length = k ∧ R = R.take i ++ (R.drop i).take k ++ R.drop (i + k) ∧
    num R = num (R.take i) + B ^ i * num (R.drop i) ∧ num (R.drop i) = num ((R.drop i).take k) + B ^ k * num (R.drop (i + k)) := by
  have h1 : (R.take i).length = i := by rw [List.length_take]; omega
  have h2 : ((R.drop i).take k).length = k := by rw [List.length_take, List.length_drop]; omega
  have h3 : R.drop (i + k) = (R.drop i).drop k := by rw [List.drop_drop]
  refine ⟨h1, h2, by rw [h3, List.append_assoc, List.take_append_drop, List.take_append_drop], ?_, ?_⟩
  · conv => lhs; rw [← List.take_append_drop i R, num_append, h1]
  · rw [h3]
    conv => lhs; rw [← List.take_append_drop k (R.drop i), num_append, h2]
/-- Nothing stands above the window. -/
theorem win_num (R : List Nat) (i k d : Nat) (hR : Dig R) (h : i + (k + 1) ≤ R.length) (hlt : num (R.drop (i + 1)) < d) (hd : d < B ^ k) :
    num ((R.drop i).take (k + 1)) < B * d ∧ num ((R.drop i).take (k + 1)) = num (R.drop i) ∧ num (R.drop (i + (k + 1))) = 0 := by
  obtain ⟨_, _, _, _, h5⟩ := win_split R i (k + 1) h
  have hi : i < R.length := by omega
  have h6 : num (R.drop i) = R[i] + B * num (R.drop (i + 1)) := by rw [List.drop_eq_getElem_cons hi, num]
  have h7 := hR _ (List.getElem_mem hi)
  have h8 : num (R.drop i) < B * d := by
    have := Nat.mul_le_mul_left B (Nat.succ_le_of_lt hlt)
    rw [Nat.mul_succ] at this
    omega
  have h9 : B * d < B ^ (k + 1) := by
    rw [Nat.pow_succ, Nat.mul_comm]
    exact Nat.mul_lt_mul_of_pos_right hd B_pos
  have h10 : num (R.drop (i + (k + 1))) = 0 := by
    rcases Nat.eq_zero_or_pos (num (R.drop (i + (k + 1)))) with h0 | h0
    · exact h0
    · have := Nat.mul_le_mul_left (B ^ (k + 1)) h0
      omega
  rw [h10, Nat.mul_zero, Nat.add_zero] at h5
  exact ⟨by omega, h5.symm, h10⟩
/-- A window of new digits: what the whole row is. -/
theorem win_new (R V : List Nat) (i k W q d : Nat) (h : i + k ≤ R.length) (hV : V.length = k) (hp : num (R.drop (i + k)) = 0) (hW : num (R.drop i) = W) (hv : num V + q * d = W) :
    (R.take i ++ V ++ R.drop (i + k)).length = R.length ∧ num ((R.take i ++ V ++ R.drop (i + k)).drop i) = num V ∧ num R = num (R.take i ++ V ++ R.drop (i + k)) + B ^ i * (q * d) := by
  obtain ⟨h1, _, _, h4, _⟩ := win_split R i k h
  have e : num (V ++ R.drop (i + k)) = num V := by rw [num_append, hp, Nat.mul_zero, Nat.add_zero]
  refine ⟨?_, ?_, ?_⟩
  · rw [List.length_append, List.length_append, h1, hV, List.length_drop]; omega
  · rw [List.append_assoc, List.drop_append_of_le_length (by omega), List.drop_eq_nil_of_le (by omega), List.nil_append, e]
  · rw [List.append_assoc, num_append, h1, e, h4, hW, ← hv, Nat.mul_add]; omega
/-- What stands at a place of the division: j digits of the quotient are left. -/
structure DvI (X Y : List Nat) (s d : Nat) (R Q : List Nat) (j : Nat) : Prop where
  rl : R.length = X.length + 1
  rd : Dig R
  top : num (R.drop j) < d
  ql : Q.length = X.length - Y.length + 1
  qd : Dig Q
  q0 : ∀ k, k < j → Q[k]? = some 0
  sum : num Q * d + num R = num X * 2 ^ s
theorem DvI.start {X Y R : List Nat} {s d : Nat} (hX : Dig X) (hY0 : B ^ (Y.length - 1) ≤ num Y) (hY1 : 0 < Y.length) (hl : Y.length ≤ X.length) (hd : d = num Y * 2 ^ s) (hR : R.length = X.length + 1) (hRd : Dig R) (hn : num R = num X * 2 ^ s) :
    DvI X Y s d R (List.replicate (X.length - Y.length + 1) 0) (X.length - Y.length + 1) := by
  refine ⟨hR, hRd, ?_, List.length_replicate, dig_zeros _, ?_, by rw [num_zeros, Nat.zero_mul, Nat.zero_add, hn]⟩
  · obtain ⟨_, _, _, h4, _⟩ := win_split R (X.length - Y.length + 1) 0 (by omega)
    have h1 := num_lt hX
    have h2 : B ^ X.length ≤ B ^ (X.length - Y.length + 1) * num Y := by
      have := Nat.mul_le_mul_left (B ^ (X.length - Y.length + 1)) hY0
      rw [← Nat.pow_add, show X.length - Y.length + 1 + (Y.length - 1) = X.length by omega] at this
      exact this
    have h3 : num X * 2 ^ s < B ^ (X.length - Y.length + 1) * d := by
      rw [hd, ← Nat.mul_assoc]
      exact Nat.mul_lt_mul_of_pos_right (by omega) (Nat.two_pow_pos s)
    rw [hn] at h4
    exact Nat.lt_of_mul_lt_mul_left (a := B ^ (X.length - Y.length + 1)) (by omega)
  · intro k hk
    rw [List.getElem?_replicate, if_pos hk]
theorem DvI.next {X Y R Q R2 : List Nat} {s d i q : Nat} (h : DvI X Y s d R Q (i + 1)) (hl : R2.length = R.length) (hd : Dig R2) (ht : num (R2.drop i) < d) (hn : num R = num R2 + B ^ i * (q * d)) (hq : q < B) : DvI X Y s d R2 (Q.set i q) i := by
  refine ⟨by rw [hl, h.rl], hd, ht, by rw [List.length_set, h.ql], ?_, ?_, ?_⟩
  · intro x hx
    rcases List.mem_or_eq_of_mem_set hx with hx | rfl
    · exact h.qd x hx
    · exact hq
  · intro k hk
    rw [List.getElem?_set_ne (by omega)]
    exact h.q0 k (by omega)
  · rw [num_set0 Q i q (h.q0 i (by omega)), ← h.sum, hn, Nat.add_mul, Nat.mul_assoc]; omega
theorem DvI.done {X Y R Q : List Nat} {s d : Nat} (h : DvI X Y s d R Q 0) (hd : d = num Y * 2 ^ s) (hs : s ≤ 64) : num Q = num X / num Y ∧ num (dnL R s) = num X % num Y := by
  have h1 := h.top
  rw [List.drop_zero] at h1
  have h2 := h.sum
  have hp := Nat.two_pow_pos s
  have h3 : num X * 2 ^ s / d = num Q := by
    rw [← h2, Nat.mul_comm (num Q) d, Nat.mul_add_div (by omega), Nat.div_eq_of_lt h1, Nat.add_zero]
  have h4 : num X * 2 ^ s % d = num R := by
    rw [← h2, Nat.mul_comm (num Q) d, Nat.mul_add_mod, Nat.mod_eq_of_lt h1]
  rw [hd, Nat.mul_div_mul_right _ _ hp] at h3
  rw [hd, Nat.mul_mod_mul_right] at h4
  exact ⟨h3.symm, by rw [dnL_num R s hs, ← h4, Nat.mul_div_cancel _ hp]⟩
/-- The divisor, shifted up. -/
theorem dv_divisor {Y P : List Nat} {s top : Nat} (hY : Dig Y) (hl : 0 < Y.length) (ht : Y[Y.length - 1]? = some top) (ht0 : 0 < top) (h2 : top * 2 ^ s < B) (hs : s ≤ 64) (hP : P.length = Y.length + 1) (hn : num P = num Y * 2 ^ s) :
    (P.take Y.length).length = Y.length ∧ num (P.take Y.length) = num Y * 2 ^ s ∧ B ^ (Y.length - 1) ≤ num Y ∧ num Y * 2 ^ s < B ^ Y.length := by
  have hk : Y.length - 1 < Y.length := by omega
  have e1 : num Y = num (Y.take (Y.length - 1)) + B ^ (Y.length - 1) * top := by
    have h1 := (win_split Y (Y.length - 1) 0 (by omega)).2.2.2.1
    have h3 : Y.drop (Y.length - 1) = [top] := by
      rw [List.drop_eq_getElem_cons hk, List.drop_eq_nil_of_le (by omega)]
      rw [List.getElem?_eq_getElem hk] at ht
      rw [Option.some.inj ht]
    rw [h3] at h1
    simpa [num] using h1
  have e2 := num_lt (hY.take (Y.length - 1))
  rw [List.length_take, Nat.min_eq_left (by omega)] at e2
  have h3 : B ^ (Y.length - 1) ≤ num Y := by
    have := Nat.mul_le_mul_left (B ^ (Y.length - 1)) ht0
    omega
  have h4 : num Y < B ^ (Y.length - 1) * (top + 1) := by rw [Nat.mul_succ]; omega
  have h5 : (top + 1) * 2 ^ s ≤ B := by
    rw [← dn_two hs, Nat.mul_comm (2 ^ s)] at h2 ⊢
    exact Nat.mul_le_mul_right _ (Nat.lt_of_mul_lt_mul_right h2)
  have h6 : num Y * 2 ^ s < B ^ Y.length := by
    have h7 := Nat.mul_lt_mul_of_pos_right h4 (Nat.two_pow_pos s)
    rw [Nat.mul_assoc] at h7
    have h8 := Nat.mul_le_mul_left (B ^ (Y.length - 1)) h5
    have h9 : B ^ (Y.length - 1) * B = B ^ Y.length := by rw [← Nat.pow_succ]; congr 1; omega
    omega
  obtain ⟨_, _, _, g4, _⟩ := win_split P Y.length 1 (by omega)
  have h10 : num (P.drop Y.length) = 0 := by
    rcases Nat.eq_zero_or_pos (num (P.drop Y.length)) with h0 | h0
    · exact h0
    · have := Nat.mul_le_mul_left (B ^ Y.length) h0
      omega
  rw [h10, Nat.mul_zero, Nat.add_zero] at g4
  exact ⟨by rw [List.length_take]; omega, by rw [← g4, hn], h3, h6⟩
/-- The true digit at a place. -/
theorem DvI.digit {X Y R Q : List Nat} {s d i n : Nat} (h : DvI X Y s d R Q (i + 1)) (hi : i + (n + 1) ≤ R.length) (hd : d < B ^ n) :
    num ((R.drop i).take (n + 1)) / d < B ∧ num ((R.drop i).take (n + 1)) = num (R.drop i) ∧ num (R.drop (i + (n + 1))) = 0 := by
  obtain ⟨h1, h2, h3⟩ := win_num R i n d h.rd hi h.top hd
  exact ⟨Nat.div_lt_of_lt_mul (by rw [Nat.mul_comm]; exact h1), h2, h3⟩
/-- A place is done: the window's new digits make the row's next state. -/
theorem DvI.place {X Y R Q V : List Nat} {s d i n q : Nat} (h : DvI X Y s d R Q (i + 1)) (hi : i + (n + 1) ≤ R.length) (hd : d < B ^ n) (hVl : V.length = n + 1) (hVd : Dig V) (hVn : num V < d) (hq : q < B) (hv : num V + q * d = num ((R.drop i).take (n + 1))) :
    DvI X Y s d (R.take i ++ V ++ R.drop (i + (n + 1))) (Q.set i q) i := by
  obtain ⟨_, h2, h3⟩ := h.digit hi hd
  obtain ⟨g1, g2, g3⟩ := win_new R V i (n + 1) _ q d hi hVl h3 h2.symm hv
  refine h.next g1 ?_ (by rw [g2]; exact hVn) g3 hq
  rw [Dig.app, Dig.app]
  exact ⟨⟨h.rd.take i, hVd⟩, h.rd.drop _⟩
/-- The first subtraction at a place, by rows. -/
theorem dv_sub {V D : List Nat} {d n f q : Nat} (hV : Dig V) (hVl : V.length = n + 1) (hDl : D.length = n) (hDn : num D = d) (hd0 : 0 < d) (hd : d < B ^ n) (hf : f < B) (hqf : q ≤ f) (hq : num V / d = q) :
    (subTL V D f 0).1.length = n + 1 ∧ Dig (subTL V D f 0).1 ∧
    ((subTL V D f 0).2 = 0 → f = q ∧ num (subTL V D f 0).1 < d ∧ num (subTL V D f 0).1 + q * d = num V) ∧
    ((subTL V D f 0).2 ≠ 0 → num (subTL V D f 0).1 + f * d = num V + B ^ (n + 1) ∧ q < f) := by
  have h1 := subTL_num V D f 0 hV (by omega)
  have h2 := subTL_dig V D f 0
  have h3 := num_lt h2
  rw [subTL_len, hVl] at h3
  rw [hDn, Nat.add_zero, hVl] at h1
  have h4 : f * d < B ^ (n + 1) := by
    rw [Nat.pow_succ, Nat.mul_comm (B ^ n)]
    exact Nat.mul_lt_mul'' hf hd
  refine ⟨by rw [subTL_len, hVl], h2, fun hb => take_ok hd0 hq hqf h1 hb, fun hb => take_no hq h1 hb h3 h4⟩
/-- One step back, by rows. -/
theorem dv_back {V D : List Nat} {W d n f f2 q : Nat} (hV : Dig V) (hVl : V.length = n + 1) (hDl : D.length = n) (hDn : num D = d) (hd0 : 0 < d) (hd : d < B ^ n) (hq : W / d = q) (h0 : num V + f * d = W + B ^ (n + 1)) (hqf : q < f) (hf : f = f2 + 1) :
    (addTL V D 1 0).1.length = n + 1 ∧ Dig (addTL V D 1 0).1 ∧
    ((addTL V D 1 0).2 ≠ 0 → f2 = q ∧ num (addTL V D 1 0).1 < d ∧ num (addTL V D 1 0).1 + q * d = W) ∧
    ((addTL V D 1 0).2 = 0 → num (addTL V D 1 0).1 + f2 * d = W + B ^ (n + 1) ∧ q < f2) := by
  have h1 := addTL_num V D 1 0 (by omega)
  have h2 := addTL_dig V D 1 0
  have h3 := num_lt h2
  have h4 := num_lt hV
  rw [addTL_len, hVl] at h3
  rw [hVl] at h4
  rw [hDn, Nat.add_zero, Nat.one_mul, hVl] at h1
  have h5 : d ≤ B ^ (n + 1) := Nat.le_of_lt (Nat.lt_of_lt_of_le hd (Nat.pow_le_pow_right B_pos (by omega)))
  exact ⟨by rw [addTL_len, hVl], h2, fun hb => back_ok hd0 hq h0 hqf hf h1 hb h4 h5, fun hb => back_no hq h0 hf h1 hb h3⟩
/-- The guess at a place is not less than the true digit. -/
theorem dv_guess {V D : List Nat} {d n hi lo top : Nat} (hV : Dig V) (hVl : V.length = n + 1) (hn : 0 < n) (hh : V[n]? = some hi) (hlo : V[n - 1]? = some lo) (hDl : D.length = n) (hDn : num D = d) (ht : D[n - 1]? = some top) (ht0 : 0 < top) (hqB : num V / d < B) :
    num V / d ≤ guessN hi lo top ∧ guessN hi lo top < B := by
  have hk : n - 1 + 1 = n := by omega
  have hkn : n - 1 < V.length := by omega
  have hnn : n < V.length := by omega
  have hdn : n - 1 < D.length := by omega
  have e1 := (win_split V (n - 1) 0 (by omega)).2.2.2.1
  have e2 : V.drop (n - 1) = [lo, hi] := by
    rw [List.getElem?_eq_getElem hkn] at hlo
    rw [List.getElem?_eq_getElem hnn] at hh
    rw [List.drop_eq_getElem_cons hkn, hk, List.drop_eq_getElem_cons hnn, List.drop_eq_nil_of_le (by omega), Option.some.inj hlo, Option.some.inj hh]
  have e3 : num [lo, hi] = hi * 18446744073709551616 + lo := by
    simp only [num]
    unfold B
    omega
  rw [e2, e3] at e1
  have e4 := num_lt (hV.take (n - 1))
  rw [List.length_take, Nat.min_eq_left (by omega)] at e4
  have e5 : top * B ^ (n - 1) ≤ d := by
    have g1 := (win_split D (n - 1) 0 (by omega)).2.2.2.1
    have g2 : D.drop (n - 1) = [top] := by
      rw [List.getElem?_eq_getElem hdn] at ht
      rw [List.drop_eq_getElem_cons hdn, List.drop_eq_nil_of_le (by omega), Option.some.inj ht]
    rw [g2, hDn] at g1
    simp only [num, Nat.mul_zero, Nat.add_zero] at g1
    rw [g1, Nat.mul_comm]
    omega
  constructor
  · exact guess_ge (k := B ^ (n - 1)) (r := num (V.take (n - 1))) (by rw [e1, Nat.mul_comm (B ^ (n - 1))]; omega) e4 e5 ht0 (Nat.div_mul_le_self _ _) hqB
  · unfold guessN
    by_cases h : top ≤ hi
    · rw [if_pos h]; unfold B; omega
    · rw [if_neg h]
      have hl : lo < B := hV _ (List.mem_of_getElem? hlo)
      refine Nat.div_lt_of_lt_mul ?_
      have := Nat.mul_le_mul_right 18446744073709551616 (Nat.succ_le_of_lt (Nat.lt_of_not_le h))
      rw [Nat.succ_mul] at this
      unfold B at *
      omega
end Go.Proofs.YtpmlihhofmblpaaGreatDoor

/- divMod: the short case, and the loop's relation. -/
namespace Go.Proofs.YtpmlihhofmblpaaGreatDoor
open Go.RowKit Hm Wm Wn

theorem newW_zero (w : World) : NewW w 0 (.slice none 0 0) := ⟨none, 0, by rw [digW_zero]; rfl, by rw [digW_zero]; exact Rd.nil _ _, by rw [digW_zero]; exact Nat.le_refl _⟩
set_option maxRecDepth 100000 in
set_option maxHeartbeats 400000 in
theorem divMod_short (A : Option Addr) (c N : Nat) (A2 : Option Addr) (c2 M : Nat) (w : World) (hr : RdW w A (digW N)) (hc : (digW N).length ≤ c) (hlt : (digW N).length < (digW M).length) (hl : (digW M).length ≤ 100000) :
    Calls Tryz.prog 87 #[.slice A (digW N).length c, .slice A2 (digW M).length c2] w fun e w' => ∃ v1 v2, e = .returned (.tuple #[v1, v2]) ∧ NewW w' (N / M) v1 ∧ NewW w' (N % M) v2 ∧ w' = w := by
  have hM : M ≠ 0 := fun h => by rw [h, digW_zero] at hlt; simp at hlt
  obtain ⟨g1, g2⟩ := digW_ge hM
  have h1 := digW_lt N
  have h2 : B ^ (digW N).length ≤ B ^ ((digW M).length - 1) := Nat.pow_le_pow_right B_pos (by omega)
  have hNM : N < M := by omega
  have HV := Lib.hid (show NewW w (N % M) (.slice A (digW N).length c) from ⟨A, c, by rw [Nat.mod_eq_of_lt hNM], by rw [Nat.mod_eq_of_lt hNM]; exact hr, by rw [Nat.mod_eq_of_lt hNM]; exact hc⟩)
  have HZ := Lib.hid (show NewW w (N / M) (.slice none 0 0) by rw [Nat.div_eq_of_lt hNM]; exact newW_zero w)
  obtain ⟨n, hn⟩ : ∃ n, (digW M).length = n := ⟨_, rfl⟩
  obtain ⟨m, hm⟩ : ∃ m, (digW N).length = m := ⟨_, rfl⟩
  rw [hn] at hlt hl
  rw [hm] at hlt HV
  rw [hn, hm]
  have d1 : decide ((m : Int) < (n : Int)) = true := decide_eq_true (by omega)
  have d1' : decide (m < n) = true := decide_eq_true hlt
  clear hr hc hM g1 g2 h1 h2 hNM hn hm
  go_enter Tryz.func87, Tryz.ntmps87
  go_wp2_with fail
  go_step3
  go_wp2_with fail
  rw [Exit.noGoto_ret]
  go_ret2
  exact ⟨_, _, rfl, HZ.out, HV.out, rfl⟩
/-- What stands in the loop of divMod: the blocks of the divisor, the rest and the quotient. -/
structure DmS (w : World) (X Y : List Nat) (s g1 g2 g3 : Nat) (P R Q : List Nat) (j : Nat) (wr : World) : Prop where
  b1 : Blk wr g1 89 (ws P)
  b2 : Blk wr g2 89 (ws R)
  b3 : Blk wr g3 89 (ws Q)
  st : DvI X Y s (num Y * 2 ^ s) R Q j
  below : Below w.heap.size w wr
def DmR (w : World) (X Y : List Nat) (s g1 g2 g3 : Nat) (P : List Nat) (iv : Value) (wr : World) : Prop :=
  ∃ (j : Nat) (R Q : List Nat), iv = .int .i64 ((j : Int) - 1) ∧ j ≤ X.length - Y.length + 1 ∧ Hid (DmS w X Y s g1 g2 g3 P R Q j wr)
/-- What stands in the inner loop: the window's number and the digit, which is still too great. -/
structure DmB (w : World) (X Y : List Nat) (s g1 g2 g3 i : Nat) (P R Q V : List Nat) (f : Nat) (wr : World) : Prop where
  b1 : Blk wr g1 89 (ws P)
  b2 : Blk wr g2 89 (ws (R.take i ++ V ++ R.drop (i + (Y.length + 1))))
  b3 : Blk wr g3 89 (ws (Q.set i f))
  st : DvI X Y s (num Y * 2 ^ s) R Q (i + 1)
  below : Below w.heap.size w wr
  vl : V.length = Y.length + 1
  vd : Dig V
  sum : num V + f * (num Y * 2 ^ s) = num ((R.drop i).take (Y.length + 1)) + B ^ (Y.length + 1)
  qf : num ((R.drop i).take (Y.length + 1)) / (num Y * 2 ^ s) < f
  fB : f < B
end Go.Proofs.YtpmlihhofmblpaaGreatDoor
