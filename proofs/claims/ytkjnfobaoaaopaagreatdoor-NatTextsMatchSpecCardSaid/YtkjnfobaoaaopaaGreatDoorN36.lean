/- The calls of the nat laws, with named results. -/
import Derived.Test.YtkjnfobaoaaopaaGreatDoorN35
namespace Go.Proofs.YtkjnfobaoaaopaaGreatDoor
open Go.RowKit Hm Wm Wn

theorem cS_len {n k : Nat} (h : n < 256 ^ k) : (cS n).size ≤ k := by rw [cS_size]; exact canS_len_le h
theorem cS_sum {x y : ByteArray} {k : Nat} (hx : x.size ≤ k) (hy : y.size ≤ k) : (cS (nB x + nB y)).size ≤ k + 1 := by
  have h1 : nB x < 256 ^ k := Nat.lt_of_lt_of_le (nB_lt x) (Nat.pow_le_pow_right (by decide) hx)
  have h2 : nB y < 256 ^ k := Nat.lt_of_lt_of_le (nB_lt y) (Nat.pow_le_pow_right (by decide) hy)
  refine cS_len ?_
  rw [Nat.pow_succ]
  omega
theorem cS_prod {x y : ByteArray} {j k : Nat} (hx : x.size ≤ j) (hy : y.size ≤ k) : (cS (nB x * nB y)).size ≤ j + k := by
  have h1 : nB x < 256 ^ j := Nat.lt_of_lt_of_le (nB_lt x) (Nat.pow_le_pow_right (by decide) hx)
  have h2 : nB y < 256 ^ k := Nat.lt_of_lt_of_le (nB_lt y) (Nat.pow_le_pow_right (by decide) hy)
  refine cS_len ?_
  rw [Nat.pow_add]
  exact Nat.mul_lt_mul_of_lt_of_le h1 (Nat.le_of_lt h2) (Nat.pow_pos (by decide))
theorem cS_less {n : Nat} {x : ByteArray} {k : Nat} (h : n ≤ nB x) (hx : x.size ≤ k) : (cS n).size ≤ k :=
  cS_len (Nat.lt_of_le_of_lt h (Nat.lt_of_lt_of_le (nB_lt x) (Nat.pow_le_pow_right (by decide) hx)))
theorem addC (x y z : ByteArray) (w : World) (hx : x.size ≤ 40000) (hy : y.size ≤ 40000) (h : cS (nB x + nB y) = z) : Calls Tryz.prog 16 #[.string x, .string y] w fun e w' => e = .returned (.string z) ∧ Below w.heap.size w w' := by
  subst h; exact add_any x y w hx hy
theorem mulC (x y z : ByteArray) (w : World) (hx : x.size ≤ 40000) (hy : y.size ≤ 40000) (h : cS (nB x * nB y) = z) : Calls Tryz.prog 18 #[.string x, .string y] w fun e w' => e = .returned (.string z) ∧ Below w.heap.size w w' := by
  subst h; exact mul_any x y w hx hy
theorem cleanC (x z : ByteArray) (w : World) (h : cS (nB x) = z) : Calls Tryz.prog 12 #[.string x] w fun e w' => e = .returned (.string z) ∧ w' = w := by
  subst h; exact clean_any x w
theorem cmpC (x y : ByteArray) (k : Int) (w : World) (h : cmpN (nB x) (nB y) = k) : Calls Tryz.prog 14 #[.string x, .string y] w fun e w' => e = .returned (.int .i64 k) ∧ w' = w := by
  subst h; exact cmp_any x y w
theorem subC (x y z : ByteArray) (w : World) (hx : x.size ≤ 40000) (hy : y.size ≤ 40000) (hle : nB y ≤ nB x) (h : cS (nB x - nB y) = z) : Calls Tryz.prog 6 #[.string x, .string y] w fun e w' => e = .returned (.tuple #[.string z, .int .i64 0]) ∧ Below w.heap.size w w' := by
  subst h; exact sub_any x y w hx hy hle
theorem validC (n : Nat) (x : ByteArray) (w : World) (h : cS n = x) : Calls Tryz.prog 10 #[.string x] w fun e w' => e = .returned (.bool true) ∧ w' = w := by
  have h1 := valid_any x w
  rw [show validB x = true by rw [← h]; exact validB_cS n] at h1
  exact h1
theorem divC (x y q r : ByteArray) (w : World) (hx : x.size ≤ 40000) (hy : y.size ≤ 40000) (h0 : nB y ≠ 0) (hq : cS (nB x / nB y) = q) (hr : cS (nB x % nB y) = r) : Calls Tryz.prog 7 #[.string x, .string y] w fun e w' => e = .returned (.tuple #[.string q, .string r, .int .i64 0]) ∧ Below w.heap.size w w' := by
  subst hq; subst hr; exact divModS_any x y w hx hy h0
theorem gcdC (x y g : ByteArray) (w : World) (hx : x.size ≤ 40000) (hy : y.size ≤ 40000) (h : cS (Nat.gcd (nB x) (nB y)) = g) : Calls Tryz.prog 20 #[.string x, .string y] w fun e w' => e = .returned (.string g) ∧ Below w.heap.size w w' := by
  subst h; exact gcd_any x y w hx hy
theorem run_eqS (x y : ByteArray) (b : Bool) (h : decide (x = y) = b) (w : World) : (binOp .eql 9 (.string x) (.string y)).run Tryz.prog w = .ok (.bool b) w := by
  subst h
  have h1 := run_eql_str w x.data.toList y.data.toList
  rw [show sb x.data.toList = x by cases x; simp [sb], show sb y.data.toList = y by cases y; simp [sb]] at h1
  rw [h1]
  congr 2
  refine decide_eq_decide.2 ⟨fun h => ?_, fun h => by rw [h]⟩
  cases x
  cases y
  simpa using h
theorem cmpN_swap (a b : Nat) : -cmpN b a = cmpN a b := by unfold cmpN; split <;> split <;> omega
theorem cmpN_bounds (a b : Nat) : -1 ≤ cmpN a b ∧ cmpN a b ≤ 1 := by unfold cmpN; split <;> (try split) <;> omega
theorem cmpN_add (a b c : Nat) : cmpN (a + c) (b + c) = cmpN a b := by
  unfold cmpN
  congr 1
  · exact propext (by omega)
  · congr 1
    exact propext (by omega)
theorem cmpN_mul (a b : Nat) {c : Nat} (hc : 0 < c) : cmpN (a * c) (b * c) = cmpN a b := by
  unfold cmpN
  congr 1
  · exact propext (Nat.mul_lt_mul_right hc)
  · congr 1
    exact propext (Nat.mul_lt_mul_right hc)
theorem exec_negI {oi : Oper} {a : Act} {w : World} (x : Operand) (ho : oi.op = .unOp .neg 3 x) (k' k : Int) (hb : -1 ≤ k ∧ k ≤ 1) (hk : -k' = k) (hx : a.eval x = .int .i64 k') : (execOp a.eval oi).run Tryz.prog w = .ok (.value (.int .i64 k)) w := by
  have hw : IntKind.i64.wrap (-k') = k := by rw [hk]; simp [IntKind.wrap, IntKind.bits, IntKind.signed]; omega
  unfold execOp
  simp only [ho, hx]
  simp [go_sem, hw]
end Go.Proofs.YtkjnfobaoaaopaaGreatDoor
