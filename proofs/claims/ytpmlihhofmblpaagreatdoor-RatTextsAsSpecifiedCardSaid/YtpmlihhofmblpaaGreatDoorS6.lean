/- The reference: Div, Make and Int. -/
import Derived.Test.YtpmlihhofmblpaaGreatDoorS5
namespace Go.Proofs.YtpmlihhofmblpaaGreatDoor
open Go.RowKit Hm Wm Wn

theorem size_rivermarkref05_Made : (Tryz.prog.info? 32).map (·.size) = some 4 := by kernel_rfl
theorem zero_rivermarkref05_Made : (Tryz.prog.info? 32).map (·.zero) = some (some (.agg #[.bool false, .string ByteArray.empty, .string ByteArray.empty, .int .i64 0])) := by kernel_rfl
theorem fa_rivermarkref05_Made_0_0 (g : Nat) (W : World) : (Instr.fieldAt 32 (.pointer (some ⟨g, 0, none⟩)) 0).run Tryz.prog W = .ok (.pointer (some ⟨g, 0, none⟩)) W := by kernel_rfl
theorem exec_eqlI {P : Program} {oi : Oper} {a : Act} {w : World} (t : TypeId) (x y : Operand) (rt : TypeId) (ho : oi.op = .binOp .eql t x y rt) (k : IntKind) (m n : Int) (r : Bool) (hr : (m == n) = r) (hx : a.eval x = .int k m) (hy : a.eval y = .int k n) : (execOp a.eval oi).run P w = .ok (.value (.bool r)) w := by
  subst hr
  exact exec_eqI (P := P) (w := w) t x y rt ho k m n hx hy
theorem exec_lssI' {P : Program} {oi : Oper} {a : Act} {w : World} (t : TypeId) (x y : Operand) (rt : TypeId) (ho : oi.op = .binOp .lss t x y rt) (k : IntKind) (m n : Int) (r : Bool) (hr : decide (m < n) = r) (hx : a.eval x = .int k m) (hy : a.eval y = .int k n) : (execOp a.eval oi).run P w = .ok (.value (.bool r)) w := by
  subst hr
  exact exec_bin .lss t rt x y ho _ _ _ hx hy (by simp [go_sem]) (by simp [go_sem])
/-- What Make and Div hand out. -/
def mk5 (x : Rv) (k : Int) : Value := .agg #[.bool x.neg, .string x.n, .string x.d, .int .i64 k]
theorem m5_err (k : Int) (W : World) : (Instr.build 32 #[(1, .int .i64 k)]).run Tryz.prog W = .ok (.agg #[.bool false, .string ⟨#[]⟩, .string ⟨#[]⟩, .int .i64 k]) W := by kernel_rfl
theorem m5_ok (b : Bool) (n d : ByteArray) (W : World) : (Instr.build 32 #[(0, .agg #[.bool b, .string n, .string d])]).run Tryz.prog W = .ok (.agg #[.bool b, .string n, .string d, .int .i64 0]) W := by kernel_rfl
theorem inv_fr {q : Rat} (h : q ≠ 0) : fr q⁻¹ = ⟨decide (q.num < 0), cS q.den, cS q.num.natAbs⟩ := by
  have h0 : q.num ≠ 0 := fun e => h (Rat.num_eq_zero.1 e)
  refine fr_of ?_ ?_ ?_ ?_
  · rw [Rat.num_inv, Int.natAbs_mul, Int.natAbs_sign_of_ne_zero h0, Nat.one_mul, Int.natAbs_natCast]
  · rw [Rat.den_inv, if_neg h0]
  · intro _
    refine sign_neg ?_
    rw [Rat.num_inv, Int.sign_mul, Int.sign_sign, Int.sign_eq_one_of_pos (show (0 : Int) < (q.den : Int) from Int.ofNat_lt.2 q.den_pos), Int.mul_one]
  · intro e; exact absurd e q.den_nz
theorem make_val (m n : Int) : mkRat (sg (decide (m < 0) != decide (n < 0)) m.natAbs) n.natAbs = (m : Rat) / (n : Rat) := by
  rw [← Rat.divInt_eq_div]
  by_cases hn : n < 0
  · have e1 : sg (decide (m < 0) != decide (n < 0)) m.natAbs = -m := by
      rw [decide_eq_true hn]
      by_cases hm : m < 0
      · rw [decide_eq_true hm]; show ((m.natAbs : Nat) : Int) = -m; omega
      · rw [decide_eq_false hm]; show -((m.natAbs : Nat) : Int) = -m; omega
    rw [e1, ← Rat.neg_divInt_neg m n, show -n = ((n.natAbs : Nat) : Int) by omega]
    rfl
  · have e1 : sg (decide (m < 0) != decide (n < 0)) m.natAbs = m := by
      rw [decide_eq_false hn]
      by_cases hm : m < 0
      · rw [decide_eq_true hm]; show -((m.natAbs : Nat) : Int) = m; omega
      · rw [decide_eq_false hm]; show ((m.natAbs : Nat) : Int) = m; omega
    have e2 : Rat.divInt m n = Rat.divInt m ((n.natAbs : Nat) : Int) := congrArg (Rat.divInt m) (by omega)
    rw [e1, e2]
    rfl
theorem nat_sz {n : Int} (h : inB n = true) : (cS n.natAbs).size ≤ 20000 := by
  have hn : -999999999999999 ≤ n ∧ n ≤ 999999999999999 := of_decide_eq_true h
  exact Nat.le_trans (cS_len (n := n.natAbs) (k := 8) (by omega)) (by decide)
end Go.Proofs.YtpmlihhofmblpaaGreatDoor
