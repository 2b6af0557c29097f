/- Classes of bytes. -/
import Derived.Test.YtggjgikpiljoiaaDoorLB
namespace Go.Proofs.YtggjgikpiljoiaaDoor
open Go.RowKit Hm Wm

def isB (x k : Int) : Bool := if k = 1 then decide (48 ≤ x ∧ x ≤ 57) else if k = 2 then decide ((48 ≤ x ∧ x ≤ 57) ∨ (97 ≤ x ∧ x ≤ 122) ∨ (65 ≤ x ∧ x ≤ 90) ∨ x = 95) else decide (32 ≤ x ∧ x ≤ 126 ∧ x ≠ 34 ∧ x ≠ 92)
theorem ret_bool {a b : Bool} (h : a = b) : Ending.returned (.bool a) = .returned (.bool b) := by rw [h]
set_option maxHeartbeats 1000000 in
theorem is_any (x k : Int) (w : World) (h0 : 0 ≤ x) (h1 : x ≤ 255) (hk : k = 1 ∨ k = 2 ∨ k = 4) :
    Calls Tryd.prog 46 #[.int .u8 x, .int .i64 k] w fun e w' => e = .returned (.bool (isB x k)) ∧ w = w' := by
  have HK := Lib.hid hk
  clear hk
  go_enter Tryd.func46, Tryd.ntmps46
  go_wp2
  all_goals
    go_ret
    refine ⟨ret_bool ?_, rfl⟩
    try simp only [beq_iff_eq, beq_eq_false_iff_ne, bne_iff_ne, bne_eq_false_iff_eq, ne_eq] at *
    rcases HK.out with rfl | rfl | rfl
    all_goals first
      | (refine Eq.trans (b := true) rfl ?_; symm; simp only [isB]; simp <;> omega)
      | (refine Eq.trans (b := false) rfl ?_; symm; simp only [isB]; simp <;> omega)
end Go.Proofs.YtggjgikpiljoiaaDoor
