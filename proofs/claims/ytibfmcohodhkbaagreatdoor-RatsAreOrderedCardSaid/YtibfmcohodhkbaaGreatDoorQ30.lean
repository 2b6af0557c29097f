/- RatsAreAField. -/
import Derived.Test.YtibfmcohodhkbaaGreatDoorQ29
namespace Go.Proofs.YtibfmcohodhkbaaGreatDoor
open Go.RowKit Hm Wm Wn

theorem sz_rt {k : Nat} {q : Rat} (h : Sz k q) : szR k (rt q) := by
  unfold rt
  split
  · exact ⟨Nat.zero_le _, Nat.zero_le _⟩
  · exact h
theorem sz_big {j k : Nat} {x : Rv} (h : szR j x) (hk : j ≤ k) : szR k x := ⟨Nat.le_trans h.1 hk, Nat.le_trans h.2 hk⟩
theorem rt_nil {q : Rat} : rt q = zR ↔ q = 0 := ⟨fun h => by rw [← val_rt q, h, vz zR rfl], fun h => by rw [h, rt_zero]⟩
theorem q_sub (a b : Rat) : a - b + b = a := by rw [Rat.sub_eq_add_neg, Rat.add_assoc, Rat.neg_add_cancel, Rat.add_zero]
theorem q_div (a : Rat) {b : Rat} (h : b ≠ 0) : a * b / b = a := by rw [Rat.div_def, Rat.mul_assoc, Rat.mul_inv_cancel b h, Rat.mul_one]
theorem q_m1 (a : Rat) : a * ((-1 : Int) : Rat) = -a := by
  rw [show ((-1 : Int) : Rat) = -1 from rfl, Rat.mul_neg, Rat.mul_one]
end Go.Proofs.YtibfmcohodhkbaaGreatDoor
