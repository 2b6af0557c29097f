/- The calendar's numbers: lengths of months, first days of years. -/
import Derived.Test.YtmifpaafpmibmaaDoorC1
namespace Go.Proofs.YtmifpaafpmibmaaDoor
open Go.RowKit Hm Wm Cm

def mlI (y : Int) (m : Nat) : Nat := if m = 1 then (if lpI y then 29 else 28) else if m = 3 ∨ m = 5 ∨ m = 8 ∨ m = 10 then 30 else 31
theorem lpI_nat (n : Nat) : lpI (n : Int) = lp n := by
  have h : ∀ k : Nat, ((n : Int).tmod k == 0) = (n % k == 0) := fun k => by
    have e : (n : Int).tmod k = ((n % k : Nat) : Int) := by rw [Int.tmod_eq_emod_of_nonneg (by omega)]; rfl
    rw [e, Bool.eq_iff_iff]
    simp only [beq_iff_eq]
    omega
  unfold lpI lp
  have h4 := h 4
  have h100 := h 100
  have h400 := h 400
  simp only [bne]
  rw [show ((4 : Nat) : Int) = 4 from rfl] at h4
  rw [show ((100 : Nat) : Int) = 100 from rfl] at h100
  rw [show ((400 : Nat) : Int) = 400 from rfl] at h400
  rw [h4, h100, h400]
theorem mlI_nat (n m : Nat) : mlI (n : Int) m = ml n m := by unfold mlI ml; rw [lpI_nat]
theorem mlI_bd (y : Int) (m : Nat) : 28 ≤ mlI y m ∧ mlI y m ≤ 31 := by
  unfold mlI; split
  · split <;> omega
  · split <;> omega
theorem Lens.at {w : World} (h : Lens w) (k : Nat) {v : Value} (hv : lens[k]? = some v) : w.cell? ⟨0, k, none⟩ = some v := by
  have := h k v hv
  rwa [Nat.zero_add] at this
theorem Lens.tab {w : World} (h : Lens w) {m : Nat} (hm : m < 12) : w.cell? ⟨0, m, none⟩ = some (.int .i64 (ml 1 m : Nat)) := by
  have h12 : m = 0 ∨ m = 1 ∨ m = 2 ∨ m = 3 ∨ m = 4 ∨ m = 5 ∨ m = 6 ∨ m = 7 ∨ m = 8 ∨ m = 9 ∨ m = 10 ∨ m = 11 := by omega
  rcases h12 with rfl | rfl | rfl | rfl | rfl | rfl | rfl | rfl | rfl | rfl | rfl | rfl
  · exact h.at 0 rfl
  · exact h.at 1 rfl
  · exact h.at 2 rfl
  · exact h.at 3 rfl
  · exact h.at 4 rfl
  · exact h.at 5 rfl
  · exact h.at 6 rfl
  · exact h.at 7 rfl
  · exact h.at 8 rfl
  · exact h.at 9 rfl
  · exact h.at 10 rfl
  · exact h.at 11 rfl
set_option maxRecDepth 100000 in
set_option maxHeartbeats 1000000 in
theorem length_any (y z : Int) (m : Nat) (w : World) (hL : Lens w) (hm : m < 12) (hz : z = (m : Int) + 1) : Calls Tryd.prog 35 #[.int .i64 y, .int .i64 z] w fun e w' => e = .returned (.int .i64 (mlI y m : Nat)) ∧ w = w' := by
  subst hz
  by_cases h1 : m = 1
  · subst h1
    have hc1 := hL.at 1 rfl
    cases hl : lpI y
    all_goals
      have hR : mlI y 1 = if lpI y then 29 else 28 := rfl
      rw [hl] at hR
      have HR := Lib.hid hR
      have HC := leap_any y w
      rw [hl] at HC
      clear hR hL hm hl
      go_enter Tryd.func35, Tryd.ntmps35
      go_wp2_with (go_at_call 29; refine HC.mono ?_; rintro e w' ⟨rfl, rfl⟩)
      go_ret
      exact ⟨by rw [HR.out]; rfl, rfl⟩
  · have hc := hL.tab hm
    have HR := Lib.hid (show mlI y m = ml 1 m from by unfold mlI ml; rw [if_neg h1, if_neg h1])
    have ht : ((m : Int) + 1 == 2) = false := by rw [beq_eq_false_iff_ne]; omega
    clear hL h1
    go_enter Tryd.func35, Tryd.ntmps35
    go_wp2
    go_ret
    exact ⟨by rw [HR.out]; rfl, rfl⟩
end Go.Proofs.YtmifpaafpmibmaaDoor
