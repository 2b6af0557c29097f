/- The year of a day; the date of a day. -/
import Derived.Test.YtmifpaafpmibmaaDoorC3
namespace Go.Proofs.YtmifpaafpmibmaaDoor
open Go.RowKit Hm Wm Cm

theorem ret_i {k : IntKind} {a b : Int} (h : a = b) : Ending.returned (.int k a) = .returned (.int k b) := by rw [h]
theorem year_guess {d : Nat} (hd : d < 14610) : ms (12 * (d / 366)) ≤ d := by
  have := ms_366 ⟨d / 366, by omega⟩
  simp only at this
  omega
set_option maxRecDepth 100000 in
set_option maxHeartbeats 400000 in
theorem year_any (d : Nat) (w : World) (hd : d < 14610) : Calls Tryd.prog 40 #[.int .i64 d] w fun e w' => e = .returned (.int .i64 (2000 + (mo d / 12 : Nat))) ∧ w = w' := by
  have hg := Lib.hid (year_guess hd)
  go_enter Tryd.func40, Tryd.ntmps40
  go_wp2
  go_loop [3] (fun y => ∃ j : Nat, j ≤ 39 ∧ Hid (ms (12 * j) ≤ d) ∧ y = .int .i64 (2000 + (j : Int))) (fun y => (2039 - intOf y).toNat)
  case atStart => exact ⟨d / 366, by omega, hg, by simp⟩
  case round =>
    clear hg
    obtain ⟨j, hj, hm, rfl⟩ := hrel
    by_cases hc : ms (12 * (j + 1)) ≤ d
    · have h39 : j + 1 ≤ 39 := by
        rcases Nat.lt_or_ge (j + 1) 40 with h | h
        · omega
        · have := ms_le (show 480 ≤ 12 * (j + 1) by omega)
          rw [ms_end] at this; omega
      have HM := Lib.hid hc
      have ht : decide (ms (12 * (j + 1)) ≤ d) = true := decide_eq_true hc
      have ht' : decide (((ms (12 * (j + 1)) : Nat) : Int) ≤ (d : Int)) = true := decide_eq_true (by omega)
      clear hc
      go_wp2_with (go_at_call 36; refine (first_any _ (j + 1) _ (by omega) (by omega)).mono ?_; rintro e w' ⟨rfl, rfl⟩)
      go_round
      case rel => exact ⟨j + 1, h39, HM, by go_num⟩
      case measure => simp [intOf]; omega
    · have HM := Lib.hid (mo_year hd hm.out (by omega))
      have ht : decide (ms (12 * (j + 1)) ≤ d) = false := decide_eq_false hc
      have ht' : decide (((ms (12 * (j + 1)) : Nat) : Int) ≤ (d : Int)) = false := decide_eq_false (by omega)
      clear hc
      go_wp2_with (go_at_call 36; refine (first_any _ (j + 1) _ (by omega) (by omega)).mono ?_; rintro e w' ⟨rfl, rfl⟩)
      go_ret
      exact ⟨by rw [HM.out]; rfl, rfl⟩
end Go.Proofs.YtmifpaafpmibmaaDoor
