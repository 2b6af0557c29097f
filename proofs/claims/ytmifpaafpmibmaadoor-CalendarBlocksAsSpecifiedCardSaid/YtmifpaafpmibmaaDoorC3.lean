/- First days of years, the year of a day. -/
import Derived.Test.YtmifpaafpmibmaaDoorC2
namespace Go.Proofs.YtmifpaafpmibmaaDoor
open Go.RowKit Hm Wm Cm

set_option maxRecDepth 100000 in
set_option maxHeartbeats 400000 in
theorem leaps_any (z : Int) (w : World) (h1 : 1 ≤ z) (h2 : z ≤ 100000) : Calls Tryd.prog 41 #[.int .i64 z] w fun e w' => e = .returned (.int .i64 ((z - 1) / 4 - (z - 1) / 100 + (z - 1) / 400)) ∧ w = w' := by
  go_enter Tryd.func41, Tryd.ntmps41
  go_wp2
  go_ret
  exact ⟨rfl, rfl⟩
theorem fd_int (j : Nat) : 365 * ((2000 + (j : Int)) - 2000) + (((2000 + (j : Int)) - 1) / 4 - ((2000 + (j : Int)) - 1) / 100 + ((2000 + (j : Int)) - 1) / 400) - 484 = ((fd j : Nat) : Int) := by
  unfold fd
  omega
theorem fd_le {j : Nat} (h : j ≤ 40) : fd j ≤ 14610 := by
  rw [fd_ms h, ← ms_end]
  exact ms_le (by omega)
set_option maxRecDepth 100000 in
set_option maxHeartbeats 400000 in
theorem first_raw (z a : Int) (w : World) (h1 : 2000 ≤ z) (h2 : z ≤ 3000) (ha : 365 * (z - 2000) + ((z - 1) / 4 - (z - 1) / 100 + (z - 1) / 400) - 484 = a) : Calls Tryd.prog 36 #[.int .i64 z] w fun e w' => e = .returned (.int .i64 a) ∧ w = w' := by
  obtain ⟨l, hl⟩ : ∃ l, (z - 1) / 4 - (z - 1) / 100 + (z - 1) / 400 = l := ⟨_, rfl⟩
  have hl1 : 0 ≤ l := by omega
  have hl2 : l ≤ 100000 := by omega
  rw [hl] at ha
  have HA := Lib.hid ha
  have HC := leaps_any z w (by omega) (by omega)
  have HD := leaps_any 2000 w (by omega) (by omega)
  rw [hl] at HC
  rw [show ((2000 : Int) - 1) / 4 - (2000 - 1) / 100 + (2000 - 1) / 400 = 484 from by decide] at HD
  clear hl ha
  go_enter Tryd.func36, Tryd.ntmps36
  go_wp2_with fail
  refine HC.mono ?_
  rintro e w' ⟨rfl, rfl⟩
  go_wp2_with fail
  refine HD.mono ?_
  rintro e w' ⟨rfl, rfl⟩
  go_wp2
  go_ret
  exact ⟨by rw [← HA.out]; rfl, rfl⟩
theorem first_any (z : Int) (j : Nat) (w : World) (hj : j ≤ 40) (hz : z = 2000 + (j : Int)) : Calls Tryd.prog 36 #[.int .i64 z] w fun e w' => e = .returned (.int .i64 (ms (12 * j) : Nat)) ∧ w = w' := by
  rw [← fd_ms hj]
  refine first_raw z _ w (by omega) (by omega) ?_
  rw [hz, fd_int]
end Go.Proofs.YtmifpaafpmibmaaDoor
