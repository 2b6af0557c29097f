/- The walk of CalendarIsOneToOne. -/
import Derived.Test.YtbboadoolgcmaaaDoorCM
namespace Go.Proofs.YtbboadoolgcmaaaDoor
open Go.RowKit Hm Wm Cm

set_option maxRecDepth 1000000 in
set_option maxHeartbeats 1000000 in
theorem one_a (p z : Int) (j m x : Nat) (n : Int) (w : World) (hp0 : 0 ≤ p) (hp1 : p ≤ 65535) (hz : p % 14609 = z) (hz1 : 0 ≤ z) (hz2 : z ≤ 14608) (_hj : j < 40) (_hm : m < 12) (hx : x < 31) 
    (h21 : Calls Tryd.prog 9 #[.int .i64 z] w fun e w' => e = .returned (.tuple #[.int .i64 (2000 + (j : Int)), .int .i64 ((m : Int) + 1), .int .i64 ((x : Int) + 1), .int .i64 0]) ∧ w = w')
    (h30 : Calls Tryd.prog 11 #[.int .i64 (2000 + (j : Int)), .int .i64 ((m : Int) + 1), .int .i64 ((x : Int) + 1)] w fun e w' => e = .returned (.tuple #[.int .i64 z, .int .i64 0]) ∧ w = w')
    (h36 : Calls Tryd.prog 9 #[.int .i64 (z + 1)] w fun e w' => e = .returned (.tuple #[.int .i64 (2000 + (j : Int)), .int .i64 ((m : Int) + 1), .int .i64 ((x : Int) + 1 + 1), .int .i64 0]) ∧ w = w')
    (h61 : Calls Tryd.prog 11 #[.int .i64 (2000 + (j : Int)), .int .i64 ((m : Int) + 1), .int .i64 ((x : Int) + 1 + 1)] w fun e w' => e = .returned (.tuple #[.int .i64 n, .int .i64 0]) ∧ w = w')
    (hs : Calls Tryd.prog 13 #[] w fun e w' => e = .returned (.bool true) ∧ Below w.heap.size w w') :
    Calls Tryd.prog 6 #[.int .u16 p] w fun e w' => e = .returned (.bool true) ∧ Below w.heap.size w w' := by
  have F21 := Lib.hid h21
  have F30 := Lib.hid h30
  have F36 := Lib.hid h36
  have F61 := Lib.hid h61
  have FS := Lib.hid hs
  have HZ := Lib.hid hz
  clear h21 h30 h36 h61 hs hz
  go_enter Tryd.func6, Tryd.ntmps6
  go_wp2_with fail
  rw [HZ.out]
  refine F21.out.mono ?_
  rintro e w0 ⟨rfl, h0⟩
  subst h0
  go_wp2_with fail
  refine F30.out.mono ?_
  rintro e w0 ⟨rfl, h0⟩
  subst h0
  go_wp2_with fail
  refine F36.out.mono ?_
  rintro e w0 ⟨rfl, h0⟩
  subst h0
  go_wp2_with fail
  refine F61.out.mono ?_
  rintro e w0 ⟨rfl, h0⟩
  subst h0
  go_wp2_with fail
  refine FS.out.mono ?_
  rintro e w1 ⟨rfl, hb⟩
  have HB := Lib.hid hb
  clear hb
  go_wp2
  go_ret
  exact ⟨rfl, HB.out⟩
set_option maxRecDepth 1000000 in
set_option maxHeartbeats 1000000 in
theorem one_b (p z : Int) (j m x : Nat) (n : Int) (w : World) (hp0 : 0 ≤ p) (hp1 : p ≤ 65535) (hz : p % 14609 = z) (hz1 : 0 ≤ z) (hz2 : z ≤ 14608) (_hj : j < 40) (_hm : m < 12) (hx : x < 31) (hm2 : m < 11)
    (h21 : Calls Tryd.prog 9 #[.int .i64 z] w fun e w' => e = .returned (.tuple #[.int .i64 (2000 + (j : Int)), .int .i64 ((m : Int) + 1), .int .i64 ((x : Int) + 1), .int .i64 0]) ∧ w = w')
    (h30 : Calls Tryd.prog 11 #[.int .i64 (2000 + (j : Int)), .int .i64 ((m : Int) + 1), .int .i64 ((x : Int) + 1)] w fun e w' => e = .returned (.tuple #[.int .i64 z, .int .i64 0]) ∧ w = w')
    (h36 : Calls Tryd.prog 9 #[.int .i64 (z + 1)] w fun e w' => e = .returned (.tuple #[.int .i64 (2000 + (j : Int)), .int .i64 ((m : Int) + 1 + 1), .int .i64 (1), .int .i64 0]) ∧ w = w')
    (h61 : Calls Tryd.prog 11 #[.int .i64 (2000 + (j : Int)), .int .i64 ((m : Int) + 1), .int .i64 ((x : Int) + 1 + 1)] w fun e w' => e = .returned (.tuple #[.int .i64 n, .int .i64 3]) ∧ w = w')
    (hs : Calls Tryd.prog 13 #[] w fun e w' => e = .returned (.bool true) ∧ Below w.heap.size w w') :
    Calls Tryd.prog 6 #[.int .u16 p] w fun e w' => e = .returned (.bool true) ∧ Below w.heap.size w w' := by
  have F21 := Lib.hid h21
  have F30 := Lib.hid h30
  have F36 := Lib.hid h36
  have F61 := Lib.hid h61
  have FS := Lib.hid hs
  have HZ := Lib.hid hz
  clear h21 h30 h36 h61 hs hz
  go_enter Tryd.func6, Tryd.ntmps6
  go_wp2_with fail
  rw [HZ.out]
  refine F21.out.mono ?_
  rintro e w0 ⟨rfl, h0⟩
  subst h0
  go_wp2_with fail
  refine F30.out.mono ?_
  rintro e w0 ⟨rfl, h0⟩
  subst h0
  go_wp2_with fail
  refine F36.out.mono ?_
  rintro e w0 ⟨rfl, h0⟩
  subst h0
  go_wp2_with fail
  refine F61.out.mono ?_
  rintro e w0 ⟨rfl, h0⟩
  subst h0
  go_wp2_with fail
  refine FS.out.mono ?_
  rintro e w1 ⟨rfl, hb⟩
  have HB := Lib.hid hb
  clear hb
  go_wp2
  go_ret
  exact ⟨rfl, HB.out⟩
set_option maxRecDepth 1000000 in
set_option maxHeartbeats 1000000 in
theorem one_c (p z : Int) (j : Nat) (n : Int) (w : World) (hp0 : 0 ≤ p) (hp1 : p ≤ 65535) (hz : p % 14609 = z) (hz1 : 0 ≤ z) (hz2 : z ≤ 14608) (_hj : j < 40)  
    (h21 : Calls Tryd.prog 9 #[.int .i64 z] w fun e w' => e = .returned (.tuple #[.int .i64 (2000 + (j : Int)), .int .i64 (12), .int .i64 (31), .int .i64 0]) ∧ w = w')
    (h30 : Calls Tryd.prog 11 #[.int .i64 (2000 + (j : Int)), .int .i64 (12), .int .i64 (31)] w fun e w' => e = .returned (.tuple #[.int .i64 z, .int .i64 0]) ∧ w = w')
    (h36 : Calls Tryd.prog 9 #[.int .i64 (z + 1)] w fun e w' => e = .returned (.tuple #[.int .i64 (2000 + (j : Int) + 1), .int .i64 (1), .int .i64 (1), .int .i64 0]) ∧ w = w')
    (h61 : Calls Tryd.prog 11 #[.int .i64 (2000 + (j : Int)), .int .i64 (12), .int .i64 (32)] w fun e w' => e = .returned (.tuple #[.int .i64 n, .int .i64 3]) ∧ w = w')
    (hs : Calls Tryd.prog 13 #[] w fun e w' => e = .returned (.bool true) ∧ Below w.heap.size w w') :
    Calls Tryd.prog 6 #[.int .u16 p] w fun e w' => e = .returned (.bool true) ∧ Below w.heap.size w w' := by
  have F21 := Lib.hid h21
  have F30 := Lib.hid h30
  have F36 := Lib.hid h36
  have F61 := Lib.hid h61
  have FS := Lib.hid hs
  have HZ := Lib.hid hz
  clear h21 h30 h36 h61 hs hz
  go_enter Tryd.func6, Tryd.ntmps6
  go_wp2_with fail
  rw [HZ.out]
  refine F21.out.mono ?_
  rintro e w0 ⟨rfl, h0⟩
  subst h0
  go_wp2_with fail
  refine F30.out.mono ?_
  rintro e w0 ⟨rfl, h0⟩
  subst h0
  go_wp2_with fail
  refine F36.out.mono ?_
  rintro e w0 ⟨rfl, h0⟩
  subst h0
  go_wp2_with fail
  refine F61.out.mono ?_
  rintro e w0 ⟨rfl, h0⟩
  subst h0
  go_wp2_with fail
  refine FS.out.mono ?_
  rintro e w1 ⟨rfl, hb⟩
  have HB := Lib.hid hb
  clear hb
  go_wp2
  go_ret
  exact ⟨rfl, HB.out⟩
theorem walk_one (p : Int) (w : World) (hL : Lens w) (hp0 : 0 ≤ p) (hp1 : p ≤ 65535) : Calls Tryd.prog 6 #[.int .u16 p] w fun e w' => e = .returned (.bool true) ∧ Below w.heap.size w w' := by
  obtain ⟨D, hD⟩ : ∃ D : Nat, p % 14609 = (D : Int) := ⟨(p % 14609).toNat, by omega⟩
  have hD2 : D ≤ 14608 := by omega
  obtain ⟨j, hj⟩ : ∃ j, mo D / 12 = j := ⟨_, rfl⟩
  obtain ⟨m, hm⟩ : ∃ j, mo D % 12 = j := ⟨_, rfl⟩
  obtain ⟨x, hx⟩ : ∃ j, D - ms (mo D) = j := ⟨_, rfl⟩
  have hlt := mo_lt D
  have hle := mo_le D
  have hnx := mo_next (d := D) (by omega)
  have hmo : mo D = 12 * j + m := by omega
  have hms := ms_succ (mo D)
  have hbd := mlen_bd (mo D)
  have hxl : x < mlen (12 * j + m) := by rw [← hmo]; omega
  have h21 := date_at D D j m x w hL rfl (by omega) hj hm hx
  have h30 := day_yes j m x (2000 + (j : Int)) ((m : Int) + 1) ((x : Int) + 1) w hL (by omega) (by omega) hxl rfl rfl rfl
  rw [show ((ms (12 * j + m) + x : Nat) : Int) = (D : Int) from by rw [← hmo]; omega] at h30
  by_cases hA : x + 1 < mlen (mo D)
  · have hmo2 : mo (D + 1) = mo D := mo_of (by omega) (by omega) (by omega)
    have h36 := date_at ((D : Int) + 1) (D + 1) j m (x + 1) w hL (by omega) (by omega) (by rw [hmo2]; exact hj) (by rw [hmo2]; exact hm) (by rw [hmo2]; omega)
    have h61 := day_yes j m (x + 1) (2000 + (j : Int)) ((m : Int) + 1) ((x : Int) + 1 + 1) w hL (by omega) (by omega) (by rw [← hmo]; exact hA) rfl rfl (by omega)
    exact one_a p D j m x _ w hp0 hp1 hD (by omega) (by omega) (by omega) (by omega) (by omega) h21 h30 h36 h61 (sanity_any w hL)
  · have hxe : x + 1 = mlen (mo D) := by omega
    have hms2 := ms_succ (mo D + 1)
    have hbd2 := mlen_bd (mo D + 1)
    have hmo2 : mo (D + 1) = mo D + 1 := mo_of (by omega) (by omega) (by omega)
    have hlt2 := mo_lt (D + 1)
    have hno : ¬ dateOk (2000 + (j : Int)) ((m : Int) + 1) ((x : Int) + 1 + 1) := by
      rintro ⟨_, _, _, _, _, h6⟩
      rw [show ((m : Int) + 1 - 1).toNat = m from by omega, mlI_yr j (by omega), ← hmo] at h6
      omega
    have h61 := day_no (2000 + (j : Int)) ((m : Int) + 1) ((x : Int) + 1 + 1) w hL hno
    by_cases hB : m < 11
    · have h36 := date_at ((D : Int) + 1) (D + 1) j (m + 1) 0 w hL (by omega) (by omega) (by rw [hmo2]; omega) (by rw [hmo2]; omega) (by rw [hmo2]; omega)
      exact one_b p D j m x _ w hp0 hp1 hD (by omega) (by omega) (by omega) (by omega) (by omega) hB h21 h30 h36 h61 (sanity_any w hL)
    · obtain rfl : m = 11 := by omega
      have hml : mlen (12 * j + 11) = 31 := by rw [mlen_of j 11 (by omega)]; rfl
      obtain rfl : x = 30 := by rw [hmo, hml] at hxe; omega
      have h36 := date_at ((D : Int) + 1) (D + 1) (j + 1) 0 0 w hL (by omega) (by omega) (by rw [hmo2]; omega) (by rw [hmo2]; omega) (by rw [hmo2]; omega)
      rw [show (2000 + ((j + 1 : Nat) : Int)) = 2000 + (j : Int) + 1 from by omega] at h36
      exact one_c p D j _ w hp0 hp1 hD (by omega) (by omega) (by omega) h21 h30 h36 h61 (sanity_any w hL)
end Go.Proofs.YtbboadoolgcmaaaDoor
