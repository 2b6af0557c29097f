/- The day of a date. -/
import Derived.Test.YtmifpaafpmibmaaDoorC5
namespace Go.Proofs.YtmifpaafpmibmaaDoor
open Go.RowKit Hm Wm Cm

def dateOk (y m d : Int) : Prop := 2000 ≤ y ∧ y < 2040 ∧ 1 ≤ m ∧ m ≤ 12 ∧ 1 ≤ d ∧ d ≤ (mlI y (m - 1).toNat : Nat)
set_option maxRecDepth 100000 in
set_option maxHeartbeats 1000000 in
theorem day_no (y m d : Int) (w : World) (hL : Lens w) (h : ¬ dateOk y m d) : Calls Tryd.prog 27 #[.int .i64 y, .int .i64 m, .int .i64 d] w fun e w' => e = .returned (.tuple #[.int .i64 0, .int .i64 3]) ∧ w = w' := by
  by_cases h1 : y < 2000
  · clear h
    go_enter Tryd.func27, Tryd.ntmps27
    go_wp2
    go_ret2
    exact ⟨rfl, rfl⟩
  by_cases h2 : 2040 ≤ y
  · clear h
    go_enter Tryd.func27, Tryd.ntmps27
    go_wp2
    go_ret2
    exact ⟨rfl, rfl⟩
  by_cases h3 : m < 1
  · clear h
    go_enter Tryd.func27, Tryd.ntmps27
    go_wp2
    go_ret2
    exact ⟨rfl, rfl⟩
  by_cases h4 : 12 < m
  · clear h
    go_enter Tryd.func27, Tryd.ntmps27
    go_wp2
    go_ret2
    exact ⟨rfl, rfl⟩
  by_cases h5 : d < 1
  · clear h
    go_enter Tryd.func27, Tryd.ntmps27
    go_wp2
    go_ret2
    exact ⟨rfl, rfl⟩
  have HC := length_any y m (m - 1).toNat w hL (by omega) (by omega)
  have hlt : ((mlI y (m - 1).toNat : Nat) : Int) < d := by
    rcases Int.lt_or_le ((mlI y (m - 1).toNat : Nat) : Int) d with h6 | h6
    · exact h6
    · exact absurd ⟨by omega, by omega, by omega, by omega, by omega, h6⟩ h
  obtain ⟨L, hLe⟩ : ∃ L, mlI y (m - 1).toNat = L := ⟨_, rfl⟩
  rw [hLe] at HC hlt
  clear h hLe hL
  go_enter Tryd.func27, Tryd.ntmps27
  go_wp2_with (go_at_call 35; refine HC.mono ?_; rintro e w' ⟨rfl, rfl⟩)
  go_ret2
  exact ⟨rfl, rfl⟩
set_option maxRecDepth 100000 in
set_option maxHeartbeats 1000000 in
theorem day_yes (j m x : Nat) (y m' d : Int) (w : World) (hL : Lens w) (hj : j < 40) (hm : m < 12) (hx : x < mlen (12 * j + m)) (hy : y = 2000 + (j : Int)) (hm' : m' = (m : Int) + 1) (hd : d = (x : Int) + 1) : Calls Tryd.prog 27 #[.int .i64 y, .int .i64 m', .int .i64 d] w fun e w' => e = .returned (.tuple #[.int .i64 (ms (12 * j + m) + x : Nat), .int .i64 0]) ∧ w = w' := by
  subst hy hm' hd
  have HC := length_any (2000 + (j : Int)) ((m : Int) + 1) m w hL hm rfl
  rw [mlI_yr j hm] at HC
  obtain ⟨L, hLe⟩ : ∃ L, mlen (12 * j + m) = L := ⟨_, rfl⟩
  have hF := first_any (2000 + (j : Int)) j w (by omega) rfl
  obtain ⟨D, hDe⟩ : ∃ D, ms (12 * j) = D := ⟨_, rfl⟩
  have hD : D ≤ 14610 := by rw [← hDe, ← ms_end]; exact ms_le (by omega)
  have hbd := mlen_bd (12 * j + m)
  rw [hLe] at HC hx hbd
  rw [hDe] at hF
  have HDE := Lib.hid hDe
  have HL := Lib.hid hL
  have HF := Lib.hid hF
  have t1 : ¬ (2000 + (j : Int) < 2000) := by omega
  have t2 : ¬ ((2040 : Int) ≤ 2000 + (j : Int)) := by omega
  have t3 : ¬ ((m : Int) + 1 < 1) := by omega
  have t4 : ¬ ((12 : Int) < (m : Int) + 1) := by omega
  have t5 : ¬ ((x : Int) + 1 < 1) := by omega
  have t6 : ¬ ((L : Int) < (x : Int) + 1) := by omega
  clear hLe hDe hL hF
  go_enter Tryd.func27, Tryd.ntmps27
  go_wp2_with (go_at_call 35; refine HC.mono ?_; rintro e w' ⟨rfl, rfl⟩)
  refine HF.out.mono ?_
  rintro e w' ⟨rfl, rfl⟩
  clear t1 t2 t3 t4 t5 t6
  go_wp2
  go_loop [8, 9] (fun dv bv => ∃ k : Nat, k ≤ m ∧ bv = .int .i64 ((k : Int) + 1) ∧ dv = .int .i64 ((ms (12 * j + k) + x : Nat) : Int)) (fun _ bv => (13 - intOf bv).toNat)
  case atStart => exact ⟨0, by omega, rfl, by have := HDE.out; show Value.int _ _ = .int _ ((ms (12 * j) + x : Nat) : Int); go_num⟩
  case round =>
    clear HC
    obtain ⟨k, hk, rfl, rfl⟩ := hrel
    obtain ⟨S, hS⟩ : ∃ S, ms (12 * j + k) = S := ⟨_, rfl⟩
    have hSb : S ≤ 14610 := by rw [← hS, ← ms_end]; exact ms_le (by omega)
    obtain ⟨L2, hL2⟩ : ∃ L, mlen (12 * j + k) = L := ⟨_, rfl⟩
    have hb2 := mlen_bd (12 * j + k)
    have hs2 := ms_succ (12 * j + k)
    have HC := length_any (2000 + (j : Int)) ((k : Int) + 1) k w HL.out (by omega) rfl
    rw [mlI_yr j (by omega), hL2] at HC
    rw [hS, hL2] at hs2
    rw [hL2] at hb2
    rw [hS]
    by_cases hc : k < m
    · have HX : Hid (((S + x : Nat) : Int) + (L2 : Int) = ((ms (12 * j + (k + 1)) + x : Nat) : Int)) := Lib.hid (by
        have e : ms (12 * j + (k + 1)) = ms (12 * j + k + 1) := rfl
        omega)
      have hlt : (k : Int) + 1 < (m : Int) + 1 := by omega
      clear hS hL2 hs2
      go_wp2_with (go_at_call 35; refine HC.mono ?_; rintro e w' ⟨rfl, rfl⟩)
      go_round
      case rel => exact ⟨k + 1, by omega, by go_num, by rw [← HX.out]; go_num⟩
      case measure => simp [intOf]; omega
    · obtain rfl : k = m := by omega
      have HX : Hid (ms (12 * j + k) = S) := Lib.hid hS
      have hlt : ¬ (k : Int) + 1 < (k : Int) + 1 := by omega
      clear hS hL2 hs2
      go_wp2_with (go_at_call 35; refine HC.mono ?_; rintro e w' ⟨rfl, rfl⟩)
      go_ret2
      exact ⟨by rw [HX.out]; rfl, rfl⟩
end Go.Proofs.YtmifpaafpmibmaaDoor
