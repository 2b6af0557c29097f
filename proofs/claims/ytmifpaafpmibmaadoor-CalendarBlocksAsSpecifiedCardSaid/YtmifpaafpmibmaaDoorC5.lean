/- The date of a day. -/
import Derived.Test.YtmifpaafpmibmaaDoorC4
namespace Go.Proofs.YtmifpaafpmibmaaDoor
open Go.RowKit Hm Wm Cm

theorem mlI_yr (j : Nat) {m : Nat} (h : m < 12) : mlI (2000 + (j : Int)) m = mlen (12 * j + m) := by
  rw [mlen_of j m h, ← mlI_nat]
  rfl
set_option maxRecDepth 100000 in
set_option maxHeartbeats 400000 in
theorem date_no (d : Int) (w : World) (h : d < 0 ∨ 14609 < d) : Calls Tryd.prog 34 #[.int .i64 d] w fun e w' => e = .returned (.tuple #[.int .i64 0, .int .i64 0, .int .i64 0, .int .i64 3]) ∧ w = w' := by
  by_cases h0 : d < 0
  · clear h
    go_enter Tryd.func34, Tryd.ntmps34
    go_wp2
    exact bodyPost_ret (v := .tuple #[.int .i64 0, .int .i64 0, .int .i64 0, .int .i64 3]) (by simp [results, Tryd.results34, go_sem]) rfl ⟨rfl, rfl⟩
  · have h1 : 14609 < d := by omega
    clear h
    go_enter Tryd.func34, Tryd.ntmps34
    go_wp2
    exact bodyPost_ret (v := .tuple #[.int .i64 0, .int .i64 0, .int .i64 0, .int .i64 3]) (by simp [results, Tryd.results34, go_sem]) rfl ⟨rfl, rfl⟩
set_option maxRecDepth 100000 in
set_option maxHeartbeats 1000000 in
theorem date_yes (d : Nat) (w : World) (hL : Lens w) (hd : d < 14610) : Calls Tryd.prog 34 #[.int .i64 d] w fun e w' => e = .returned (.tuple #[.int .i64 (2000 + (mo d / 12 : Nat)), .int .i64 ((mo d % 12 : Nat) + 1), .int .i64 ((d - ms (mo d) : Nat) + 1), .int .i64 0]) ∧ w = w' := by
  obtain ⟨j, hj⟩ : ∃ j, mo d / 12 = j := ⟨_, rfl⟩
  have hlt := mo_lt d
  have hj39 : j ≤ 39 := by omega
  have hms : ms (12 * j) ≤ d := Nat.le_trans (ms_le (by omega)) (mo_le d)
  have hY := year_any d w hd
  have hF := first_any (2000 + (j : Int)) j w (by omega) rfl
  rw [hj] at hY
  rw [hj]
  have HY := Lib.hid hY
  have HF := Lib.hid hF
  have HJ := Lib.hid hj
  have HL := Lib.hid hL
  have HMS := Lib.hid hms
  have b1 : ms (12 * j) ≤ 14610 := by omega
  have ht0 : ¬ (d : Int) < 0 := by omega
  have ht1 : ¬ (14609 : Int) < (d : Int) := by omega
  clear hY hF hj hL hms hlt
  go_enter Tryd.func34, Tryd.ntmps34
  go_wp2_with fail
  refine HY.out.mono ?_
  rintro e w' ⟨rfl, rfl⟩
  go_wp2_with fail
  refine HF.out.mono ?_
  rintro e w' ⟨rfl, rfl⟩
  go_wp2
  go_loop [3, 4] (fun mv dv => ∃ m : Nat, m < 12 ∧ Hid (ms (12 * j + m) ≤ d) ∧ mv = .int .i64 ((m : Int) + 1) ∧ dv = .int .i64 (((d - ms (12 * j + m) : Nat) : Int) + 1)) (fun mv _ => (12 - intOf mv).toNat)
  case atStart => exact ⟨0, by omega, HMS, rfl, by have := HMS.out; go_num⟩
  case round =>
    clear HMS
    obtain ⟨m, hm, hx, rfl, rfl⟩ := hrel
    obtain ⟨x, hxe⟩ : ∃ x, d - ms (12 * j + m) = x := ⟨_, rfl⟩
    obtain ⟨L, hLe⟩ : ∃ L, mlen (12 * j + m) = L := ⟨_, rfl⟩
    have hbd := mlen_bd (12 * j + m)
    have hs := ms_succ (12 * j + m)
    rw [hLe] at hs hbd
    have hx' := hx.out
    have hxd : x ≤ 14610 := by omega
    have HC := length_any (2000 + (j : Int)) ((m : Int) + 1) m w HL.out hm rfl
    rw [mlI_yr j hm, hLe] at HC
    rw [hxe]
    by_cases hc : ms (12 * j + m + 1) ≤ d
    · have h11 : m + 1 < 12 := by
        rcases Nat.lt_or_ge (m + 1) 12 with h | h
        · exact h
        · have h1 := mo_next hd
          have h2 := ms_le (show mo d + 1 ≤ 12 * j + m + 1 by have := HJ.out; omega)
          omega
      have HM : Hid (ms (12 * j + (m + 1)) ≤ d) := Lib.hid hc
      have HX : Hid ((x : Int) + 1 - (L : Int) = ((d - ms (12 * j + (m + 1)) : Nat) : Int) + 1) := Lib.hid (by
        have e : ms (12 * j + (m + 1)) = ms (12 * j + m + 1) := rfl
        omega)
      have ht : decide ((L : Int) < (x : Int) + 1) = true := decide_eq_true (by omega)
      have hlt : (L : Int) < (x : Int) + 1 := by omega
      clear hc hs hx hx' hLe hxe
      go_wp2_with (go_at_call 35; refine HC.mono ?_; rintro e w' ⟨rfl, rfl⟩)
      go_round
      case rel => exact ⟨m + 1, h11, HM, by go_num, by rw [← HX.out]⟩
      case measure => simp [intOf]; omega
    · have HM : Hid (mo d = 12 * j + m) := Lib.hid (mo_of hd hx' (by omega))
      have HX : Hid (d - ms (12 * j + m) = x) := Lib.hid hxe
      have ht : decide ((L : Int) < (x : Int) + 1) = false := decide_eq_false (by omega)
      have hlt : ¬ (L : Int) < (x : Int) + 1 := by omega
      clear hc hs hx hx' hLe hxe
      go_wp2_with (go_at_call 35; refine HC.mono ?_; rintro e w' ⟨rfl, rfl⟩)
      refine bodyPost_ret (v := .tuple #[.int .i64 (2000 + (j : Int)), .int .i64 ((m : Int) + 1), .int .i64 ((x : Int) + 1), .int .i64 0]) (by simp [results, Tryd.results34, go_sem]) rfl ⟨?_, rfl⟩
      rw [HM.out, HX.out, show (12 * j + m) % 12 = m by omega]
end Go.Proofs.YtmifpaafpmibmaaDoor
