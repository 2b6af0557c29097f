/- The reference's Day. -/
import Derived.Test.YtbboadoolgcmaaaDoorCU
namespace Go.Proofs.YtbboadoolgcmaaaDoor
open Go.RowKit Hm Wm Cm

abbrev n2 (n e : Int) : List Value := [.int .i64 n, .int .i64 e]
def nbV (n e : Int) : Value := .agg #[.int .i64 n, .int .i64 e]
theorem nb_one (n e : Int) : ∀ v ∈ n2 n e, v.oneCell' = true := by
  intro v hv
  simp at hv
  rcases hv with rfl | rfl <;> rfl
theorem nb_size : (Tryd.prog.info? 32).map (·.size) = some 2 := by kernel_rfl
theorem nb_zero : (Tryd.prog.info? 32).map (·.zero) = some (some (.agg (n2 0 0).toArray)) := by kernel_rfl
theorem nb_b1 (W : World) : (Instr.build 32 #[(1, .int .i64 3)]).run Tryd.prog W = .ok (.agg (n2 0 3).toArray) W := by kernel_rfl
theorem nb_b0 (n : Int) (W : World) : (Instr.build 32 #[(0, .int .i64 n)]).run Tryd.prog W = .ok (.agg (n2 n 0).toArray) W := by kernel_rfl
theorem nb_f0 (g : Nat) (W : World) : (Instr.fieldAt 32 (.pointer (some ⟨g, 0, none⟩)) 0).run Tryd.prog W = .ok (.pointer (some ⟨g, 0, none⟩)) W := by kernel_rfl
theorem nb_f1 (g : Nat) (W : World) : (Instr.fieldAt 32 (.pointer (some ⟨g, 0, none⟩)) 1).run Tryd.prog W = .ok (.pointer (some ⟨g, 1, none⟩)) W := by kernel_rfl
theorem nb_under : Tryd.prog.underlying 32 = some (.struct (Tryd.prog.fieldsOf 32)) := by kernel_rfl
set_option maxRecDepth 100000 in
set_option maxHeartbeats 1000000 in
theorem rday_no (y m d : Int) (w : World) (h : ¬ dateOk y m d) : Calls Tryd.prog 12 #[.int .i64 y, .int .i64 m, .int .i64 d] w fun e w' => e = .returned (nbV 0 3) ∧ Below w.heap.size w w' := by
  have HZ := Lib.hid (Blk.new w 32 (n2 0 0))
  have HW := Lib.hid ((Below.refl w.heap.size w).alloc (Nat.le_refl _) (.cells (n2 0 0).toArray 32))
  by_cases h844 : y < 2000
  · clear h
    go_enter Tryd.func12, Tryd.ntmps12
    go_wp2_with (first | (refine wpList_dst 35 rfl ?_; refine wpList_run 35 rfl rfl _ (exec_build1 32 1 (.const (.int .i64 3)) rfl (.int .i64 3) _ rfl (nb_b1 _)) ?_; go_frame) | (refine wpList_store_all rfl 32 (.tmp 6) (.tmp 35) rfl w.heap.size _ (n2 0 0) (n2 0 3) rfl rfl HZ.out rfl nb_size (nb_one _ _) ?_; intro w9 HK9 ho9; have HO9 := Lib.hid ho9; clear ho9))
    exact bodyPost_ret (results_blk rfl _ _ w.heap.size _ (n2 0 3) _ rfl HK9.out nb_under rfl nb_size) rfl ⟨rfl, HW.out.trans (HO9.out.below (Nat.le_refl _))⟩
  by_cases h244 : 2039 < y
  · clear h
    go_enter Tryd.func12, Tryd.ntmps12
    go_wp2_with (first | (refine wpList_dst 35 rfl ?_; refine wpList_run 35 rfl rfl _ (exec_build1 32 1 (.const (.int .i64 3)) rfl (.int .i64 3) _ rfl (nb_b1 _)) ?_; go_frame) | (refine wpList_store_all rfl 32 (.tmp 6) (.tmp 35) rfl w.heap.size _ (n2 0 0) (n2 0 3) rfl rfl HZ.out rfl nb_size (nb_one _ _) ?_; intro w9 HK9 ho9; have HO9 := Lib.hid ho9; clear ho9))
    exact bodyPost_ret (results_blk rfl _ _ w.heap.size _ (n2 0 3) _ rfl HK9.out nb_under rfl nb_size) rfl ⟨rfl, HW.out.trans (HO9.out.below (Nat.le_refl _))⟩
  by_cases h47 : m < 1
  · clear h
    go_enter Tryd.func12, Tryd.ntmps12
    go_wp2_with (first | (refine wpList_dst 35 rfl ?_; refine wpList_run 35 rfl rfl _ (exec_build1 32 1 (.const (.int .i64 3)) rfl (.int .i64 3) _ rfl (nb_b1 _)) ?_; go_frame) | (refine wpList_store_all rfl 32 (.tmp 6) (.tmp 35) rfl w.heap.size _ (n2 0 0) (n2 0 3) rfl rfl HZ.out rfl nb_size (nb_one _ _) ?_; intro w9 HK9 ho9; have HO9 := Lib.hid ho9; clear ho9))
    exact bodyPost_ret (results_blk rfl _ _ w.heap.size _ (n2 0 3) _ rfl HK9.out nb_under rfl nb_size) rfl ⟨rfl, HW.out.trans (HO9.out.below (Nat.le_refl _))⟩
  by_cases h116 : 12 < m
  · clear h
    go_enter Tryd.func12, Tryd.ntmps12
    go_wp2_with (first | (refine wpList_dst 35 rfl ?_; refine wpList_run 35 rfl rfl _ (exec_build1 32 1 (.const (.int .i64 3)) rfl (.int .i64 3) _ rfl (nb_b1 _)) ?_; go_frame) | (refine wpList_store_all rfl 32 (.tmp 6) (.tmp 35) rfl w.heap.size _ (n2 0 0) (n2 0 3) rfl rfl HZ.out rfl nb_size (nb_one _ _) ?_; intro w9 HK9 ho9; have HO9 := Lib.hid ho9; clear ho9))
    exact bodyPost_ret (results_blk rfl _ _ w.heap.size _ (n2 0 3) _ rfl HK9.out nb_under rfl nb_size) rfl ⟨rfl, HW.out.trans (HO9.out.below (Nat.le_refl _))⟩
  by_cases h724 : d < 1
  · clear h
    go_enter Tryd.func12, Tryd.ntmps12
    go_wp2_with (first | (refine wpList_dst 35 rfl ?_; refine wpList_run 35 rfl rfl _ (exec_build1 32 1 (.const (.int .i64 3)) rfl (.int .i64 3) _ rfl (nb_b1 _)) ?_; go_frame) | (refine wpList_store_all rfl 32 (.tmp 6) (.tmp 35) rfl w.heap.size _ (n2 0 0) (n2 0 3) rfl rfl HZ.out rfl nb_size (nb_one _ _) ?_; intro w9 HK9 ho9; have HO9 := Lib.hid ho9; clear ho9))
    exact bodyPost_ret (results_blk rfl _ _ w.heap.size _ (n2 0 3) _ rfl HK9.out nb_under rfl nb_size) rfl ⟨rfl, HW.out.trans (HO9.out.below (Nat.le_refl _))⟩
  have HC := Lib.hid (fun W => rlength_any y m (m - 1).toNat W (by omega) (by omega))
  have hlt : ((mlI y (m - 1).toNat : Nat) : Int) < d := by
    rcases Int.lt_or_le ((mlI y (m - 1).toNat : Nat) : Int) d with h6 | h6
    · exact h6
    · exact absurd ⟨by omega, by omega, by omega, by omega, by omega, h6⟩ h
  obtain ⟨L, hLe⟩ : ∃ L, mlI y (m - 1).toNat = L := ⟨_, rfl⟩
  rw [hLe] at HC hlt
  clear h hLe
  go_enter Tryd.func12, Tryd.ntmps12
  go_wp2_with fail
  refine (HC.out _).mono ?_
  rintro e w0 ⟨rfl, h0⟩
  subst h0
  go_wp2_with (first | (refine wpList_dst 35 rfl ?_; refine wpList_run 35 rfl rfl _ (exec_build1 32 1 (.const (.int .i64 3)) rfl (.int .i64 3) _ rfl (nb_b1 _)) ?_; go_frame) | (refine wpList_store_all rfl 32 (.tmp 6) (.tmp 35) rfl w.heap.size _ (n2 0 0) (n2 0 3) rfl rfl HZ.out rfl nb_size (nb_one _ _) ?_; intro w9 HK9 ho9; have HO9 := Lib.hid ho9; clear ho9))
  exact bodyPost_ret (results_blk rfl _ _ w.heap.size _ (n2 0 3) _ rfl HK9.out nb_under rfl nb_size) rfl ⟨rfl, HW.out.trans (HO9.out.below (Nat.le_refl _))⟩
set_option maxRecDepth 100000 in
set_option maxHeartbeats 1000000 in
theorem rday_yes (j m x : Nat) (y m' d : Int) (w : World) (hj : j < 40) (hm : m < 12) (hx : x < mlen (12 * j + m)) (hy : y = 2000 + (j : Int)) (hm' : m' = (m : Int) + 1) (hd : d = (x : Int) + 1) : Calls Tryd.prog 12 #[.int .i64 y, .int .i64 m', .int .i64 d] w fun e w' => e = .returned (nbV (ms (12 * j + m) + x : Nat) 0) ∧ Below w.heap.size w w' := by
  subst hy hm' hd
  have HZ := Lib.hid (Blk.new w 32 (n2 0 0))
  have HW := Lib.hid ((Below.refl w.heap.size w).alloc (Nat.le_refl _) (.cells (n2 0 0).toArray 32))
  have hC := fun W => rlength_any (2000 + (j : Int)) ((m : Int) + 1) m W hm rfl
  rw [mlI_yr j hm] at hC
  obtain ⟨L, hLe⟩ : ∃ L, mlen (12 * j + m) = L := ⟨_, rfl⟩
  have hbd := mlen_bd (12 * j + m)
  rw [hLe] at hC hx hbd
  have HC := Lib.hid hC
  have t1 : ¬ (2000 + (j : Int) < 2000) := by omega
  have t2 : ¬ ((2039 : Int) < 2000 + (j : Int)) := by omega
  have t3 : ¬ ((m : Int) + 1 < 1) := by omega
  have t4 : ¬ ((12 : Int) < (m : Int) + 1) := by omega
  have t5 : ¬ ((x : Int) + 1 < 1) := by omega
  have t6 : ¬ ((L : Int) < (x : Int) + 1) := by omega
  clear hLe hC
  go_enter Tryd.func12, Tryd.ntmps12
  go_wp2_with fail
  refine (HC.out _).mono ?_
  rintro e w0 ⟨rfl, h0⟩
  subst h0
  clear t1 t2 t3 t4 t5 t6
  go_wp2
  go_loop [7, 8] (fun nv yv => ∃ i : Nat, i ≤ j ∧ yv = .int .i64 (2000 + (i : Int)) ∧ nv = .int .i64 ((ms (12 * i) + x : Nat) : Int)) (fun _ yv => (2041 - intOf yv).toNat)
  case atStart => exact ⟨0, by omega, rfl, by rw [show ms (12 * 0) + x = x from Nat.zero_add x]; try go_num⟩
  case round =>
    obtain ⟨i, hi, rfl, rfl⟩ := hrel
    obtain ⟨S, hS⟩ : ∃ S, ms (12 * i) = S := ⟨_, rfl⟩
    have hSb : S ≤ 14610 := by rw [← hS, ← ms_end]; exact ms_le (by omega)
    rw [hS]
    by_cases hc : i < j
    · obtain ⟨Y, hY⟩ : ∃ Y, ms (12 * (i + 1)) - ms (12 * i) = Y := ⟨_, rfl⟩
      have hle := ms_le (show 12 * i ≤ 12 * (i + 1) by omega)
      have hyr := yr_all ⟨i, by omega⟩
      simp only at hyr
      have FD := Lib.hid (fun W => rdays_any (2000 + (i : Int)) W)
      rw [dyI_yr (by omega), hY] at FD
      have hYb : Y ≤ 366 := by omega
      have HX : Hid (((S + x : Nat) : Int) + (Y : Int) = ((ms (12 * (i + 1)) + x : Nat) : Int)) := Lib.hid (by omega)
      have hlt : (2000 : Int) + (i : Int) < 2000 + (j : Int) := by omega
      clear hS hY hle hyr
      go_wp2_with fail
      refine (FD.out _).mono ?_
      rintro e w0 ⟨rfl, h0⟩
      subst h0
      go_wp2
      go_round
      case rel => exact ⟨i + 1, by omega, by go_num, by rw [← HX.out]; go_num⟩
      case measure => simp [intOf]; omega
    · obtain rfl : i = j := by omega
      have hlt : ¬ (2000 : Int) + (i : Int) < 2000 + (i : Int) := by omega
      have HS := Lib.hid hS
      clear hS
      go_wp2
      go_loop [7, 9] (fun nv mv => ∃ k : Nat, k ≤ m ∧ mv = .int .i64 ((k : Int) + 1) ∧ nv = .int .i64 ((ms (12 * i + k) + x : Nat) : Int)) (fun _ mv => (13 - intOf mv).toNat)
      case atStart => exact ⟨0, by omega, rfl, by rw [show ms (12 * i + 0) = S from HS.out]; try go_num⟩
      case round =>
        obtain ⟨k, hk, rfl, rfl⟩ := hrel
        obtain ⟨S2, hS2⟩ : ∃ S, ms (12 * i + k) = S := ⟨_, rfl⟩
        have hSb2 : S2 ≤ 14610 := by rw [← hS2, ← ms_end]; exact ms_le (by omega)
        rw [hS2]
        by_cases hc2 : k < m
        · obtain ⟨N, hN⟩ : ∃ N, mlen (12 * i + k) = N := ⟨_, rfl⟩
          have hb2 := mlen_bd (12 * i + k)
          have hs2 := ms_succ (12 * i + k)
          have FL := Lib.hid (fun W => rlength_any (2000 + (i : Int)) ((k : Int) + 1) k W (by omega) rfl)
          rw [mlI_yr i (by omega), hN] at FL
          rw [hN] at hb2 hs2
          have HX : Hid (((S2 + x : Nat) : Int) + (N : Int) = ((ms (12 * i + (k + 1)) + x : Nat) : Int)) := Lib.hid (by
            have e : ms (12 * i + (k + 1)) = ms (12 * i + k + 1) := rfl
            omega)
          have hlt2 : (k : Int) + 1 < (m : Int) + 1 := by omega
          clear hS2 hN hs2
          go_wp2_with fail
          refine (FL.out _).mono ?_
          rintro e w0 ⟨rfl, h0⟩
          subst h0
          go_wp2
          go_round
          case rel => exact ⟨k + 1, by omega, by go_num, by rw [← HX.out]; go_num⟩
          case measure => simp [intOf]; omega
        · obtain rfl : k = m := by omega
          have hlt2 : ¬ (k : Int) + 1 < (k : Int) + 1 := by omega
          have HS2 := Lib.hid hS2
          clear hS2
          go_wp2_with (first | (refine wpList_dst 58 rfl ?_; refine wpList_run 58 rfl rfl _ (exec_build1 32 0 (.tmp 57) rfl (.int .i64 ((S2 + x : Nat) : Int)) _ rfl (nb_b0 _ _)) ?_; go_frame) | (refine wpList_store_all rfl 32 (.tmp 6) (.tmp 58) rfl w.heap.size _ (n2 0 0) (n2 ((S2 + x : Nat) : Int) 0) rfl rfl HZ.out rfl nb_size (nb_one _ _) ?_; intro w9 HK9 ho9; have HO9 := Lib.hid ho9; clear ho9))
          exact bodyPost_ret (results_blk rfl _ _ w.heap.size _ (n2 ((S2 + x : Nat) : Int) 0) _ rfl HK9.out nb_under rfl nb_size) rfl ⟨by rw [HS2.out]; rfl, HW.out.trans (HO9.out.below (Nat.le_refl _))⟩
end Go.Proofs.YtbboadoolgcmaaaDoor
