/- The reference's Date. -/
import Derived.Test.YtmifpaafpmibmaaDoorCT
namespace Go.Proofs.YtmifpaafpmibmaaDoor
open Go.RowKit Hm Wm Cm

theorem dyI_yr {i : Nat} (h : i < 40) : dyI (2000 + (i : Int)) = ((ms (12 * (i + 1)) - ms (12 * i) : Nat) : Int) := by
  have h1 := yr_len ⟨i, h⟩
  simp only at h1
  have e : lpI (2000 + (i : Int)) = lp (2000 + i) := lpI_nat (2000 + i)
  unfold dyI
  rw [e]
  cases hl : lp (2000 + i) <;> rw [hl] at h1 <;> simp at h1 ⊢ <;> omega
set_option maxRecDepth 100000 in
set_option maxHeartbeats 1000000 in
theorem rdate_yes (D : Nat) (w : World) (hD : D < 14610) : Calls Tryd.prog 37 #[.int .i64 D] w fun e w' => e = .returned (dtV (2000 + (mo D / 12 : Nat)) ((mo D % 12 : Nat) + 1) ((D - ms (mo D) : Nat) + 1) 0) ∧ Below w.heap.size w w' := by
  have HZ := Lib.hid (Blk.new w 66 (d4 0 0 0 0))
  have HW := Lib.hid ((Below.refl w.heap.size w).alloc (Nat.le_refl _) (.cells (d4 0 0 0 0).toArray 66))
  have ht0 : ¬ (D : Int) < 0 := by omega
  have ht1 : ¬ (14609 : Int) < (D : Int) := by omega
  have hsz : (w.alloc (.cells (d4 0 0 0 0).toArray 66)).heap.size = w.heap.size + 1 := by simp
  have HSZ := Lib.hid hsz
  clear hsz
  go_enter Tryd.func37, Tryd.ntmps37
  go_wp2_with (first | (refine wpList_dst 11 rfl ?_; refine wpList_run 11 rfl rfl _ (exec_build2' 66 0 1 (.const (.int .i64 2000)) (.const (.int .i64 1)) rfl (.int .i64 2000) (.int .i64 1) _ rfl rfl (dt_b01 _)) ?_; go_frame) | (refine wpList_var rfl rfl 66 3 rfl rfl rfl (.tmp 11) rfl (d4 0 0 0 0) (d4 2000 1 0 0) dt_zero rfl rfl rfl dt_size (dt_one _ _ _ _) ?_; intro w2 HX HB; rw [HSZ.out] at HX ⊢; replace HZ := Lib.hid (HZ.out.next HB.out); replace HW := Lib.hid (HW.out.trans (HB.out.mono HW.out.size)); clear HB))
  go_loopw [0] (fun dv wr => ∃ i : Nat, i ≤ 39 ∧ Hid (ms (12 * i) ≤ D) ∧ dv = .int .i64 ((D - ms (12 * i) : Nat) : Int) ∧ Hid (Blk wr (w.heap.size + 1) 66 (d4 (2000 + (i : Int)) 1 0 0)) ∧ Hid (Blk wr w.heap.size 66 (d4 0 0 0 0)) ∧ Hid (Below w.heap.size w wr)) (fun dv _ => (intOf dv).toNat)
  case atStart => exact ⟨0, by omega, Lib.hid (Nat.zero_le _), by rfl, HX, HZ, HW⟩
  case round =>
    clear HX HZ HW HSZ
    obtain ⟨i, hi, hm, rfl, HX, HZ, HW⟩ := hrel
    have hm' := hm.out
    obtain ⟨x, hx⟩ : ∃ x, D - ms (12 * i) = x := ⟨_, rfl⟩
    rw [hx]
    obtain ⟨Y, hY⟩ : ∃ Y, ms (12 * (i + 1)) - ms (12 * i) = Y := ⟨_, rfl⟩
    have hle := ms_le (show 12 * i ≤ 12 * (i + 1) by omega)
    have hyr := yr_all ⟨i, by omega⟩
    simp only at hyr
    have hYb : 365 ≤ Y ∧ Y ≤ 366 := by omega
    have FD := Lib.hid (fun W => rdays_any (2000 + (i : Int)) W)
    rw [dyI_yr (by omega), hY] at FD
    have hxb : x ≤ 14610 := by omega
    by_cases hc : Y ≤ x
    · have h39 : i + 1 ≤ 39 := by
        rcases Nat.lt_or_ge (i + 1) 40 with h | h
        · omega
        · have := ms_le (show 480 ≤ 12 * (i + 1) by omega)
          rw [ms_end] at this; omega
      have HM : Hid (ms (12 * (i + 1)) ≤ D) := Lib.hid (by omega)
      have HX2 : Hid (D - ms (12 * (i + 1)) = x - Y) := Lib.hid (by omega)
      have ht : decide ((Y : Int) ≤ (x : Int)) = true := decide_eq_true (by omega)
      have ht' : decide (Y ≤ x) = true := decide_eq_true hc
      obtain ⟨Yb1, Yb2⟩ := hYb
      clear hm hm' hx hY hle hyr
      go_wp2_with (first | (refine wpList_dst 13 rfl ?_; refine wpList_run 13 rfl rfl _ (exec_fieldAddr 66 (.tmp 3) 0 rfl _ _ rfl (dt_f0 _ _)) ?_; go_frame) | (refine wpList_dst 14 rfl ?_; refine wpList_run 14 rfl rfl _ (exec_loadI (.tmp 13) rfl (.int .i64 (2000 + (i : Int))) rfl (HX.out.cell 0)) ?_; go_frame))
      refine (FD.out _).mono ?_
      rintro e w0 ⟨rfl, h0⟩
      subst h0
      go_wp2_with (first | (refine wpList_dst 18 rfl ?_; refine wpList_run 18 rfl rfl _ (exec_fieldAddr 66 (.tmp 3) 0 rfl _ _ rfl (dt_f0 _ _)) ?_; go_frame) | (refine wpList_dst 19 rfl ?_; refine wpList_run 19 rfl rfl _ (exec_loadI (.tmp 18) rfl (.int .i64 (2000 + (i : Int))) rfl (HX.out.cell 0)) ?_; go_frame))
      refine (FD.out _).mono ?_
      rintro e w0 ⟨rfl, h0⟩
      subst h0
      go_wp2_with (first | (refine wpList_dst 22 rfl ?_; refine wpList_run 22 rfl rfl _ (exec_fieldAddr 66 (.tmp 3) 0 rfl _ _ rfl (dt_f0 _ _)) ?_; go_frame) | (refine wpList_dst 23 rfl ?_; refine wpList_run 23 rfl rfl _ (exec_loadI (.tmp 22) rfl (.int .i64 (2000 + (i : Int))) rfl (HX.out.cell 0)) ?_; go_frame) | (refine wpList_dst 25 rfl ?_; refine wpList_run 25 rfl rfl _ (exec_fieldAddr 66 (.tmp 3) 0 rfl _ _ rfl (dt_f0 _ _)) ?_; go_frame) | (refine wpList_store_cell rfl (.tmp 25) (.tmp 24) rfl (w.heap.size + 1) 0 66 (d4 (2000 + (i : Int)) 1 0 0) (2000 + (i : Int) + 1) rfl rfl HX.out (by simp) ?_; intro w7 HY hoy; have HOY := Lib.hid hoy; clear hoy; go_frame))
      go_roundw
      case rel => exact ⟨i + 1, h39, HM, by rw [HX2.out]; go_num, by have := HY.out; rw [show (2000 + ((i + 1 : Nat) : Int)) = 2000 + (i : Int) + 1 from by omega]; exact Lib.hid this, Lib.hid (HOY.out.blk HZ.out (by omega)), Lib.hid (HW.out.trans (HOY.out.below (by omega)))⟩
      case measure => simp [intOf]; omega
    · have hji : mo D / 12 = i := mo_year hD hm' (by omega)
      have HJI := Lib.hid hji
      have hnext : D < ms (12 * (i + 1)) := by omega
      have HNX := Lib.hid hnext
      have HMM := Lib.hid (show ms (12 * i + 0) ≤ D from hm')
      have HXX := Lib.hid (show (x : Int) = ((D - ms (12 * i + 0) : Nat) : Int) from by rw [show 12 * i + 0 = 12 * i from rfl, hx])
      have ht : decide ((Y : Int) ≤ (x : Int)) = false := decide_eq_false (by omega)
      have ht' : decide (Y ≤ x) = false := decide_eq_false hc
      obtain ⟨Yb1, Yb2⟩ := hYb
      clear hm hm' hx hY hle hyr hji hnext
      go_wp2_with (first | (refine wpList_dst 13 rfl ?_; refine wpList_run 13 rfl rfl _ (exec_fieldAddr 66 (.tmp 3) 0 rfl _ _ rfl (dt_f0 _ _)) ?_; go_frame) | (refine wpList_dst 14 rfl ?_; refine wpList_run 14 rfl rfl _ (exec_loadI (.tmp 13) rfl (.int .i64 (2000 + (i : Int))) rfl (HX.out.cell 0)) ?_; go_frame))
      refine (FD.out _).mono ?_
      rintro e w0 ⟨rfl, h0⟩
      subst h0
      go_wp2_with fail
      obtain ⟨wo, rfl⟩ : ∃ wo : World, wo = wr := ⟨_, rfl⟩
      go_loopw [0] (fun dv wr => ∃ k : Nat, k < 12 ∧ Hid (ms (12 * i + k) ≤ D) ∧ dv = .int .i64 ((D - ms (12 * i + k) : Nat) : Int) ∧ Hid (Blk wr (w.heap.size + 1) 66 (d4 (2000 + (i : Int)) ((k : Int) + 1) 0 0)) ∧ Hid (Blk wr w.heap.size 66 (d4 0 0 0 0)) ∧ Hid (Below w.heap.size w wr)) (fun dv _ => (intOf dv).toNat)
      case atStart => exact ⟨0, by omega, HMM, by rw [HXX.out], HX, HZ, HW⟩
      case round =>
        clear HX HZ HW HXX HMM FD
        obtain ⟨k, hk, hm, rfl, HX, HZ, HW⟩ := hrel
        have hm' := hm.out
        obtain ⟨y, hy⟩ : ∃ y, D - ms (12 * i + k) = y := ⟨_, rfl⟩
        rw [hy]
        obtain ⟨N, hN⟩ : ∃ N, mlen (12 * i + k) = N := ⟨_, rfl⟩
        have hbd := mlen_bd (12 * i + k)
        have hs := ms_succ (12 * i + k)
        have FL := Lib.hid (fun W => rlength_any (2000 + (i : Int)) ((k : Int) + 1) k W hk rfl)
        rw [mlI_yr i hk, hN] at FL
        rw [hN] at hbd hs
        have hyb : y ≤ 14610 := by omega
        obtain ⟨Nb1, Nb2⟩ := hbd
        by_cases hc2 : N ≤ y
        · have h11 : k + 1 < 12 := by
            rcases Nat.lt_or_ge (k + 1) 12 with h | h
            · exact h
            · have h2 := ms_le (show 12 * (i + 1) ≤ 12 * i + k + 1 by omega)
              have := HNX.out
              omega
          have HM : Hid (ms (12 * i + (k + 1)) ≤ D) := Lib.hid (by show ms (12 * i + k + 1) ≤ D; omega)
          have HX2 : Hid (D - ms (12 * i + (k + 1)) = y - N) := Lib.hid (by show D - ms (12 * i + k + 1) = _; omega)
          have hu : decide ((N : Int) ≤ (y : Int)) = true := decide_eq_true (by omega)
          have hu' : decide (N ≤ y) = true := decide_eq_true hc2
          clear hm hm' hy hN hs
          go_wp2_with (first | (refine wpList_dst 27 rfl ?_; refine wpList_run 27 rfl rfl _ (exec_fieldAddr 66 (.tmp 3) 0 rfl _ _ rfl (dt_f0 _ _)) ?_; go_frame) | (refine wpList_dst 28 rfl ?_; refine wpList_run 28 rfl rfl _ (exec_loadI (.tmp 27) rfl (.int .i64 (2000 + (i : Int))) rfl (HX.out.cell 0)) ?_; go_frame) | (refine wpList_dst 29 rfl ?_; refine wpList_run 29 rfl rfl _ (exec_fieldAddr 66 (.tmp 3) 1 rfl _ _ rfl (dt_f1 _ _)) ?_; go_frame) | (refine wpList_dst 30 rfl ?_; refine wpList_run 30 rfl rfl _ (exec_loadI (.tmp 29) rfl (.int .i64 ((k : Int) + 1)) rfl (HX.out.cell 1)) ?_; go_frame))
          refine (FL.out _).mono ?_
          rintro e w0 ⟨rfl, h0⟩
          subst h0
          go_wp2_with (first | (refine wpList_dst 34 rfl ?_; refine wpList_run 34 rfl rfl _ (exec_fieldAddr 66 (.tmp 3) 0 rfl _ _ rfl (dt_f0 _ _)) ?_; go_frame) | (refine wpList_dst 35 rfl ?_; refine wpList_run 35 rfl rfl _ (exec_loadI (.tmp 34) rfl (.int .i64 (2000 + (i : Int))) rfl (HX.out.cell 0)) ?_; go_frame) | (refine wpList_dst 36 rfl ?_; refine wpList_run 36 rfl rfl _ (exec_fieldAddr 66 (.tmp 3) 1 rfl _ _ rfl (dt_f1 _ _)) ?_; go_frame) | (refine wpList_dst 37 rfl ?_; refine wpList_run 37 rfl rfl _ (exec_loadI (.tmp 36) rfl (.int .i64 ((k : Int) + 1)) rfl (HX.out.cell 1)) ?_; go_frame))
          refine (FL.out _).mono ?_
          rintro e w0 ⟨rfl, h0⟩
          subst h0
          go_wp2_with (first | (refine wpList_dst 40 rfl ?_; refine wpList_run 40 rfl rfl _ (exec_fieldAddr 66 (.tmp 3) 1 rfl _ _ rfl (dt_f1 _ _)) ?_; go_frame) | (refine wpList_dst 41 rfl ?_; refine wpList_run 41 rfl rfl _ (exec_loadI (.tmp 40) rfl (.int .i64 ((k : Int) + 1)) rfl (HX.out.cell 1)) ?_; go_frame) | (refine wpList_dst 43 rfl ?_; refine wpList_run 43 rfl rfl _ (exec_fieldAddr 66 (.tmp 3) 1 rfl _ _ rfl (dt_f1 _ _)) ?_; go_frame) | (refine wpList_store_cell rfl (.tmp 43) (.tmp 42) rfl (w.heap.size + 1) 1 66 (d4 (2000 + (i : Int)) ((k : Int) + 1) 0 0) ((k : Int) + 1 + 1) rfl rfl HX.out (by simp) ?_; intro w7 HY hoy; have HOY := Lib.hid hoy; clear hoy; go_frame))
          go_roundw
          case rel => exact ⟨k + 1, h11, HM, by rw [HX2.out]; go_num, HY, Lib.hid (HOY.out.blk HZ.out (by omega)), Lib.hid (HW.out.trans (HOY.out.below (by omega)))⟩
          case measure => simp [intOf]; omega
        · have hmo : mo D = 12 * i + k := mo_of hD hm' (by omega)
          have HMO := Lib.hid hmo
          have HYY := Lib.hid hy
          have hu : decide ((N : Int) ≤ (y : Int)) = false := decide_eq_false (by omega)
          have hu' : decide (N ≤ y) = false := decide_eq_false hc2
          clear hm hm' hy hN hs hmo
          go_wp2_with (first | (refine wpList_dst 27 rfl ?_; refine wpList_run 27 rfl rfl _ (exec_fieldAddr 66 (.tmp 3) 0 rfl _ _ rfl (dt_f0 _ _)) ?_; go_frame) | (refine wpList_dst 28 rfl ?_; refine wpList_run 28 rfl rfl _ (exec_loadI (.tmp 27) rfl (.int .i64 (2000 + (i : Int))) rfl (HX.out.cell 0)) ?_; go_frame) | (refine wpList_dst 29 rfl ?_; refine wpList_run 29 rfl rfl _ (exec_fieldAddr 66 (.tmp 3) 1 rfl _ _ rfl (dt_f1 _ _)) ?_; go_frame) | (refine wpList_dst 30 rfl ?_; refine wpList_run 30 rfl rfl _ (exec_loadI (.tmp 29) rfl (.int .i64 ((k : Int) + 1)) rfl (HX.out.cell 1)) ?_; go_frame))
          refine (FL.out _).mono ?_
          rintro e w0 ⟨rfl, h0⟩
          subst h0
          go_wp2_with (first | (refine wpList_dst 46 rfl ?_; refine wpList_run 46 rfl rfl _ (exec_fieldAddr 66 (.tmp 3) 2 rfl _ _ rfl (dt_f2 _ _)) ?_; go_frame) | (refine wpList_store_cell rfl (.tmp 46) (.tmp 45) rfl (w.heap.size + 1) 2 66 (d4 (2000 + (i : Int)) ((k : Int) + 1) 0 0) ((y : Int) + 1) rfl rfl HX.out (by simp) ?_; intro w7 HY hoy; have HOY := Lib.hid hoy; clear hoy; go_frame; have HZ7 := Lib.hid (HOY.out.blk HZ.out (by omega))) | (refine wpList_dst 47 rfl ?_; refine wpList_run 47 rfl rfl _ (exec_load 66 (.tmp 3) rfl _ _ rfl (run_load_part _ 66 _ 0 4 66 (d4 (2000 + (i : Int)) ((k : Int) + 1) ((y : Int) + 1) 0) _ HY.out (by simp) Tryd.underlying66 rfl dt_size)) ?_; go_frame) | (refine wpList_store_all rfl 66 (.tmp 2) (.tmp 47) rfl w.heap.size _ (d4 0 0 0 0) (d4 (2000 + (i : Int)) ((k : Int) + 1) ((y : Int) + 1) 0) rfl rfl HZ7.out rfl dt_size (dt_one _ _ _ _) ?_; intro w9 HK9 ho9; have HO9 := Lib.hid ho9; clear ho9))
          refine bodyPost_ret (results_blk rfl _ _ w.heap.size _ (d4 (2000 + (i : Int)) ((k : Int) + 1) ((y : Int) + 1) 0) _ rfl HK9.out dt_under rfl dt_size) rfl ⟨?_, (HW.out.trans (HOY.out.below (by omega))).trans (HO9.out.below (Nat.le_refl _))⟩
          rw [HMO.out, HYY.out, show (12 * i + k) / 12 = i by omega, show (12 * i + k) % 12 = k by omega]
          rfl
end Go.Proofs.YtmifpaafpmibmaaDoor
