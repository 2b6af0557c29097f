/- Div64: the walk. -/
import Derived.Test.YtkjnfobaoaaopaaGreatDoorN14
namespace Go.Proofs.YtkjnfobaoaaopaaGreatDoor
open Go.RowKit Hm Wm Wn

theorem small_mul {a b : Nat} (ha : a < 4294967296) (hb : b < 4294967296) : a * b < 18446744073709551616 := by
  have h := Nat.mul_le_mul (Nat.le_of_lt_succ ha) (Nat.le_of_lt_succ hb)
  omega
theorem wpList_dst {w : World} {ops : Array Oper} {rest : List Oper} {o : Oper} {a : Act} {Q : Exit → Act → World → Prop} (d : Tmp) (_hd : o.dst = some d) (h : wpList Tryz.prog ops Q (o :: rest) a w) : wpList Tryz.prog ops Q (o :: rest) a w := h
/-- What stands in a guess's loop. -/
def DvR (u v1 Q : Nat) (qv rv : Value) : Prop := ∃ q r : Nat, qv = .int .u64 q ∧ rv = .int .u64 r ∧ r < 4294967296 ∧ q < 18446744073709551616 ∧ Hid (q * v1 + r = u) ∧ Hid (Q ≤ q)
theorem dv_first {u v1 Y v0 d Q : Nat} (hY : Y = v1 * 4294967296 + v0) (hd : d < 4294967296) (hv : 0 < v1) (hv2 : v1 < 4294967296) (hu : u < B) (hQ : (u * 4294967296 + d) / Y = Q) :
    ∃ q p r, u / v1 = q ∧ q * v1 % B = p ∧ (u + B - p) % B = r ∧ p ≤ B ∧ DvR u v1 Q (.int .u64 (q : Int)) (.int .u64 (r : Int)) := by
  have h1 := Nat.div_add_mod u v1
  have h2 := Nat.mod_lt u hv
  have h3 := dv_start (u := u) hY hd hv
  have h4 := Nat.div_le_self u v1
  rw [hQ] at h3
  rw [Nat.mul_comm] at h1
  generalize u / v1 = q at *
  generalize u % v1 = r at *
  have h5 : q * v1 ≤ u := by omega
  have h6 : q * v1 % B = q * v1 := Nat.mod_eq_of_lt (by omega)
  refine ⟨q, q * v1, r, rfl, h6, ?_, by omega, q, r, rfl, rfl, by omega, Nat.lt_of_le_of_lt h4 hu, Lib.hid h1, Lib.hid h3⟩
  rw [← h1, show q * v1 + r + B - q * v1 = r + B by omega, Nat.add_mod_right]
  exact Nat.mod_eq_of_lt (by omega)
set_option maxRecDepth 100000 in
set_option maxHeartbeats 400000 in
theorem div64_zero (lo y : Nat) (w : World) (hlo : lo < B) (h0 : 0 < y) :
    Calls Tryz.prog 80 #[.int .u64 0, .int .u64 lo, .int .u64 y] w fun e w' => e = .returned (.tuple #[.int .u64 (lo / y : Nat), .int .u64 (lo % y : Nat)]) ∧ Below w.heap.size w w' := by
  obtain ⟨q, hq⟩ : ∃ q, lo / y = q := ⟨_, rfl⟩
  obtain ⟨r, hr⟩ : ∃ r, lo % y = r := ⟨_, rfl⟩
  have hrm := fun W => run_remW lo y (by omega) W
  rw [hr] at hrm
  have HRM := Lib.hid hrm
  have HQM := Lib.hid (fun W => run_quoW lo y q W (by omega) hlo hq)
  have e0 : ((y : Int) == 0) = false := by simp; omega
  have e0' : decide (y = 0) = false := decide_eq_false (by omega)
  have e1 : decide ((y : Int) ≤ 0) = false := decide_eq_false (by omega)
  have e1' : decide (y ≤ 0) = false := decide_eq_false (by omega)
  rw [hq, hr]
  have HN := Lib.hid (show y ≠ 0 by omega)
  clear hq hr hrm hlo h0
  go_enter Tryz.func80, Tryz.ntmps80
  go_wp2_with fail
  refine wp_region_held_drew (S := fun W => Below w.heap.size w W) (by kernel_rfl) (Below.refl _ w).drew (fun hS => ?_)
  generalize w.drew = u0 at hS ⊢
  refine reg_takeG (i := 0) (some 28) rfl rfl rfl (by kernel_rfl) (by kernel_rfl) (by kernel_rfl) (.int .u64 lo) (fun _ _ _ h => h) (fun W hW => exec_move (.tmp 1) rfl _ rfl) hS ?_
  go_frame
  refine reg_takeG (i := 1) (some 29) rfl rfl rfl (by kernel_rfl) (by kernel_rfl) (by kernel_rfl) (.int .u64 y) (fun _ _ _ h => h) (fun W hW => exec_move (.tmp 2) rfl _ rfl) hS ?_
  go_frame
  refine reg_takeG (i := 2) (some 30) rfl rfl rfl (by kernel_rfl) (by kernel_rfl) (by kernel_rfl) (.int .u64 q) (fun _ _ _ h => h) (fun W hW => exec_bin .quo 53 _ (.tmp 28) (.tmp 29) rfl _ _ _ rfl rfl rfl (HQM.out W)) hS ?_
  go_frame
  refine reg_takeG (i := 3) (some 31) rfl rfl rfl (by kernel_rfl) (by kernel_rfl) (by kernel_rfl) (.int .u64 lo) (fun _ _ _ h => h) (fun W hW => exec_move (.tmp 1) rfl _ rfl) hS ?_
  go_frame
  refine reg_takeG (i := 4) (some 32) rfl rfl rfl (by kernel_rfl) (by kernel_rfl) (by kernel_rfl) (.int .u64 y) (fun _ _ _ h => h) (fun W hW => exec_move (.tmp 2) rfl _ rfl) hS ?_
  go_frame
  refine reg_takeG (i := 5) (some 33) rfl rfl rfl (by kernel_rfl) (by kernel_rfl) (by kernel_rfl) (.int .u64 r) (fun _ _ _ h => h) (fun W hW => exec_bin .rem 53 _ (.tmp 31) (.tmp 32) rfl _ _ _ rfl rfl rfl (HRM.out W)) hS ?_
  go_frame
  refine reg_takeG (i := 6) (some 6) rfl rfl rfl (by kernel_rfl) (by kernel_rfl) (by kernel_rfl) (.int .u64 q) (fun _ _ _ h => h) (fun W hW => exec_assign (.tmp 30) rfl _ rfl) hS ?_
  go_frame
  refine reg_takeG (i := 7) (some 7) rfl rfl rfl (by kernel_rfl) (by kernel_rfl) (by kernel_rfl) (.int .u64 r) (fun _ _ _ h => h) (fun W hW => exec_assign (.tmp 33) rfl _ rfl) hS ?_
  go_frame
  refine wpAnyH_done (by kernel_rfl) ?_ _
  have HS := Lib.hid hS
  clear hS
  go_wp2
  go_ret2
  exact ⟨rfl, HS.out⟩
set_option maxRecDepth 100000 in
set_option maxHeartbeats 8000000 in
theorem div64_pos (hi lo y : Nat) (w : World) (hy : y < B) (hh : hi < y) (hlo : lo < B) (h0 : 0 < hi) :
    Calls Tryz.prog 80 #[.int .u64 hi, .int .u64 lo, .int .u64 y] w fun e w' => e = .returned (.tuple #[.int .u64 ((hi * 18446744073709551616 + lo) / y : Nat), .int .u64 ((hi * 18446744073709551616 + lo) % y : Nat)]) ∧ w' = w := by
  obtain ⟨s, hs0, hs, hb1, hb2⟩ := lz_bounds (y := y) (by omega) hy
  obtain ⟨Y, v1, v0, a1, lo1, u, l, d1, d0, Q1, R1, Q0, R0, D⟩ := dv_nums hs hh hlo hb1 hb2
  have hLZ := Tryz.bits_LeadingZeros64 (y : Int) w (by omega) (by unfold B at hy; omega)
  rw [Int.toNat_natCast, hs0] at hLZ
  have HLZ := Lib.hid hLZ
  have hYB := D.hYB
  have hpo : 0 < Y := by have := D.uY; omega
  have huB : u < B := Nat.lt_trans D.uY D.hYB
  have hRB : R1 < B := Nat.lt_trans D.R1Y D.hYB
  have HPO := Lib.hid hpo
  have HY := Lib.hid (fun W => run_shlW y Y s W (by omega) D.hY)
  have HV1 := Lib.hid (fun W => show (binOp .shr 53 (.int .u64 Y) (.int .u64 32)).run Tryz.prog W = _ from run_shrW Y v1 32 W (by omega) D.hv1)
  have HV0 := Lib.hid (fun W => run_andW Y v0 W D.hYB D.hv0)
  have HH1 := Lib.hid (fun W => run_shlW hi a1 s W (by omega) D.hh1)
  have HLO := Lib.hid (fun W => show (binOp .shr 53 (.int .u64 lo) (.int .u64 (64 - (s : Int)))).run Tryz.prog W = .ok (.int .u64 (lo1 : Int)) W by rw [show 64 - (s : Int) = ((64 - s : Nat) : Int) by omega]; exact run_shrW lo lo1 (64 - s) W (by omega) D.hlo1)
  have hor := fun W => run_orW a1 lo1 s W hi D.hh1' D.lo1l (by have := D.hu; omega)
  rw [D.hu] at hor
  have HOR := Lib.hid hor
  have HL := Lib.hid (fun W => run_shlW lo l s W (by omega) D.hl)
  have HD1 := Lib.hid (fun W => show (binOp .shr 53 (.int .u64 l) (.int .u64 32)).run Tryz.prog W = _ from run_shrW l d1 32 W (by omega) D.hd1)
  have HD0 := Lib.hid (fun W => run_andW l d0 W D.lB D.hd0)
  obtain ⟨q, p, r, hg1, hg2, hg3, hg4, start1⟩ := dv_first D.hYe D.d1l D.v1p D.v1l huB D.hQ1
  have HG := Lib.hid (fun W => run_quoW u v1 q W (by have := D.v1p; omega) huB hg1)
  have HP := Lib.hid (fun W => run_mulW q v1 p W hg2)
  have HR := Lib.hid (fun W => run_subW u p r W hg4 hg3)
  obtain ⟨q2, p2, r2, hg5, hg6, hg7, hg8, start2⟩ := dv_first D.hYe D.d0l D.v1p D.v1l hRB D.hQ0
  have HG2 := Lib.hid (fun W => run_quoW R1 v1 q2 W (by have := D.v1p; omega) hRB hg5)
  have HP2 := Lib.hid (fun W => run_mulW q2 v1 p2 W hg6)
  have HR2 := Lib.hid (fun W => run_subW R1 p2 r2 W hg8 hg7)
  obtain ⟨z1, hz1⟩ : ∃ z, u * 4294967296 % B = z := ⟨_, rfl⟩
  obtain ⟨z2, hz2⟩ : ∃ z, (z1 + d1) % B = z := ⟨_, rfl⟩
  obtain ⟨z3, hz3⟩ : ∃ z, Q1 * Y % B = z := ⟨_, rfl⟩
  have hzr := dv_rest D.hQ1 (Nat.le_of_lt D.hYB) hpo hz1 hz2 hz3
  rw [D.hR1] at hzr
  have HZ1 := Lib.hid (fun W => show (binOp .mul 53 (.int .u64 u) (.int .u64 4294967296)).run Tryz.prog W = _ from run_mulW u 4294967296 z1 W hz1)
  have HZ2 := Lib.hid (fun W => run_addW z1 d1 z2 W hz2)
  have HZ3 := Lib.hid (fun W => run_mulW Q1 Y z3 W hz3)
  have HZR := Lib.hid (fun W => run_subW z2 z3 R1 W (by rw [← hz3]; exact Nat.le_of_lt (Nat.mod_lt _ B_pos)) hzr)
  obtain ⟨z4, hz4⟩ : ∃ z, R1 * 4294967296 % B = z := ⟨_, rfl⟩
  obtain ⟨z5, hz5⟩ : ∃ z, (z4 + d0) % B = z := ⟨_, rfl⟩
  obtain ⟨z7, hz7⟩ : ∃ z, Q0 * Y % B = z := ⟨_, rfl⟩
  have hz0 := dv_rest D.hQ0 (Nat.le_of_lt D.hYB) hpo hz4 hz5 hz7
  rw [D.hR0] at hz0
  have HZ4 := Lib.hid (fun W => show (binOp .mul 53 (.int .u64 R1) (.int .u64 4294967296)).run Tryz.prog W = _ from run_mulW R1 4294967296 z4 W hz4)
  have HZ5 := Lib.hid (fun W => run_addW z4 d0 z5 W hz5)
  have HZ7 := Lib.hid (fun W => run_mulW Q0 Y z7 W hz7)
  have HZ0 := Lib.hid (fun W => run_subW z5 z7 R0 W (by rw [← hz7]; exact Nat.le_of_lt (Nat.mod_lt _ B_pos)) hz0)
  obtain ⟨z6, hz6⟩ : ∃ z, Q1 * 4294967296 = z := ⟨_, rfl⟩
  obtain ⟨qq, hqq⟩ : ∃ z, z6 + Q0 = z := ⟨_, rfl⟩
  obtain ⟨rr, hrr⟩ : ∃ z, R0 / 2 ^ s = z := ⟨_, rfl⟩
  have hQ1l := D.Q1l
  have hQ0l := D.Q0l
  have HZ6 := Lib.hid (fun W => show (binOp .mul 53 (.int .u64 Q1) (.int .u64 4294967296)).run Tryz.prog W = _ from run_mulW Q1 4294967296 z6 W (by rw [hz6]; unfold B; omega))
  have HQQ := Lib.hid (fun W => run_addW z6 Q0 qq W (by rw [hqq]; unfold B; omega))
  have HRR := Lib.hid (fun W => run_shrW R0 rr s W (by omega) hrr)
  have hq1 := D.hq
  have hr1 := D.hr
  rw [hz6, hqq] at hq1
  rw [hrr] at hr1
  rw [hq1, hr1]
  have START1 := Lib.hid start1
  have START2 := Lib.hid start2
  have DD := Lib.hid D
  have e0 : ((y : Int) == 0) = false := by simp; omega
  have e0' : decide (y = 0) = false := decide_eq_false (by omega)
  have f1 : decide ((y : Int) ≤ (hi : Int)) = false := decide_eq_false (by omega)
  have f1' : decide (y ≤ hi) = false := decide_eq_false (by omega)
  have f2 : ((hi : Int) == 0) = false := by simp; omega
  have f2' : decide (hi = 0) = false := decide_eq_false (by omega)
  have HN := Lib.hid (show y ≠ 0 ∧ hi ≠ 0 by omega)
  clear hs0 hb1 hb2 D hLZ hYB hpo huB hRB hor hg1 hg2 hg3 hg4 start1 hg5 hg6 hg7 hg8 start2 hz1 hz2 hz3 hzr hz4 hz5 hz7 hz0 hz6 hqq hrr hQ1l hQ0l hq1 hr1 hy hh hlo h0
  go_enter Tryz.func80, Tryz.ntmps80
  go_wp2_with fail
  refine HLZ.out.mono ?_
  rintro e w' ⟨rfl, rfl⟩
  go_wp2_with (first | (refine wpList_dst 39 rfl ?_; refine wpList_run 39 rfl rfl _ (exec_bin .shl 53 _ (.tmp 37) (.tmp 38) rfl _ _ _ rfl rfl rfl (HY.out _)) ?_) | (refine wpList_dst 41 rfl ?_; refine wpList_run 41 rfl rfl _ (exec_bin .shr 53 _ (.tmp 40) (.const (.int .u64 32)) rfl _ _ _ rfl rfl rfl (HV1.out _)) ?_) | (refine wpList_dst 43 rfl ?_; refine wpList_run 43 rfl rfl _ (exec_bin .and 53 _ (.tmp 42) (.const (.int .u64 4294967295)) rfl _ _ _ rfl rfl rfl (HV0.out _)) ?_) | (refine wpList_dst 46 rfl ?_; refine wpList_run 46 rfl rfl _ (exec_bin .shl 53 _ (.tmp 44) (.tmp 45) rfl _ _ _ rfl rfl rfl (HH1.out _)) ?_) | (refine wpList_dst 50 rfl ?_; refine wpList_run 50 rfl rfl _ (exec_bin .shr 53 _ (.tmp 47) (.tmp 49) rfl _ _ _ rfl rfl rfl (HLO.out _)) ?_) | (refine wpList_dst 51 rfl ?_; refine wpList_run 51 rfl rfl _ (exec_bin .or 53 _ (.tmp 46) (.tmp 50) rfl _ _ _ rfl rfl rfl (HOR.out _)) ?_) | (refine wpList_dst 54 rfl ?_; refine wpList_run 54 rfl rfl _ (exec_bin .shl 53 _ (.tmp 52) (.tmp 53) rfl _ _ _ rfl rfl rfl (HL.out _)) ?_) | (refine wpList_dst 56 rfl ?_; refine wpList_run 56 rfl rfl _ (exec_bin .shr 53 _ (.tmp 55) (.const (.int .u64 32)) rfl _ _ _ rfl rfl rfl (HD1.out _)) ?_) | (refine wpList_dst 58 rfl ?_; refine wpList_run 58 rfl rfl _ (exec_bin .and 53 _ (.tmp 57) (.const (.int .u64 4294967295)) rfl _ _ _ rfl rfl rfl (HD0.out _)) ?_) | (refine wpList_dst 61 rfl ?_; refine wpList_run 61 rfl rfl _ (exec_bin .quo 53 _ (.tmp 59) (.tmp 60) rfl _ _ _ rfl rfl rfl (HG.out _)) ?_) | (refine wpList_dst 65 rfl ?_; refine wpList_run 65 rfl rfl _ (exec_bin .mul 53 _ (.tmp 63) (.tmp 64) rfl _ _ _ rfl rfl rfl (HP.out _)) ?_) | (refine wpList_dst 66 rfl ?_; refine wpList_run 66 rfl rfl _ (exec_bin .sub 53 _ (.tmp 62) (.tmp 65) rfl _ _ _ rfl rfl rfl (HR.out _)) ?_))
  go_loop [15, 16] (DvR u v1 Q1) (fun qv _ => (intOf qv).toNat)
  case atStart => exact START1.out
  case round =>
    obtain ⟨q, r, rfl, rfl, hr, hqB, HE, HQ⟩ := hrel
    by_cases hb : 4294967296 ≤ q
    · have e1 : decide ((4294967296 : Int) ≤ (q : Int)) = true := decide_eq_true (by omega)
      have e1' : decide (4294967296 ≤ q) = true := decide_eq_true hb
      obtain ⟨q', hq'⟩ : ∃ q', q = q' + 1 := ⟨q - 1, by omega⟩
      have hst : Q1 ≤ q' := by have := DD.out.Q1l; omega
      obtain ⟨r', hr'⟩ : ∃ r', r + v1 = r' := ⟨_, rfl⟩
      have HS := Lib.hid (fun W => run_subW q 1 q' W (by unfold B; omega) (by unfold B; omega))
      have HA2 := Lib.hid (fun W => run_addW r v1 r' W (by have := DD.out.v1l; unfold B; omega))
      have hE2 : q' * v1 + r' = u := by have h := HE.out; rw [hq', Nat.add_mul, Nat.one_mul] at h; omega
      by_cases hk : 4294967296 ≤ r'
      · have e3 : decide ((4294967296 : Int) ≤ (r' : Int)) = true := decide_eq_true (by omega)
        have e3' : decide (4294967296 ≤ r') = true := decide_eq_true hk
        have hq3 := dv_break (d := d1) DD.out.hYe HPO.out DD.out.v0l DD.out.uY hE2 hk
        rw [DD.out.hQ1] at hq3
        obtain rfl : q' = Q1 := Nat.le_antisymm hq3 hst
        clear hq' hr' hE2 hk hst hq3 HE HQ
        go_wp2_with (first | (refine wpList_dst 80 rfl ?_; refine wpList_run 80 rfl rfl _ (exec_bin .sub 53 _ (.tmp 79) (.const (.int .u64 1)) rfl _ _ _ rfl rfl rfl (HS.out _)) ?_) | (refine wpList_dst 83 rfl ?_; refine wpList_run 83 rfl rfl _ (exec_bin .add 53 _ (.tmp 81) (.tmp 82) rfl _ _ _ rfl rfl rfl (HA2.out _)) ?_) | (refine wpList_dst 87 rfl ?_; refine wpList_run 87 rfl rfl _ (exec_bin .mul 53 _ (.tmp 86) (.const (.int .u64 4294967296)) rfl _ _ _ rfl rfl rfl (HZ1.out _)) ?_) | (refine wpList_dst 89 rfl ?_; refine wpList_run 89 rfl rfl _ (exec_bin .add 53 _ (.tmp 87) (.tmp 88) rfl _ _ _ rfl rfl rfl (HZ2.out _)) ?_) | (refine wpList_dst 92 rfl ?_; refine wpList_run 92 rfl rfl _ (exec_bin .mul 53 _ (.tmp 90) (.tmp 91) rfl _ _ _ rfl rfl rfl (HZ3.out _)) ?_) | (refine wpList_dst 93 rfl ?_; refine wpList_run 93 rfl rfl _ (exec_bin .sub 53 _ (.tmp 89) (.tmp 92) rfl _ _ _ rfl rfl rfl (HZR.out _)) ?_) | (refine wpList_dst 96 rfl ?_; refine wpList_run 96 rfl rfl _ (exec_bin .quo 53 _ (.tmp 94) (.tmp 95) rfl _ _ _ rfl rfl rfl (HG2.out _)) ?_) | (refine wpList_dst 100 rfl ?_; refine wpList_run 100 rfl rfl _ (exec_bin .mul 53 _ (.tmp 98) (.tmp 99) rfl _ _ _ rfl rfl rfl (HP2.out _)) ?_) | (refine wpList_dst 101 rfl ?_; refine wpList_run 101 rfl rfl _ (exec_bin .sub 53 _ (.tmp 97) (.tmp 100) rfl _ _ _ rfl rfl rfl (HR2.out _)) ?_))
        go_loop [18, 16] (DvR R1 v1 Q0) (fun qv _ => (intOf qv).toNat)
        case atStart => exact START2.out
        case round =>
          obtain ⟨q, r, rfl, rfl, hr, hqB, HE, HQ⟩ := hrel
          by_cases hb : 4294967296 ≤ q
          · have e1 : decide ((4294967296 : Int) ≤ (q : Int)) = true := decide_eq_true (by omega)
            have e1' : decide (4294967296 ≤ q) = true := decide_eq_true hb
            obtain ⟨q', hq'⟩ : ∃ q', q = q' + 1 := ⟨q - 1, by omega⟩
            have hst : Q0 ≤ q' := by have := DD.out.Q0l; omega
            obtain ⟨r', hr'⟩ : ∃ r', r + v1 = r' := ⟨_, rfl⟩
            have HS := Lib.hid (fun W => run_subW q 1 q' W (by unfold B; omega) (by unfold B; omega))
            have HA2 := Lib.hid (fun W => run_addW r v1 r' W (by have := DD.out.v1l; unfold B; omega))
            have hE2 : q' * v1 + r' = R1 := by have h := HE.out; rw [hq', Nat.add_mul, Nat.one_mul] at h; omega
            by_cases hk : 4294967296 ≤ r'
            · have e3 : decide ((4294967296 : Int) ≤ (r' : Int)) = true := decide_eq_true (by omega)
              have e3' : decide (4294967296 ≤ r') = true := decide_eq_true hk
              have hq3 := dv_break (d := d0) DD.out.hYe HPO.out DD.out.v0l DD.out.R1Y hE2 hk
              rw [DD.out.hQ0] at hq3
              obtain rfl : q' = Q0 := Nat.le_antisymm hq3 hst
              clear hq' hr' hE2 hk hst hq3 HE HQ
              go_wp2_with (first | (refine wpList_dst 115 rfl ?_; refine wpList_run 115 rfl rfl _ (exec_bin .sub 53 _ (.tmp 114) (.const (.int .u64 1)) rfl _ _ _ rfl rfl rfl (HS.out _)) ?_) | (refine wpList_dst 118 rfl ?_; refine wpList_run 118 rfl rfl _ (exec_bin .add 53 _ (.tmp 116) (.tmp 117) rfl _ _ _ rfl rfl rfl (HA2.out _)) ?_) | (refine wpList_dst 122 rfl ?_; refine wpList_run 122 rfl rfl _ (exec_bin .mul 53 _ (.tmp 121) (.const (.int .u64 4294967296)) rfl _ _ _ rfl rfl rfl (HZ6.out _)) ?_) | (refine wpList_dst 124 rfl ?_; refine wpList_run 124 rfl rfl _ (exec_bin .add 53 _ (.tmp 122) (.tmp 123) rfl _ _ _ rfl rfl rfl (HQQ.out _)) ?_) | (refine wpList_dst 126 rfl ?_; refine wpList_run 126 rfl rfl _ (exec_bin .mul 53 _ (.tmp 125) (.const (.int .u64 4294967296)) rfl _ _ _ rfl rfl rfl (HZ4.out _)) ?_) | (refine wpList_dst 128 rfl ?_; refine wpList_run 128 rfl rfl _ (exec_bin .add 53 _ (.tmp 126) (.tmp 127) rfl _ _ _ rfl rfl rfl (HZ5.out _)) ?_) | (refine wpList_dst 131 rfl ?_; refine wpList_run 131 rfl rfl _ (exec_bin .mul 53 _ (.tmp 129) (.tmp 130) rfl _ _ _ rfl rfl rfl (HZ7.out _)) ?_) | (refine wpList_dst 132 rfl ?_; refine wpList_run 132 rfl rfl _ (exec_bin .sub 53 _ (.tmp 128) (.tmp 131) rfl _ _ _ rfl rfl rfl (HZ0.out _)) ?_) | (refine wpList_dst 134 rfl ?_; refine wpList_run 134 rfl rfl _ (exec_bin .shr 53 _ (.tmp 132) (.tmp 133) rfl _ _ _ rfl rfl rfl (HRR.out _)) ?_))
              go_ret2
              exact ⟨rfl, rfl⟩
            · have e3 : decide ((4294967296 : Int) ≤ (r' : Int)) = false := decide_eq_false (by omega)
              have e3' : decide (4294967296 ≤ r') = false := decide_eq_false hk
              have HE2 := Lib.hid hE2
              have HST := Lib.hid hst
              have HRB := Lib.hid (show r' < 4294967296 by omega)
              have HQ2 := Lib.hid hq'
              clear hq' hr' hE2 hst hk HE HQ
              go_wp2_with (first | (refine wpList_dst 115 rfl ?_; refine wpList_run 115 rfl rfl _ (exec_bin .sub 53 _ (.tmp 114) (.const (.int .u64 1)) rfl _ _ _ rfl rfl rfl (HS.out _)) ?_) | (refine wpList_dst 118 rfl ?_; refine wpList_run 118 rfl rfl _ (exec_bin .add 53 _ (.tmp 116) (.tmp 117) rfl _ _ _ rfl rfl rfl (HA2.out _)) ?_))
              go_round
              case rel => exact ⟨q', r', rfl, rfl, HRB.out, by have := HQ2.out; omega, HE2, HST⟩
              case measure => have := HQ2.out; simp [intOf]; omega
          · have e1 : decide ((4294967296 : Int) ≤ (q : Int)) = false := decide_eq_false (by omega)
            have e1' : decide (4294967296 ≤ q) = false := decide_eq_false hb
            obtain ⟨z, hz⟩ : ∃ z, q * v0 = z := ⟨_, rfl⟩
            obtain ⟨g0, hg0⟩ : ∃ g0, 4294967296 * r = g0 := ⟨_, rfl⟩
            obtain ⟨g, hg⟩ : ∃ g, g0 + d0 = g := ⟨_, rfl⟩
            have hzB : z < 18446744073709551616 := by rw [← hz]; exact small_mul (by omega) DD.out.v0l
            have hgB : g < 18446744073709551616 := by have := DD.out.d0l; omega
            have HM := Lib.hid (fun W => run_mulW q v0 z W (by rw [hz]; exact Nat.mod_eq_of_lt hzB))
            have HM2 := Lib.hid (fun W => show (binOp .mul 53 (.int .u64 4294967296) (.int .u64 r)).run Tryz.prog W = _ from run_mulW 4294967296 r g0 W (by rw [hg0]; unfold B; omega))
            have HA := Lib.hid (fun W => run_addW g0 d0 g W (by rw [hg]; exact Nat.mod_eq_of_lt hgB))
            by_cases hc : g < z
            · have e2 : decide ((g : Int) < (z : Int)) = true := decide_eq_true (by omega)
              have e2' : decide (g < z) = true := decide_eq_true hc
              have hst0 := dv_step (d := d0) DD.out.hYe HE.out (by omega)
              rw [DD.out.hQ0] at hst0
              obtain ⟨q', hq'⟩ : ∃ q', q = q' + 1 := ⟨q - 1, by omega⟩
              have hst : Q0 ≤ q' := by omega
              clear hst0 hz hg0 hg hzB hgB
              obtain ⟨r', hr'⟩ : ∃ r', r + v1 = r' := ⟨_, rfl⟩
              have HS := Lib.hid (fun W => run_subW q 1 q' W (by unfold B; omega) (by unfold B; omega))
              have HA2 := Lib.hid (fun W => run_addW r v1 r' W (by have := DD.out.v1l; unfold B; omega))
              have hE2 : q' * v1 + r' = R1 := by have h := HE.out; rw [hq', Nat.add_mul, Nat.one_mul] at h; omega
              by_cases hk : 4294967296 ≤ r'
              · have e3 : decide ((4294967296 : Int) ≤ (r' : Int)) = true := decide_eq_true (by omega)
                have e3' : decide (4294967296 ≤ r') = true := decide_eq_true hk
                have hq3 := dv_break (d := d0) DD.out.hYe HPO.out DD.out.v0l DD.out.R1Y hE2 hk
                rw [DD.out.hQ0] at hq3
                obtain rfl : q' = Q0 := Nat.le_antisymm hq3 hst
                clear hq' hr' hE2 hk hst hq3 HE HQ hc
                go_wp2_with (first | (refine wpList_dst 107 rfl ?_; refine wpList_runG 107 rfl rfl _ (exec_bin .mul 53 _ (.tmp 105) (.tmp 106) rfl _ _ _ rfl rfl rfl (HM.out _)) ?_) | (refine wpList_dst 109 rfl ?_; refine wpList_runG 109 rfl rfl _ (exec_bin .mul 53 _ (.const (.int .u64 4294967296)) (.tmp 108) rfl _ _ _ rfl rfl rfl (HM2.out _)) ?_) | (refine wpList_dst 111 rfl ?_; refine wpList_runG 111 rfl rfl _ (exec_bin .add 53 _ (.tmp 109) (.tmp 110) rfl _ _ _ rfl rfl rfl (HA.out _)) ?_) | (refine wpList_dst 115 rfl ?_; refine wpList_run 115 rfl rfl _ (exec_bin .sub 53 _ (.tmp 114) (.const (.int .u64 1)) rfl _ _ _ rfl rfl rfl (HS.out _)) ?_) | (refine wpList_dst 118 rfl ?_; refine wpList_run 118 rfl rfl _ (exec_bin .add 53 _ (.tmp 116) (.tmp 117) rfl _ _ _ rfl rfl rfl (HA2.out _)) ?_) | (refine wpList_dst 122 rfl ?_; refine wpList_run 122 rfl rfl _ (exec_bin .mul 53 _ (.tmp 121) (.const (.int .u64 4294967296)) rfl _ _ _ rfl rfl rfl (HZ6.out _)) ?_) | (refine wpList_dst 124 rfl ?_; refine wpList_run 124 rfl rfl _ (exec_bin .add 53 _ (.tmp 122) (.tmp 123) rfl _ _ _ rfl rfl rfl (HQQ.out _)) ?_) | (refine wpList_dst 126 rfl ?_; refine wpList_run 126 rfl rfl _ (exec_bin .mul 53 _ (.tmp 125) (.const (.int .u64 4294967296)) rfl _ _ _ rfl rfl rfl (HZ4.out _)) ?_) | (refine wpList_dst 128 rfl ?_; refine wpList_run 128 rfl rfl _ (exec_bin .add 53 _ (.tmp 126) (.tmp 127) rfl _ _ _ rfl rfl rfl (HZ5.out _)) ?_) | (refine wpList_dst 131 rfl ?_; refine wpList_run 131 rfl rfl _ (exec_bin .mul 53 _ (.tmp 129) (.tmp 130) rfl _ _ _ rfl rfl rfl (HZ7.out _)) ?_) | (refine wpList_dst 132 rfl ?_; refine wpList_run 132 rfl rfl _ (exec_bin .sub 53 _ (.tmp 128) (.tmp 131) rfl _ _ _ rfl rfl rfl (HZ0.out _)) ?_) | (refine wpList_dst 134 rfl ?_; refine wpList_run 134 rfl rfl _ (exec_bin .shr 53 _ (.tmp 132) (.tmp 133) rfl _ _ _ rfl rfl rfl (HRR.out _)) ?_))
                go_ret2
                exact ⟨rfl, rfl⟩
              · have e3 : decide ((4294967296 : Int) ≤ (r' : Int)) = false := decide_eq_false (by omega)
                have e3' : decide (4294967296 ≤ r') = false := decide_eq_false hk
                have HE2 := Lib.hid hE2
                have HST := Lib.hid hst
                have HRB := Lib.hid (show r' < 4294967296 by omega)
                have HQ2 := Lib.hid hq'
                clear hq' hr' hE2 hst hk HE HQ hc
                go_wp2_with (first | (refine wpList_dst 107 rfl ?_; refine wpList_runG 107 rfl rfl _ (exec_bin .mul 53 _ (.tmp 105) (.tmp 106) rfl _ _ _ rfl rfl rfl (HM.out _)) ?_) | (refine wpList_dst 109 rfl ?_; refine wpList_runG 109 rfl rfl _ (exec_bin .mul 53 _ (.const (.int .u64 4294967296)) (.tmp 108) rfl _ _ _ rfl rfl rfl (HM2.out _)) ?_) | (refine wpList_dst 111 rfl ?_; refine wpList_runG 111 rfl rfl _ (exec_bin .add 53 _ (.tmp 109) (.tmp 110) rfl _ _ _ rfl rfl rfl (HA.out _)) ?_) | (refine wpList_dst 115 rfl ?_; refine wpList_run 115 rfl rfl _ (exec_bin .sub 53 _ (.tmp 114) (.const (.int .u64 1)) rfl _ _ _ rfl rfl rfl (HS.out _)) ?_) | (refine wpList_dst 118 rfl ?_; refine wpList_run 118 rfl rfl _ (exec_bin .add 53 _ (.tmp 116) (.tmp 117) rfl _ _ _ rfl rfl rfl (HA2.out _)) ?_))
                go_round
                case rel => exact ⟨q', r', rfl, rfl, HRB.out, by have := HQ2.out; omega, HE2, HST⟩
                case measure => have := HQ2.out; simp [intOf]; omega
            · have e2 : decide ((g : Int) < (z : Int)) = false := decide_eq_false (by omega)
              have e2' : decide (g < z) = false := decide_eq_false hc
              have hq3 := dv_stop (d := d0) DD.out.hYe HPO.out HE.out (by omega)
              rw [DD.out.hQ0] at hq3
              obtain rfl : q = Q0 := Nat.le_antisymm hq3 HQ.out
              clear hz hg0 hg hzB hgB hc hq3 HE HQ
              go_wp2_with (first | (refine wpList_dst 107 rfl ?_; refine wpList_runG 107 rfl rfl _ (exec_bin .mul 53 _ (.tmp 105) (.tmp 106) rfl _ _ _ rfl rfl rfl (HM.out _)) ?_) | (refine wpList_dst 109 rfl ?_; refine wpList_runG 109 rfl rfl _ (exec_bin .mul 53 _ (.const (.int .u64 4294967296)) (.tmp 108) rfl _ _ _ rfl rfl rfl (HM2.out _)) ?_) | (refine wpList_dst 111 rfl ?_; refine wpList_runG 111 rfl rfl _ (exec_bin .add 53 _ (.tmp 109) (.tmp 110) rfl _ _ _ rfl rfl rfl (HA.out _)) ?_) | (refine wpList_dst 122 rfl ?_; refine wpList_run 122 rfl rfl _ (exec_bin .mul 53 _ (.tmp 121) (.const (.int .u64 4294967296)) rfl _ _ _ rfl rfl rfl (HZ6.out _)) ?_) | (refine wpList_dst 124 rfl ?_; refine wpList_run 124 rfl rfl _ (exec_bin .add 53 _ (.tmp 122) (.tmp 123) rfl _ _ _ rfl rfl rfl (HQQ.out _)) ?_) | (refine wpList_dst 126 rfl ?_; refine wpList_run 126 rfl rfl _ (exec_bin .mul 53 _ (.tmp 125) (.const (.int .u64 4294967296)) rfl _ _ _ rfl rfl rfl (HZ4.out _)) ?_) | (refine wpList_dst 128 rfl ?_; refine wpList_run 128 rfl rfl _ (exec_bin .add 53 _ (.tmp 126) (.tmp 127) rfl _ _ _ rfl rfl rfl (HZ5.out _)) ?_) | (refine wpList_dst 131 rfl ?_; refine wpList_run 131 rfl rfl _ (exec_bin .mul 53 _ (.tmp 129) (.tmp 130) rfl _ _ _ rfl rfl rfl (HZ7.out _)) ?_) | (refine wpList_dst 132 rfl ?_; refine wpList_run 132 rfl rfl _ (exec_bin .sub 53 _ (.tmp 128) (.tmp 131) rfl _ _ _ rfl rfl rfl (HZ0.out _)) ?_) | (refine wpList_dst 134 rfl ?_; refine wpList_run 134 rfl rfl _ (exec_bin .shr 53 _ (.tmp 132) (.tmp 133) rfl _ _ _ rfl rfl rfl (HRR.out _)) ?_))
              go_ret2
              exact ⟨rfl, rfl⟩
      · have e3 : decide ((4294967296 : Int) ≤ (r' : Int)) = false := decide_eq_false (by omega)
        have e3' : decide (4294967296 ≤ r') = false := decide_eq_false hk
        have HE2 := Lib.hid hE2
        have HST := Lib.hid hst
        have HRB := Lib.hid (show r' < 4294967296 by omega)
        have HQ2 := Lib.hid hq'
        clear hq' hr' hE2 hst hk HE HQ
        go_wp2_with (first | (refine wpList_dst 80 rfl ?_; refine wpList_run 80 rfl rfl _ (exec_bin .sub 53 _ (.tmp 79) (.const (.int .u64 1)) rfl _ _ _ rfl rfl rfl (HS.out _)) ?_) | (refine wpList_dst 83 rfl ?_; refine wpList_run 83 rfl rfl _ (exec_bin .add 53 _ (.tmp 81) (.tmp 82) rfl _ _ _ rfl rfl rfl (HA2.out _)) ?_))
        go_round
        case rel => exact ⟨q', r', rfl, rfl, HRB.out, by have := HQ2.out; omega, HE2, HST⟩
        case measure => have := HQ2.out; simp [intOf]; omega
    · have e1 : decide ((4294967296 : Int) ≤ (q : Int)) = false := decide_eq_false (by omega)
      have e1' : decide (4294967296 ≤ q) = false := decide_eq_false hb
      obtain ⟨z, hz⟩ : ∃ z, q * v0 = z := ⟨_, rfl⟩
      obtain ⟨g0, hg0⟩ : ∃ g0, 4294967296 * r = g0 := ⟨_, rfl⟩
      obtain ⟨g, hg⟩ : ∃ g, g0 + d1 = g := ⟨_, rfl⟩
      have hzB : z < 18446744073709551616 := by rw [← hz]; exact small_mul (by omega) DD.out.v0l
      have hgB : g < 18446744073709551616 := by have := DD.out.d1l; omega
      have HM := Lib.hid (fun W => run_mulW q v0 z W (by rw [hz]; exact Nat.mod_eq_of_lt hzB))
      have HM2 := Lib.hid (fun W => show (binOp .mul 53 (.int .u64 4294967296) (.int .u64 r)).run Tryz.prog W = _ from run_mulW 4294967296 r g0 W (by rw [hg0]; unfold B; omega))
      have HA := Lib.hid (fun W => run_addW g0 d1 g W (by rw [hg]; exact Nat.mod_eq_of_lt hgB))
      by_cases hc : g < z
      · have e2 : decide ((g : Int) < (z : Int)) = true := decide_eq_true (by omega)
        have e2' : decide (g < z) = true := decide_eq_true hc
        have hst0 := dv_step (d := d1) DD.out.hYe HE.out (by omega)
        rw [DD.out.hQ1] at hst0
        obtain ⟨q', hq'⟩ : ∃ q', q = q' + 1 := ⟨q - 1, by omega⟩
        have hst : Q1 ≤ q' := by omega
        clear hst0 hz hg0 hg hzB hgB
        obtain ⟨r', hr'⟩ : ∃ r', r + v1 = r' := ⟨_, rfl⟩
        have HS := Lib.hid (fun W => run_subW q 1 q' W (by unfold B; omega) (by unfold B; omega))
        have HA2 := Lib.hid (fun W => run_addW r v1 r' W (by have := DD.out.v1l; unfold B; omega))
        have hE2 : q' * v1 + r' = u := by have h := HE.out; rw [hq', Nat.add_mul, Nat.one_mul] at h; omega
        by_cases hk : 4294967296 ≤ r'
        · have e3 : decide ((4294967296 : Int) ≤ (r' : Int)) = true := decide_eq_true (by omega)
          have e3' : decide (4294967296 ≤ r') = true := decide_eq_true hk
          have hq3 := dv_break (d := d1) DD.out.hYe HPO.out DD.out.v0l DD.out.uY hE2 hk
          rw [DD.out.hQ1] at hq3
          obtain rfl : q' = Q1 := Nat.le_antisymm hq3 hst
          clear hq' hr' hE2 hk hst hq3 HE HQ hc
          go_wp2_with (first | (refine wpList_dst 72 rfl ?_; refine wpList_runG 72 rfl rfl _ (exec_bin .mul 53 _ (.tmp 70) (.tmp 71) rfl _ _ _ rfl rfl rfl (HM.out _)) ?_) | (refine wpList_dst 74 rfl ?_; refine wpList_runG 74 rfl rfl _ (exec_bin .mul 53 _ (.const (.int .u64 4294967296)) (.tmp 73) rfl _ _ _ rfl rfl rfl (HM2.out _)) ?_) | (refine wpList_dst 76 rfl ?_; refine wpList_runG 76 rfl rfl _ (exec_bin .add 53 _ (.tmp 74) (.tmp 75) rfl _ _ _ rfl rfl rfl (HA.out _)) ?_) | (refine wpList_dst 80 rfl ?_; refine wpList_run 80 rfl rfl _ (exec_bin .sub 53 _ (.tmp 79) (.const (.int .u64 1)) rfl _ _ _ rfl rfl rfl (HS.out _)) ?_) | (refine wpList_dst 83 rfl ?_; refine wpList_run 83 rfl rfl _ (exec_bin .add 53 _ (.tmp 81) (.tmp 82) rfl _ _ _ rfl rfl rfl (HA2.out _)) ?_) | (refine wpList_dst 87 rfl ?_; refine wpList_run 87 rfl rfl _ (exec_bin .mul 53 _ (.tmp 86) (.const (.int .u64 4294967296)) rfl _ _ _ rfl rfl rfl (HZ1.out _)) ?_) | (refine wpList_dst 89 rfl ?_; refine wpList_run 89 rfl rfl _ (exec_bin .add 53 _ (.tmp 87) (.tmp 88) rfl _ _ _ rfl rfl rfl (HZ2.out _)) ?_) | (refine wpList_dst 92 rfl ?_; refine wpList_run 92 rfl rfl _ (exec_bin .mul 53 _ (.tmp 90) (.tmp 91) rfl _ _ _ rfl rfl rfl (HZ3.out _)) ?_) | (refine wpList_dst 93 rfl ?_; refine wpList_run 93 rfl rfl _ (exec_bin .sub 53 _ (.tmp 89) (.tmp 92) rfl _ _ _ rfl rfl rfl (HZR.out _)) ?_) | (refine wpList_dst 96 rfl ?_; refine wpList_run 96 rfl rfl _ (exec_bin .quo 53 _ (.tmp 94) (.tmp 95) rfl _ _ _ rfl rfl rfl (HG2.out _)) ?_) | (refine wpList_dst 100 rfl ?_; refine wpList_run 100 rfl rfl _ (exec_bin .mul 53 _ (.tmp 98) (.tmp 99) rfl _ _ _ rfl rfl rfl (HP2.out _)) ?_) | (refine wpList_dst 101 rfl ?_; refine wpList_run 101 rfl rfl _ (exec_bin .sub 53 _ (.tmp 97) (.tmp 100) rfl _ _ _ rfl rfl rfl (HR2.out _)) ?_))
          go_loop [18, 16] (DvR R1 v1 Q0) (fun qv _ => (intOf qv).toNat)
          case atStart => exact START2.out
          case round =>
            obtain ⟨q, r, rfl, rfl, hr, hqB, HE, HQ⟩ := hrel
            by_cases hb : 4294967296 ≤ q
            · have e1 : decide ((4294967296 : Int) ≤ (q : Int)) = true := decide_eq_true (by omega)
              have e1' : decide (4294967296 ≤ q) = true := decide_eq_true hb
              obtain ⟨q', hq'⟩ : ∃ q', q = q' + 1 := ⟨q - 1, by omega⟩
              have hst : Q0 ≤ q' := by have := DD.out.Q0l; omega
              obtain ⟨r', hr'⟩ : ∃ r', r + v1 = r' := ⟨_, rfl⟩
              have HS := Lib.hid (fun W => run_subW q 1 q' W (by unfold B; omega) (by unfold B; omega))
              have HA2 := Lib.hid (fun W => run_addW r v1 r' W (by have := DD.out.v1l; unfold B; omega))
              have hE2 : q' * v1 + r' = R1 := by have h := HE.out; rw [hq', Nat.add_mul, Nat.one_mul] at h; omega
              by_cases hk : 4294967296 ≤ r'
              · have e3 : decide ((4294967296 : Int) ≤ (r' : Int)) = true := decide_eq_true (by omega)
                have e3' : decide (4294967296 ≤ r') = true := decide_eq_true hk
                have hq3 := dv_break (d := d0) DD.out.hYe HPO.out DD.out.v0l DD.out.R1Y hE2 hk
                rw [DD.out.hQ0] at hq3
                obtain rfl : q' = Q0 := Nat.le_antisymm hq3 hst
                clear hq' hr' hE2 hk hst hq3 HE HQ
                go_wp2_with (first | (refine wpList_dst 115 rfl ?_; refine wpList_run 115 rfl rfl _ (exec_bin .sub 53 _ (.tmp 114) (.const (.int .u64 1)) rfl _ _ _ rfl rfl rfl (HS.out _)) ?_) | (refine wpList_dst 118 rfl ?_; refine wpList_run 118 rfl rfl _ (exec_bin .add 53 _ (.tmp 116) (.tmp 117) rfl _ _ _ rfl rfl rfl (HA2.out _)) ?_) | (refine wpList_dst 122 rfl ?_; refine wpList_run 122 rfl rfl _ (exec_bin .mul 53 _ (.tmp 121) (.const (.int .u64 4294967296)) rfl _ _ _ rfl rfl rfl (HZ6.out _)) ?_) | (refine wpList_dst 124 rfl ?_; refine wpList_run 124 rfl rfl _ (exec_bin .add 53 _ (.tmp 122) (.tmp 123) rfl _ _ _ rfl rfl rfl (HQQ.out _)) ?_) | (refine wpList_dst 126 rfl ?_; refine wpList_run 126 rfl rfl _ (exec_bin .mul 53 _ (.tmp 125) (.const (.int .u64 4294967296)) rfl _ _ _ rfl rfl rfl (HZ4.out _)) ?_) | (refine wpList_dst 128 rfl ?_; refine wpList_run 128 rfl rfl _ (exec_bin .add 53 _ (.tmp 126) (.tmp 127) rfl _ _ _ rfl rfl rfl (HZ5.out _)) ?_) | (refine wpList_dst 131 rfl ?_; refine wpList_run 131 rfl rfl _ (exec_bin .mul 53 _ (.tmp 129) (.tmp 130) rfl _ _ _ rfl rfl rfl (HZ7.out _)) ?_) | (refine wpList_dst 132 rfl ?_; refine wpList_run 132 rfl rfl _ (exec_bin .sub 53 _ (.tmp 128) (.tmp 131) rfl _ _ _ rfl rfl rfl (HZ0.out _)) ?_) | (refine wpList_dst 134 rfl ?_; refine wpList_run 134 rfl rfl _ (exec_bin .shr 53 _ (.tmp 132) (.tmp 133) rfl _ _ _ rfl rfl rfl (HRR.out _)) ?_))
                go_ret2
                exact ⟨rfl, rfl⟩
              · have e3 : decide ((4294967296 : Int) ≤ (r' : Int)) = false := decide_eq_false (by omega)
                have e3' : decide (4294967296 ≤ r') = false := decide_eq_false hk
                have HE2 := Lib.hid hE2
                have HST := Lib.hid hst
                have HRB := Lib.hid (show r' < 4294967296 by omega)
                have HQ2 := Lib.hid hq'
                clear hq' hr' hE2 hst hk HE HQ
                go_wp2_with (first | (refine wpList_dst 115 rfl ?_; refine wpList_run 115 rfl rfl _ (exec_bin .sub 53 _ (.tmp 114) (.const (.int .u64 1)) rfl _ _ _ rfl rfl rfl (HS.out _)) ?_) | (refine wpList_dst 118 rfl ?_; refine wpList_run 118 rfl rfl _ (exec_bin .add 53 _ (.tmp 116) (.tmp 117) rfl _ _ _ rfl rfl rfl (HA2.out _)) ?_))
                go_round
                case rel => exact ⟨q', r', rfl, rfl, HRB.out, by have := HQ2.out; omega, HE2, HST⟩
                case measure => have := HQ2.out; simp [intOf]; omega
            · have e1 : decide ((4294967296 : Int) ≤ (q : Int)) = false := decide_eq_false (by omega)
              have e1' : decide (4294967296 ≤ q) = false := decide_eq_false hb
              obtain ⟨z, hz⟩ : ∃ z, q * v0 = z := ⟨_, rfl⟩
              obtain ⟨g0, hg0⟩ : ∃ g0, 4294967296 * r = g0 := ⟨_, rfl⟩
              obtain ⟨g, hg⟩ : ∃ g, g0 + d0 = g := ⟨_, rfl⟩
              have hzB : z < 18446744073709551616 := by rw [← hz]; exact small_mul (by omega) DD.out.v0l
              have hgB : g < 18446744073709551616 := by have := DD.out.d0l; omega
              have HM := Lib.hid (fun W => run_mulW q v0 z W (by rw [hz]; exact Nat.mod_eq_of_lt hzB))
              have HM2 := Lib.hid (fun W => show (binOp .mul 53 (.int .u64 4294967296) (.int .u64 r)).run Tryz.prog W = _ from run_mulW 4294967296 r g0 W (by rw [hg0]; unfold B; omega))
              have HA := Lib.hid (fun W => run_addW g0 d0 g W (by rw [hg]; exact Nat.mod_eq_of_lt hgB))
              by_cases hc : g < z
              · have e2 : decide ((g : Int) < (z : Int)) = true := decide_eq_true (by omega)
                have e2' : decide (g < z) = true := decide_eq_true hc
                have hst0 := dv_step (d := d0) DD.out.hYe HE.out (by omega)
                rw [DD.out.hQ0] at hst0
                obtain ⟨q', hq'⟩ : ∃ q', q = q' + 1 := ⟨q - 1, by omega⟩
                have hst : Q0 ≤ q' := by omega
                clear hst0 hz hg0 hg hzB hgB
                obtain ⟨r', hr'⟩ : ∃ r', r + v1 = r' := ⟨_, rfl⟩
                have HS := Lib.hid (fun W => run_subW q 1 q' W (by unfold B; omega) (by unfold B; omega))
                have HA2 := Lib.hid (fun W => run_addW r v1 r' W (by have := DD.out.v1l; unfold B; omega))
                have hE2 : q' * v1 + r' = R1 := by have h := HE.out; rw [hq', Nat.add_mul, Nat.one_mul] at h; omega
                by_cases hk : 4294967296 ≤ r'
                · have e3 : decide ((4294967296 : Int) ≤ (r' : Int)) = true := decide_eq_true (by omega)
                  have e3' : decide (4294967296 ≤ r') = true := decide_eq_true hk
                  have hq3 := dv_break (d := d0) DD.out.hYe HPO.out DD.out.v0l DD.out.R1Y hE2 hk
                  rw [DD.out.hQ0] at hq3
                  obtain rfl : q' = Q0 := Nat.le_antisymm hq3 hst
                  clear hq' hr' hE2 hk hst hq3 HE HQ hc
                  go_wp2_with (first | (refine wpList_dst 107 rfl ?_; refine wpList_runG 107 rfl rfl _ (exec_bin .mul 53 _ (.tmp 105) (.tmp 106) rfl _ _ _ rfl rfl rfl (HM.out _)) ?_) | (refine wpList_dst 109 rfl ?_; refine wpList_runG 109 rfl rfl _ (exec_bin .mul 53 _ (.const (.int .u64 4294967296)) (.tmp 108) rfl _ _ _ rfl rfl rfl (HM2.out _)) ?_) | (refine wpList_dst 111 rfl ?_; refine wpList_runG 111 rfl rfl _ (exec_bin .add 53 _ (.tmp 109) (.tmp 110) rfl _ _ _ rfl rfl rfl (HA.out _)) ?_) | (refine wpList_dst 115 rfl ?_; refine wpList_run 115 rfl rfl _ (exec_bin .sub 53 _ (.tmp 114) (.const (.int .u64 1)) rfl _ _ _ rfl rfl rfl (HS.out _)) ?_) | (refine wpList_dst 118 rfl ?_; refine wpList_run 118 rfl rfl _ (exec_bin .add 53 _ (.tmp 116) (.tmp 117) rfl _ _ _ rfl rfl rfl (HA2.out _)) ?_) | (refine wpList_dst 122 rfl ?_; refine wpList_run 122 rfl rfl _ (exec_bin .mul 53 _ (.tmp 121) (.const (.int .u64 4294967296)) rfl _ _ _ rfl rfl rfl (HZ6.out _)) ?_) | (refine wpList_dst 124 rfl ?_; refine wpList_run 124 rfl rfl _ (exec_bin .add 53 _ (.tmp 122) (.tmp 123) rfl _ _ _ rfl rfl rfl (HQQ.out _)) ?_) | (refine wpList_dst 126 rfl ?_; refine wpList_run 126 rfl rfl _ (exec_bin .mul 53 _ (.tmp 125) (.const (.int .u64 4294967296)) rfl _ _ _ rfl rfl rfl (HZ4.out _)) ?_) | (refine wpList_dst 128 rfl ?_; refine wpList_run 128 rfl rfl _ (exec_bin .add 53 _ (.tmp 126) (.tmp 127) rfl _ _ _ rfl rfl rfl (HZ5.out _)) ?_) | (refine wpList_dst 131 rfl ?_; refine wpList_run 131 rfl rfl _ (exec_bin .mul 53 _ (.tmp 129) (.tmp 130) rfl _ _ _ rfl rfl rfl (HZ7.out _)) ?_) | (refine wpList_dst 132 rfl ?_; refine wpList_run 132 rfl rfl _ (exec_bin .sub 53 _ (.tmp 128) (.tmp 131) rfl _ _ _ rfl rfl rfl (HZ0.out _)) ?_) | (refine wpList_dst 134 rfl ?_; refine wpList_run 134 rfl rfl _ (exec_bin .shr 53 _ (.tmp 132) (.tmp 133) rfl _ _ _ rfl rfl rfl (HRR.out _)) ?_))
                  go_ret2
                  exact ⟨rfl, rfl⟩
                · have e3 : decide ((4294967296 : Int) ≤ (r' : Int)) = false := decide_eq_false (by omega)
                  have e3' : decide (4294967296 ≤ r') = false := decide_eq_false hk
                  have HE2 := Lib.hid hE2
                  have HST := Lib.hid hst
                  have HRB := Lib.hid (show r' < 4294967296 by omega)
                  have HQ2 := Lib.hid hq'
                  clear hq' hr' hE2 hst hk HE HQ hc
                  go_wp2_with (first | (refine wpList_dst 107 rfl ?_; refine wpList_runG 107 rfl rfl _ (exec_bin .mul 53 _ (.tmp 105) (.tmp 106) rfl _ _ _ rfl rfl rfl (HM.out _)) ?_) | (refine wpList_dst 109 rfl ?_; refine wpList_runG 109 rfl rfl _ (exec_bin .mul 53 _ (.const (.int .u64 4294967296)) (.tmp 108) rfl _ _ _ rfl rfl rfl (HM2.out _)) ?_) | (refine wpList_dst 111 rfl ?_; refine wpList_runG 111 rfl rfl _ (exec_bin .add 53 _ (.tmp 109) (.tmp 110) rfl _ _ _ rfl rfl rfl (HA.out _)) ?_) | (refine wpList_dst 115 rfl ?_; refine wpList_run 115 rfl rfl _ (exec_bin .sub 53 _ (.tmp 114) (.const (.int .u64 1)) rfl _ _ _ rfl rfl rfl (HS.out _)) ?_) | (refine wpList_dst 118 rfl ?_; refine wpList_run 118 rfl rfl _ (exec_bin .add 53 _ (.tmp 116) (.tmp 117) rfl _ _ _ rfl rfl rfl (HA2.out _)) ?_))
                  go_round
                  case rel => exact ⟨q', r', rfl, rfl, HRB.out, by have := HQ2.out; omega, HE2, HST⟩
                  case measure => have := HQ2.out; simp [intOf]; omega
              · have e2 : decide ((g : Int) < (z : Int)) = false := decide_eq_false (by omega)
                have e2' : decide (g < z) = false := decide_eq_false hc
                have hq3 := dv_stop (d := d0) DD.out.hYe HPO.out HE.out (by omega)
                rw [DD.out.hQ0] at hq3
                obtain rfl : q = Q0 := Nat.le_antisymm hq3 HQ.out
                clear hz hg0 hg hzB hgB hc hq3 HE HQ
                go_wp2_with (first | (refine wpList_dst 107 rfl ?_; refine wpList_runG 107 rfl rfl _ (exec_bin .mul 53 _ (.tmp 105) (.tmp 106) rfl _ _ _ rfl rfl rfl (HM.out _)) ?_) | (refine wpList_dst 109 rfl ?_; refine wpList_runG 109 rfl rfl _ (exec_bin .mul 53 _ (.const (.int .u64 4294967296)) (.tmp 108) rfl _ _ _ rfl rfl rfl (HM2.out _)) ?_) | (refine wpList_dst 111 rfl ?_; refine wpList_runG 111 rfl rfl _ (exec_bin .add 53 _ (.tmp 109) (.tmp 110) rfl _ _ _ rfl rfl rfl (HA.out _)) ?_) | (refine wpList_dst 122 rfl ?_; refine wpList_run 122 rfl rfl _ (exec_bin .mul 53 _ (.tmp 121) (.const (.int .u64 4294967296)) rfl _ _ _ rfl rfl rfl (HZ6.out _)) ?_) | (refine wpList_dst 124 rfl ?_; refine wpList_run 124 rfl rfl _ (exec_bin .add 53 _ (.tmp 122) (.tmp 123) rfl _ _ _ rfl rfl rfl (HQQ.out _)) ?_) | (refine wpList_dst 126 rfl ?_; refine wpList_run 126 rfl rfl _ (exec_bin .mul 53 _ (.tmp 125) (.const (.int .u64 4294967296)) rfl _ _ _ rfl rfl rfl (HZ4.out _)) ?_) | (refine wpList_dst 128 rfl ?_; refine wpList_run 128 rfl rfl _ (exec_bin .add 53 _ (.tmp 126) (.tmp 127) rfl _ _ _ rfl rfl rfl (HZ5.out _)) ?_) | (refine wpList_dst 131 rfl ?_; refine wpList_run 131 rfl rfl _ (exec_bin .mul 53 _ (.tmp 129) (.tmp 130) rfl _ _ _ rfl rfl rfl (HZ7.out _)) ?_) | (refine wpList_dst 132 rfl ?_; refine wpList_run 132 rfl rfl _ (exec_bin .sub 53 _ (.tmp 128) (.tmp 131) rfl _ _ _ rfl rfl rfl (HZ0.out _)) ?_) | (refine wpList_dst 134 rfl ?_; refine wpList_run 134 rfl rfl _ (exec_bin .shr 53 _ (.tmp 132) (.tmp 133) rfl _ _ _ rfl rfl rfl (HRR.out _)) ?_))
                go_ret2
                exact ⟨rfl, rfl⟩
        · have e3 : decide ((4294967296 : Int) ≤ (r' : Int)) = false := decide_eq_false (by omega)
          have e3' : decide (4294967296 ≤ r') = false := decide_eq_false hk
          have HE2 := Lib.hid hE2
          have HST := Lib.hid hst
          have HRB := Lib.hid (show r' < 4294967296 by omega)
          have HQ2 := Lib.hid hq'
          clear hq' hr' hE2 hst hk HE HQ hc
          go_wp2_with (first | (refine wpList_dst 72 rfl ?_; refine wpList_runG 72 rfl rfl _ (exec_bin .mul 53 _ (.tmp 70) (.tmp 71) rfl _ _ _ rfl rfl rfl (HM.out _)) ?_) | (refine wpList_dst 74 rfl ?_; refine wpList_runG 74 rfl rfl _ (exec_bin .mul 53 _ (.const (.int .u64 4294967296)) (.tmp 73) rfl _ _ _ rfl rfl rfl (HM2.out _)) ?_) | (refine wpList_dst 76 rfl ?_; refine wpList_runG 76 rfl rfl _ (exec_bin .add 53 _ (.tmp 74) (.tmp 75) rfl _ _ _ rfl rfl rfl (HA.out _)) ?_) | (refine wpList_dst 80 rfl ?_; refine wpList_run 80 rfl rfl _ (exec_bin .sub 53 _ (.tmp 79) (.const (.int .u64 1)) rfl _ _ _ rfl rfl rfl (HS.out _)) ?_) | (refine wpList_dst 83 rfl ?_; refine wpList_run 83 rfl rfl _ (exec_bin .add 53 _ (.tmp 81) (.tmp 82) rfl _ _ _ rfl rfl rfl (HA2.out _)) ?_))
          go_round
          case rel => exact ⟨q', r', rfl, rfl, HRB.out, by have := HQ2.out; omega, HE2, HST⟩
          case measure => have := HQ2.out; simp [intOf]; omega
      · have e2 : decide ((g : Int) < (z : Int)) = false := decide_eq_false (by omega)
        have e2' : decide (g < z) = false := decide_eq_false hc
        have hq3 := dv_stop (d := d1) DD.out.hYe HPO.out HE.out (by omega)
        rw [DD.out.hQ1] at hq3
        obtain rfl : q = Q1 := Nat.le_antisymm hq3 HQ.out
        clear hz hg0 hg hzB hgB hc hq3 HE HQ
        go_wp2_with (first | (refine wpList_dst 72 rfl ?_; refine wpList_runG 72 rfl rfl _ (exec_bin .mul 53 _ (.tmp 70) (.tmp 71) rfl _ _ _ rfl rfl rfl (HM.out _)) ?_) | (refine wpList_dst 74 rfl ?_; refine wpList_runG 74 rfl rfl _ (exec_bin .mul 53 _ (.const (.int .u64 4294967296)) (.tmp 73) rfl _ _ _ rfl rfl rfl (HM2.out _)) ?_) | (refine wpList_dst 76 rfl ?_; refine wpList_runG 76 rfl rfl _ (exec_bin .add 53 _ (.tmp 74) (.tmp 75) rfl _ _ _ rfl rfl rfl (HA.out _)) ?_) | (refine wpList_dst 87 rfl ?_; refine wpList_run 87 rfl rfl _ (exec_bin .mul 53 _ (.tmp 86) (.const (.int .u64 4294967296)) rfl _ _ _ rfl rfl rfl (HZ1.out _)) ?_) | (refine wpList_dst 89 rfl ?_; refine wpList_run 89 rfl rfl _ (exec_bin .add 53 _ (.tmp 87) (.tmp 88) rfl _ _ _ rfl rfl rfl (HZ2.out _)) ?_) | (refine wpList_dst 92 rfl ?_; refine wpList_run 92 rfl rfl _ (exec_bin .mul 53 _ (.tmp 90) (.tmp 91) rfl _ _ _ rfl rfl rfl (HZ3.out _)) ?_) | (refine wpList_dst 93 rfl ?_; refine wpList_run 93 rfl rfl _ (exec_bin .sub 53 _ (.tmp 89) (.tmp 92) rfl _ _ _ rfl rfl rfl (HZR.out _)) ?_) | (refine wpList_dst 96 rfl ?_; refine wpList_run 96 rfl rfl _ (exec_bin .quo 53 _ (.tmp 94) (.tmp 95) rfl _ _ _ rfl rfl rfl (HG2.out _)) ?_) | (refine wpList_dst 100 rfl ?_; refine wpList_run 100 rfl rfl _ (exec_bin .mul 53 _ (.tmp 98) (.tmp 99) rfl _ _ _ rfl rfl rfl (HP2.out _)) ?_) | (refine wpList_dst 101 rfl ?_; refine wpList_run 101 rfl rfl _ (exec_bin .sub 53 _ (.tmp 97) (.tmp 100) rfl _ _ _ rfl rfl rfl (HR2.out _)) ?_))
        go_loop [18, 16] (DvR R1 v1 Q0) (fun qv _ => (intOf qv).toNat)
        case atStart => exact START2.out
        case round =>
          obtain ⟨q, r, rfl, rfl, hr, hqB, HE, HQ⟩ := hrel
          by_cases hb : 4294967296 ≤ q
          · have e1 : decide ((4294967296 : Int) ≤ (q : Int)) = true := decide_eq_true (by omega)
            have e1' : decide (4294967296 ≤ q) = true := decide_eq_true hb
            obtain ⟨q', hq'⟩ : ∃ q', q = q' + 1 := ⟨q - 1, by omega⟩
            have hst : Q0 ≤ q' := by have := DD.out.Q0l; omega
            obtain ⟨r', hr'⟩ : ∃ r', r + v1 = r' := ⟨_, rfl⟩
            have HS := Lib.hid (fun W => run_subW q 1 q' W (by unfold B; omega) (by unfold B; omega))
            have HA2 := Lib.hid (fun W => run_addW r v1 r' W (by have := DD.out.v1l; unfold B; omega))
            have hE2 : q' * v1 + r' = R1 := by have h := HE.out; rw [hq', Nat.add_mul, Nat.one_mul] at h; omega
            by_cases hk : 4294967296 ≤ r'
            · have e3 : decide ((4294967296 : Int) ≤ (r' : Int)) = true := decide_eq_true (by omega)
              have e3' : decide (4294967296 ≤ r') = true := decide_eq_true hk
              have hq3 := dv_break (d := d0) DD.out.hYe HPO.out DD.out.v0l DD.out.R1Y hE2 hk
              rw [DD.out.hQ0] at hq3
              obtain rfl : q' = Q0 := Nat.le_antisymm hq3 hst
              clear hq' hr' hE2 hk hst hq3 HE HQ
              go_wp2_with (first | (refine wpList_dst 115 rfl ?_; refine wpList_run 115 rfl rfl _ (exec_bin .sub 53 _ (.tmp 114) (.const (.int .u64 1)) rfl _ _ _ rfl rfl rfl (HS.out _)) ?_) | (refine wpList_dst 118 rfl ?_; refine wpList_run 118 rfl rfl _ (exec_bin .add 53 _ (.tmp 116) (.tmp 117) rfl _ _ _ rfl rfl rfl (HA2.out _)) ?_) | (refine wpList_dst 122 rfl ?_; refine wpList_run 122 rfl rfl _ (exec_bin .mul 53 _ (.tmp 121) (.const (.int .u64 4294967296)) rfl _ _ _ rfl rfl rfl (HZ6.out _)) ?_) | (refine wpList_dst 124 rfl ?_; refine wpList_run 124 rfl rfl _ (exec_bin .add 53 _ (.tmp 122) (.tmp 123) rfl _ _ _ rfl rfl rfl (HQQ.out _)) ?_) | (refine wpList_dst 126 rfl ?_; refine wpList_run 126 rfl rfl _ (exec_bin .mul 53 _ (.tmp 125) (.const (.int .u64 4294967296)) rfl _ _ _ rfl rfl rfl (HZ4.out _)) ?_) | (refine wpList_dst 128 rfl ?_; refine wpList_run 128 rfl rfl _ (exec_bin .add 53 _ (.tmp 126) (.tmp 127) rfl _ _ _ rfl rfl rfl (HZ5.out _)) ?_) | (refine wpList_dst 131 rfl ?_; refine wpList_run 131 rfl rfl _ (exec_bin .mul 53 _ (.tmp 129) (.tmp 130) rfl _ _ _ rfl rfl rfl (HZ7.out _)) ?_) | (refine wpList_dst 132 rfl ?_; refine wpList_run 132 rfl rfl _ (exec_bin .sub 53 _ (.tmp 128) (.tmp 131) rfl _ _ _ rfl rfl rfl (HZ0.out _)) ?_) | (refine wpList_dst 134 rfl ?_; refine wpList_run 134 rfl rfl _ (exec_bin .shr 53 _ (.tmp 132) (.tmp 133) rfl _ _ _ rfl rfl rfl (HRR.out _)) ?_))
              go_ret2
              exact ⟨rfl, rfl⟩
            · have e3 : decide ((4294967296 : Int) ≤ (r' : Int)) = false := decide_eq_false (by omega)
              have e3' : decide (4294967296 ≤ r') = false := decide_eq_false hk
              have HE2 := Lib.hid hE2
              have HST := Lib.hid hst
              have HRB := Lib.hid (show r' < 4294967296 by omega)
              have HQ2 := Lib.hid hq'
              clear hq' hr' hE2 hst hk HE HQ
              go_wp2_with (first | (refine wpList_dst 115 rfl ?_; refine wpList_run 115 rfl rfl _ (exec_bin .sub 53 _ (.tmp 114) (.const (.int .u64 1)) rfl _ _ _ rfl rfl rfl (HS.out _)) ?_) | (refine wpList_dst 118 rfl ?_; refine wpList_run 118 rfl rfl _ (exec_bin .add 53 _ (.tmp 116) (.tmp 117) rfl _ _ _ rfl rfl rfl (HA2.out _)) ?_))
              go_round
              case rel => exact ⟨q', r', rfl, rfl, HRB.out, by have := HQ2.out; omega, HE2, HST⟩
              case measure => have := HQ2.out; simp [intOf]; omega
          · have e1 : decide ((4294967296 : Int) ≤ (q : Int)) = false := decide_eq_false (by omega)
            have e1' : decide (4294967296 ≤ q) = false := decide_eq_false hb
            obtain ⟨z, hz⟩ : ∃ z, q * v0 = z := ⟨_, rfl⟩
            obtain ⟨g0, hg0⟩ : ∃ g0, 4294967296 * r = g0 := ⟨_, rfl⟩
            obtain ⟨g, hg⟩ : ∃ g, g0 + d0 = g := ⟨_, rfl⟩
            have hzB : z < 18446744073709551616 := by rw [← hz]; exact small_mul (by omega) DD.out.v0l
            have hgB : g < 18446744073709551616 := by have := DD.out.d0l; omega
            have HM := Lib.hid (fun W => run_mulW q v0 z W (by rw [hz]; exact Nat.mod_eq_of_lt hzB))
            have HM2 := Lib.hid (fun W => show (binOp .mul 53 (.int .u64 4294967296) (.int .u64 r)).run Tryz.prog W = _ from run_mulW 4294967296 r g0 W (by rw [hg0]; unfold B; omega))
            have HA := Lib.hid (fun W => run_addW g0 d0 g W (by rw [hg]; exact Nat.mod_eq_of_lt hgB))
            by_cases hc : g < z
            · have e2 : decide ((g : Int) < (z : Int)) = true := decide_eq_true (by omega)
              have e2' : decide (g < z) = true := decide_eq_true hc
              have hst0 := dv_step (d := d0) DD.out.hYe HE.out (by omega)
              rw [DD.out.hQ0] at hst0
              obtain ⟨q', hq'⟩ : ∃ q', q = q' + 1 := ⟨q - 1, by omega⟩
              have hst : Q0 ≤ q' := by omega
              clear hst0 hz hg0 hg hzB hgB
              obtain ⟨r', hr'⟩ : ∃ r', r + v1 = r' := ⟨_, rfl⟩
              have HS := Lib.hid (fun W => run_subW q 1 q' W (by unfold B; omega) (by unfold B; omega))
              have HA2 := Lib.hid (fun W => run_addW r v1 r' W (by have := DD.out.v1l; unfold B; omega))
              have hE2 : q' * v1 + r' = R1 := by have h := HE.out; rw [hq', Nat.add_mul, Nat.one_mul] at h; omega
              by_cases hk : 4294967296 ≤ r'
              · have e3 : decide ((4294967296 : Int) ≤ (r' : Int)) = true := decide_eq_true (by omega)
                have e3' : decide (4294967296 ≤ r') = true := decide_eq_true hk
                have hq3 := dv_break (d := d0) DD.out.hYe HPO.out DD.out.v0l DD.out.R1Y hE2 hk
                rw [DD.out.hQ0] at hq3
                obtain rfl : q' = Q0 := Nat.le_antisymm hq3 hst
                clear hq' hr' hE2 hk hst hq3 HE HQ hc
                go_wp2_with (first | (refine wpList_dst 107 rfl ?_; refine wpList_runG 107 rfl rfl _ (exec_bin .mul 53 _ (.tmp 105) (.tmp 106) rfl _ _ _ rfl rfl rfl (HM.out _)) ?_) | (refine wpList_dst 109 rfl ?_; refine wpList_runG 109 rfl rfl _ (exec_bin .mul 53 _ (.const (.int .u64 4294967296)) (.tmp 108) rfl _ _ _ rfl rfl rfl (HM2.out _)) ?_) | (refine wpList_dst 111 rfl ?_; refine wpList_runG 111 rfl rfl _ (exec_bin .add 53 _ (.tmp 109) (.tmp 110) rfl _ _ _ rfl rfl rfl (HA.out _)) ?_) | (refine wpList_dst 115 rfl ?_; refine wpList_run 115 rfl rfl _ (exec_bin .sub 53 _ (.tmp 114) (.const (.int .u64 1)) rfl _ _ _ rfl rfl rfl (HS.out _)) ?_) | (refine wpList_dst 118 rfl ?_; refine wpList_run 118 rfl rfl _ (exec_bin .add 53 _ (.tmp 116) (.tmp 117) rfl _ _ _ rfl rfl rfl (HA2.out _)) ?_) | (refine wpList_dst 122 rfl ?_; refine wpList_run 122 rfl rfl _ (exec_bin .mul 53 _ (.tmp 121) (.const (.int .u64 4294967296)) rfl _ _ _ rfl rfl rfl (HZ6.out _)) ?_) | (refine wpList_dst 124 rfl ?_; refine wpList_run 124 rfl rfl _ (exec_bin .add 53 _ (.tmp 122) (.tmp 123) rfl _ _ _ rfl rfl rfl (HQQ.out _)) ?_) | (refine wpList_dst 126 rfl ?_; refine wpList_run 126 rfl rfl _ (exec_bin .mul 53 _ (.tmp 125) (.const (.int .u64 4294967296)) rfl _ _ _ rfl rfl rfl (HZ4.out _)) ?_) | (refine wpList_dst 128 rfl ?_; refine wpList_run 128 rfl rfl _ (exec_bin .add 53 _ (.tmp 126) (.tmp 127) rfl _ _ _ rfl rfl rfl (HZ5.out _)) ?_) | (refine wpList_dst 131 rfl ?_; refine wpList_run 131 rfl rfl _ (exec_bin .mul 53 _ (.tmp 129) (.tmp 130) rfl _ _ _ rfl rfl rfl (HZ7.out _)) ?_) | (refine wpList_dst 132 rfl ?_; refine wpList_run 132 rfl rfl _ (exec_bin .sub 53 _ (.tmp 128) (.tmp 131) rfl _ _ _ rfl rfl rfl (HZ0.out _)) ?_) | (refine wpList_dst 134 rfl ?_; refine wpList_run 134 rfl rfl _ (exec_bin .shr 53 _ (.tmp 132) (.tmp 133) rfl _ _ _ rfl rfl rfl (HRR.out _)) ?_))
                go_ret2
                exact ⟨rfl, rfl⟩
              · have e3 : decide ((4294967296 : Int) ≤ (r' : Int)) = false := decide_eq_false (by omega)
                have e3' : decide (4294967296 ≤ r') = false := decide_eq_false hk
                have HE2 := Lib.hid hE2
                have HST := Lib.hid hst
                have HRB := Lib.hid (show r' < 4294967296 by omega)
                have HQ2 := Lib.hid hq'
                clear hq' hr' hE2 hst hk HE HQ hc
                go_wp2_with (first | (refine wpList_dst 107 rfl ?_; refine wpList_runG 107 rfl rfl _ (exec_bin .mul 53 _ (.tmp 105) (.tmp 106) rfl _ _ _ rfl rfl rfl (HM.out _)) ?_) | (refine wpList_dst 109 rfl ?_; refine wpList_runG 109 rfl rfl _ (exec_bin .mul 53 _ (.const (.int .u64 4294967296)) (.tmp 108) rfl _ _ _ rfl rfl rfl (HM2.out _)) ?_) | (refine wpList_dst 111 rfl ?_; refine wpList_runG 111 rfl rfl _ (exec_bin .add 53 _ (.tmp 109) (.tmp 110) rfl _ _ _ rfl rfl rfl (HA.out _)) ?_) | (refine wpList_dst 115 rfl ?_; refine wpList_run 115 rfl rfl _ (exec_bin .sub 53 _ (.tmp 114) (.const (.int .u64 1)) rfl _ _ _ rfl rfl rfl (HS.out _)) ?_) | (refine wpList_dst 118 rfl ?_; refine wpList_run 118 rfl rfl _ (exec_bin .add 53 _ (.tmp 116) (.tmp 117) rfl _ _ _ rfl rfl rfl (HA2.out _)) ?_))
                go_round
                case rel => exact ⟨q', r', rfl, rfl, HRB.out, by have := HQ2.out; omega, HE2, HST⟩
                case measure => have := HQ2.out; simp [intOf]; omega
            · have e2 : decide ((g : Int) < (z : Int)) = false := decide_eq_false (by omega)
              have e2' : decide (g < z) = false := decide_eq_false hc
              have hq3 := dv_stop (d := d0) DD.out.hYe HPO.out HE.out (by omega)
              rw [DD.out.hQ0] at hq3
              obtain rfl : q = Q0 := Nat.le_antisymm hq3 HQ.out
              clear hz hg0 hg hzB hgB hc hq3 HE HQ
              go_wp2_with (first | (refine wpList_dst 107 rfl ?_; refine wpList_runG 107 rfl rfl _ (exec_bin .mul 53 _ (.tmp 105) (.tmp 106) rfl _ _ _ rfl rfl rfl (HM.out _)) ?_) | (refine wpList_dst 109 rfl ?_; refine wpList_runG 109 rfl rfl _ (exec_bin .mul 53 _ (.const (.int .u64 4294967296)) (.tmp 108) rfl _ _ _ rfl rfl rfl (HM2.out _)) ?_) | (refine wpList_dst 111 rfl ?_; refine wpList_runG 111 rfl rfl _ (exec_bin .add 53 _ (.tmp 109) (.tmp 110) rfl _ _ _ rfl rfl rfl (HA.out _)) ?_) | (refine wpList_dst 122 rfl ?_; refine wpList_run 122 rfl rfl _ (exec_bin .mul 53 _ (.tmp 121) (.const (.int .u64 4294967296)) rfl _ _ _ rfl rfl rfl (HZ6.out _)) ?_) | (refine wpList_dst 124 rfl ?_; refine wpList_run 124 rfl rfl _ (exec_bin .add 53 _ (.tmp 122) (.tmp 123) rfl _ _ _ rfl rfl rfl (HQQ.out _)) ?_) | (refine wpList_dst 126 rfl ?_; refine wpList_run 126 rfl rfl _ (exec_bin .mul 53 _ (.tmp 125) (.const (.int .u64 4294967296)) rfl _ _ _ rfl rfl rfl (HZ4.out _)) ?_) | (refine wpList_dst 128 rfl ?_; refine wpList_run 128 rfl rfl _ (exec_bin .add 53 _ (.tmp 126) (.tmp 127) rfl _ _ _ rfl rfl rfl (HZ5.out _)) ?_) | (refine wpList_dst 131 rfl ?_; refine wpList_run 131 rfl rfl _ (exec_bin .mul 53 _ (.tmp 129) (.tmp 130) rfl _ _ _ rfl rfl rfl (HZ7.out _)) ?_) | (refine wpList_dst 132 rfl ?_; refine wpList_run 132 rfl rfl _ (exec_bin .sub 53 _ (.tmp 128) (.tmp 131) rfl _ _ _ rfl rfl rfl (HZ0.out _)) ?_) | (refine wpList_dst 134 rfl ?_; refine wpList_run 134 rfl rfl _ (exec_bin .shr 53 _ (.tmp 132) (.tmp 133) rfl _ _ _ rfl rfl rfl (HRR.out _)) ?_))
              go_ret2
              exact ⟨rfl, rfl⟩
end Go.Proofs.YtkjnfobaoaaopaaGreatDoor
