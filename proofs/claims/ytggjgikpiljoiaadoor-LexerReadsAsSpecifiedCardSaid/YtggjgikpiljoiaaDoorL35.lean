/- The reference: letters, digits, pairs, signs. -/
import Derived.Test.YtggjgikpiljoiaaDoorL32
namespace Go.Proofs.YtggjgikpiljoiaaDoor
open Go.RowKit Hm Wm Lx

set_option maxRecDepth 100000 in
set_option maxHeartbeats 800000 in
theorem letter_a (x : Int) (h : 97 ≤ x ∧ x ≤ 122) (w : World) : Calls Tryd.prog 31 #[.int .u8 x] w fun e w' => e = .returned (.bool true) ∧ w = w' := by
  have g4 : decide (97 ≤ x) = true := decide_eq_true (by omega)
  have g7 : decide (x ≤ 122) = true := decide_eq_true (by omega)
  clear h
  go_enter Tryd.func31, Tryd.ntmps31
  go_upto_region 1 with fail
  refine wp_region_lit ?_
  refine wpList_run 3 rfl rfl (.int .u8 x) (exec_move (.tmp 0) rfl _ rfl) ?_
  go_frame
  refine wpList_run 4 rfl rfl (.bool true) (exec_geqI _ _ _ _ rfl .u8 (x) (97) true g4 rfl rfl) ?_
  go_frame
  refine wpList_run 5 rfl rfl (.bool true) (exec_move (.tmp 4) rfl _ rfl) ?_
  go_frame
  refine wpList_runG 6 rfl (by first | rfl | kernel_rfl) (.int .u8 x) (exec_move (.tmp 0) rfl _ rfl) ?_
  go_frame
  refine wpList_runG 7 rfl (by first | rfl | kernel_rfl) (.bool true) (exec_leqI _ _ _ _ rfl .u8 (x) (122) true g7 rfl rfl) ?_
  go_frame
  refine wpList_run 8 rfl rfl (.bool true) (exec_pickT _ _ _ rfl (.bool true) rfl rfl) ?_
  go_frame
  refine wpList_runSkip 9 rfl (by first | rfl | kernel_rfl) (.bool true) (exec_move (.tmp 8) rfl _ rfl) 6 [10, 11, 12, 13, 14, 15] (by kernel_rfl) ?_
  simp only [List.drop_succ_cons, List.drop_zero, List.foldl_cons, List.foldl_nil]
  go_frame
  refine wpList_run 16 rfl rfl (.bool true) (exec_pickT _ _ _ rfl (.bool true) rfl rfl) ?_
  go_frame
  refine wpList_runSkip 17 rfl (by first | rfl | kernel_rfl) (.bool true) (exec_move (.tmp 16) rfl _ rfl) 2 [18, 19] (by kernel_rfl) ?_
  simp only [List.drop_succ_cons, List.drop_zero, List.foldl_cons, List.foldl_nil]
  go_frame
  refine wpList_run 20 rfl rfl (.bool true) (exec_pickT _ _ _ rfl (.bool true) rfl rfl) ?_
  go_frame
  refine wpList_run 2 rfl rfl (.bool true) (exec_assign (.tmp 20) rfl _ rfl) ?_
  go_frame
  refine wpList_nil ?_
  go_wp2
  go_ret
  exact ⟨rfl, rfl⟩
set_option maxRecDepth 100000 in
set_option maxHeartbeats 800000 in
theorem letter_b (x : Int) (h : 122 < x) (w : World) : Calls Tryd.prog 31 #[.int .u8 x] w fun e w' => e = .returned (.bool false) ∧ w = w' := by
  have g4 : decide (97 ≤ x) = true := decide_eq_true (by omega)
  have g7 : decide (x ≤ 122) = false := decide_eq_false (by omega)
  have g11 : decide (65 ≤ x) = true := decide_eq_true (by omega)
  have g14 : decide (x ≤ 90) = false := decide_eq_false (by omega)
  have g19 : (x == 95) = false := by rw [beq_eq_false_iff_ne]; omega
  clear h
  go_enter Tryd.func31, Tryd.ntmps31
  go_upto_region 1 with fail
  refine wp_region_lit ?_
  refine wpList_run 3 rfl rfl (.int .u8 x) (exec_move (.tmp 0) rfl _ rfl) ?_
  go_frame
  refine wpList_run 4 rfl rfl (.bool true) (exec_geqI _ _ _ _ rfl .u8 (x) (97) true g4 rfl rfl) ?_
  go_frame
  refine wpList_run 5 rfl rfl (.bool true) (exec_move (.tmp 4) rfl _ rfl) ?_
  go_frame
  refine wpList_runG 6 rfl (by first | rfl | kernel_rfl) (.int .u8 x) (exec_move (.tmp 0) rfl _ rfl) ?_
  go_frame
  refine wpList_runG 7 rfl (by first | rfl | kernel_rfl) (.bool false) (exec_leqI _ _ _ _ rfl .u8 (x) (122) false g7 rfl rfl) ?_
  go_frame
  refine wpList_run 8 rfl rfl (.bool false) (exec_pickT _ _ _ rfl (.bool false) rfl rfl) ?_
  go_frame
  refine wpList_run 9 rfl rfl (.bool false) (exec_move (.tmp 8) rfl _ rfl) ?_
  go_frame
  refine wpList_runG 10 rfl (by first | rfl | kernel_rfl) (.int .u8 x) (exec_move (.tmp 0) rfl _ rfl) ?_
  go_frame
  refine wpList_runG 11 rfl (by first | rfl | kernel_rfl) (.bool true) (exec_geqI _ _ _ _ rfl .u8 (x) (65) true g11 rfl rfl) ?_
  go_frame
  refine wpList_runG 12 rfl (by first | rfl | kernel_rfl) (.bool true) (exec_move (.tmp 11) rfl _ rfl) ?_
  go_frame
  refine wpList_runG 13 rfl (by first | rfl | kernel_rfl) (.int .u8 x) (exec_move (.tmp 0) rfl _ rfl) ?_
  go_frame
  refine wpList_runG 14 rfl (by first | rfl | kernel_rfl) (.bool false) (exec_leqI _ _ _ _ rfl .u8 (x) (90) false g14 rfl rfl) ?_
  go_frame
  refine wpList_runG 15 rfl (by first | rfl | kernel_rfl) (.bool false) (exec_pickT _ _ _ rfl (.bool false) rfl rfl) ?_
  go_frame
  refine wpList_run 16 rfl rfl (.bool false) (exec_pickF _ _ _ rfl (.bool false) rfl rfl) ?_
  go_frame
  refine wpList_run 17 rfl rfl (.bool false) (exec_move (.tmp 16) rfl _ rfl) ?_
  go_frame
  refine wpList_runG 18 rfl (by first | rfl | kernel_rfl) (.int .u8 x) (exec_move (.tmp 0) rfl _ rfl) ?_
  go_frame
  refine wpList_runG 19 rfl (by first | rfl | kernel_rfl) (.bool false) (exec_eqlI _ _ _ _ rfl .u8 (x) (95) false g19 rfl rfl) ?_
  go_frame
  refine wpList_run 20 rfl rfl (.bool false) (exec_pickF _ _ _ rfl (.bool false) rfl rfl) ?_
  go_frame
  refine wpList_run 2 rfl rfl (.bool false) (exec_assign (.tmp 20) rfl _ rfl) ?_
  go_frame
  refine wpList_nil ?_
  go_wp2
  go_ret
  exact ⟨rfl, rfl⟩
set_option maxRecDepth 100000 in
set_option maxHeartbeats 800000 in
theorem letter_c (x : Int) (h : 65 ≤ x ∧ x ≤ 90) (w : World) : Calls Tryd.prog 31 #[.int .u8 x] w fun e w' => e = .returned (.bool true) ∧ w = w' := by
  have g4 : decide (97 ≤ x) = false := decide_eq_false (by omega)
  have g11 : decide (65 ≤ x) = true := decide_eq_true (by omega)
  have g14 : decide (x ≤ 90) = true := decide_eq_true (by omega)
  clear h
  go_enter Tryd.func31, Tryd.ntmps31
  go_upto_region 1 with fail
  refine wp_region_lit ?_
  refine wpList_run 3 rfl rfl (.int .u8 x) (exec_move (.tmp 0) rfl _ rfl) ?_
  go_frame
  refine wpList_run 4 rfl rfl (.bool false) (exec_geqI _ _ _ _ rfl .u8 (x) (97) false g4 rfl rfl) ?_
  go_frame
  refine wpList_runSkip 5 rfl (by first | rfl | kernel_rfl) (.bool false) (exec_move (.tmp 4) rfl _ rfl) 2 [6, 7] (by kernel_rfl) ?_
  simp only [List.drop_succ_cons, List.drop_zero, List.foldl_cons, List.foldl_nil]
  go_frame
  refine wpList_run 8 rfl rfl (.bool false) (exec_pickF _ _ _ rfl (.bool false) rfl rfl) ?_
  go_frame
  refine wpList_run 9 rfl rfl (.bool false) (exec_move (.tmp 8) rfl _ rfl) ?_
  go_frame
  refine wpList_runG 10 rfl (by first | rfl | kernel_rfl) (.int .u8 x) (exec_move (.tmp 0) rfl _ rfl) ?_
  go_frame
  refine wpList_runG 11 rfl (by first | rfl | kernel_rfl) (.bool true) (exec_geqI _ _ _ _ rfl .u8 (x) (65) true g11 rfl rfl) ?_
  go_frame
  refine wpList_runG 12 rfl (by first | rfl | kernel_rfl) (.bool true) (exec_move (.tmp 11) rfl _ rfl) ?_
  go_frame
  refine wpList_runG 13 rfl (by first | rfl | kernel_rfl) (.int .u8 x) (exec_move (.tmp 0) rfl _ rfl) ?_
  go_frame
  refine wpList_runG 14 rfl (by first | rfl | kernel_rfl) (.bool true) (exec_leqI _ _ _ _ rfl .u8 (x) (90) true g14 rfl rfl) ?_
  go_frame
  refine wpList_runG 15 rfl (by first | rfl | kernel_rfl) (.bool true) (exec_pickT _ _ _ rfl (.bool true) rfl rfl) ?_
  go_frame
  refine wpList_run 16 rfl rfl (.bool true) (exec_pickF _ _ _ rfl (.bool true) rfl rfl) ?_
  go_frame
  refine wpList_runSkip 17 rfl (by first | rfl | kernel_rfl) (.bool true) (exec_move (.tmp 16) rfl _ rfl) 2 [18, 19] (by kernel_rfl) ?_
  simp only [List.drop_succ_cons, List.drop_zero, List.foldl_cons, List.foldl_nil]
  go_frame
  refine wpList_run 20 rfl rfl (.bool true) (exec_pickT _ _ _ rfl (.bool true) rfl rfl) ?_
  go_frame
  refine wpList_run 2 rfl rfl (.bool true) (exec_assign (.tmp 20) rfl _ rfl) ?_
  go_frame
  refine wpList_nil ?_
  go_wp2
  go_ret
  exact ⟨rfl, rfl⟩
set_option maxRecDepth 100000 in
set_option maxHeartbeats 800000 in
theorem letter_d (x : Int) (h : 90 < x ∧ x < 97 ∧ x = 95) (w : World) : Calls Tryd.prog 31 #[.int .u8 x] w fun e w' => e = .returned (.bool true) ∧ w = w' := by
  have g4 : decide (97 ≤ x) = false := decide_eq_false (by omega)
  have g11 : decide (65 ≤ x) = true := decide_eq_true (by omega)
  have g14 : decide (x ≤ 90) = false := decide_eq_false (by omega)
  have g19 : (x == 95) = true := by rw [beq_iff_eq]; omega
  clear h
  go_enter Tryd.func31, Tryd.ntmps31
  go_upto_region 1 with fail
  refine wp_region_lit ?_
  refine wpList_run 3 rfl rfl (.int .u8 x) (exec_move (.tmp 0) rfl _ rfl) ?_
  go_frame
  refine wpList_run 4 rfl rfl (.bool false) (exec_geqI _ _ _ _ rfl .u8 (x) (97) false g4 rfl rfl) ?_
  go_frame
  refine wpList_runSkip 5 rfl (by first | rfl | kernel_rfl) (.bool false) (exec_move (.tmp 4) rfl _ rfl) 2 [6, 7] (by kernel_rfl) ?_
  simp only [List.drop_succ_cons, List.drop_zero, List.foldl_cons, List.foldl_nil]
  go_frame
  refine wpList_run 8 rfl rfl (.bool false) (exec_pickF _ _ _ rfl (.bool false) rfl rfl) ?_
  go_frame
  refine wpList_run 9 rfl rfl (.bool false) (exec_move (.tmp 8) rfl _ rfl) ?_
  go_frame
  refine wpList_runG 10 rfl (by first | rfl | kernel_rfl) (.int .u8 x) (exec_move (.tmp 0) rfl _ rfl) ?_
  go_frame
  refine wpList_runG 11 rfl (by first | rfl | kernel_rfl) (.bool true) (exec_geqI _ _ _ _ rfl .u8 (x) (65) true g11 rfl rfl) ?_
  go_frame
  refine wpList_runG 12 rfl (by first | rfl | kernel_rfl) (.bool true) (exec_move (.tmp 11) rfl _ rfl) ?_
  go_frame
  refine wpList_runG 13 rfl (by first | rfl | kernel_rfl) (.int .u8 x) (exec_move (.tmp 0) rfl _ rfl) ?_
  go_frame
  refine wpList_runG 14 rfl (by first | rfl | kernel_rfl) (.bool false) (exec_leqI _ _ _ _ rfl .u8 (x) (90) false g14 rfl rfl) ?_
  go_frame
  refine wpList_runG 15 rfl (by first | rfl | kernel_rfl) (.bool false) (exec_pickT _ _ _ rfl (.bool false) rfl rfl) ?_
  go_frame
  refine wpList_run 16 rfl rfl (.bool false) (exec_pickF _ _ _ rfl (.bool false) rfl rfl) ?_
  go_frame
  refine wpList_run 17 rfl rfl (.bool false) (exec_move (.tmp 16) rfl _ rfl) ?_
  go_frame
  refine wpList_runG 18 rfl (by first | rfl | kernel_rfl) (.int .u8 x) (exec_move (.tmp 0) rfl _ rfl) ?_
  go_frame
  refine wpList_runG 19 rfl (by first | rfl | kernel_rfl) (.bool true) (exec_eqlI _ _ _ _ rfl .u8 (x) (95) true g19 rfl rfl) ?_
  go_frame
  refine wpList_run 20 rfl rfl (.bool true) (exec_pickF _ _ _ rfl (.bool true) rfl rfl) ?_
  go_frame
  refine wpList_run 2 rfl rfl (.bool true) (exec_assign (.tmp 20) rfl _ rfl) ?_
  go_frame
  refine wpList_nil ?_
  go_wp2
  go_ret
  exact ⟨rfl, rfl⟩
set_option maxRecDepth 100000 in
set_option maxHeartbeats 800000 in
theorem letter_e (x : Int) (h : 90 < x ∧ x < 97 ∧ x ≠ 95) (w : World) : Calls Tryd.prog 31 #[.int .u8 x] w fun e w' => e = .returned (.bool false) ∧ w = w' := by
  have g4 : decide (97 ≤ x) = false := decide_eq_false (by omega)
  have g11 : decide (65 ≤ x) = true := decide_eq_true (by omega)
  have g14 : decide (x ≤ 90) = false := decide_eq_false (by omega)
  have g19 : (x == 95) = false := by rw [beq_eq_false_iff_ne]; omega
  clear h
  go_enter Tryd.func31, Tryd.ntmps31
  go_upto_region 1 with fail
  refine wp_region_lit ?_
  refine wpList_run 3 rfl rfl (.int .u8 x) (exec_move (.tmp 0) rfl _ rfl) ?_
  go_frame
  refine wpList_run 4 rfl rfl (.bool false) (exec_geqI _ _ _ _ rfl .u8 (x) (97) false g4 rfl rfl) ?_
  go_frame
  refine wpList_runSkip 5 rfl (by first | rfl | kernel_rfl) (.bool false) (exec_move (.tmp 4) rfl _ rfl) 2 [6, 7] (by kernel_rfl) ?_
  simp only [List.drop_succ_cons, List.drop_zero, List.foldl_cons, List.foldl_nil]
  go_frame
  refine wpList_run 8 rfl rfl (.bool false) (exec_pickF _ _ _ rfl (.bool false) rfl rfl) ?_
  go_frame
  refine wpList_run 9 rfl rfl (.bool false) (exec_move (.tmp 8) rfl _ rfl) ?_
  go_frame
  refine wpList_runG 10 rfl (by first | rfl | kernel_rfl) (.int .u8 x) (exec_move (.tmp 0) rfl _ rfl) ?_
  go_frame
  refine wpList_runG 11 rfl (by first | rfl | kernel_rfl) (.bool true) (exec_geqI _ _ _ _ rfl .u8 (x) (65) true g11 rfl rfl) ?_
  go_frame
  refine wpList_runG 12 rfl (by first | rfl | kernel_rfl) (.bool true) (exec_move (.tmp 11) rfl _ rfl) ?_
  go_frame
  refine wpList_runG 13 rfl (by first | rfl | kernel_rfl) (.int .u8 x) (exec_move (.tmp 0) rfl _ rfl) ?_
  go_frame
  refine wpList_runG 14 rfl (by first | rfl | kernel_rfl) (.bool false) (exec_leqI _ _ _ _ rfl .u8 (x) (90) false g14 rfl rfl) ?_
  go_frame
  refine wpList_runG 15 rfl (by first | rfl | kernel_rfl) (.bool false) (exec_pickT _ _ _ rfl (.bool false) rfl rfl) ?_
  go_frame
  refine wpList_run 16 rfl rfl (.bool false) (exec_pickF _ _ _ rfl (.bool false) rfl rfl) ?_
  go_frame
  refine wpList_run 17 rfl rfl (.bool false) (exec_move (.tmp 16) rfl _ rfl) ?_
  go_frame
  refine wpList_runG 18 rfl (by first | rfl | kernel_rfl) (.int .u8 x) (exec_move (.tmp 0) rfl _ rfl) ?_
  go_frame
  refine wpList_runG 19 rfl (by first | rfl | kernel_rfl) (.bool false) (exec_eqlI _ _ _ _ rfl .u8 (x) (95) false g19 rfl rfl) ?_
  go_frame
  refine wpList_run 20 rfl rfl (.bool false) (exec_pickF _ _ _ rfl (.bool false) rfl rfl) ?_
  go_frame
  refine wpList_run 2 rfl rfl (.bool false) (exec_assign (.tmp 20) rfl _ rfl) ?_
  go_frame
  refine wpList_nil ?_
  go_wp2
  go_ret
  exact ⟨rfl, rfl⟩
set_option maxRecDepth 100000 in
set_option maxHeartbeats 800000 in
theorem letter_f (x : Int) (h : x < 65) (w : World) : Calls Tryd.prog 31 #[.int .u8 x] w fun e w' => e = .returned (.bool false) ∧ w = w' := by
  have g4 : decide (97 ≤ x) = false := decide_eq_false (by omega)
  have g11 : decide (65 ≤ x) = false := decide_eq_false (by omega)
  have g19 : (x == 95) = false := by rw [beq_eq_false_iff_ne]; omega
  clear h
  go_enter Tryd.func31, Tryd.ntmps31
  go_upto_region 1 with fail
  refine wp_region_lit ?_
  refine wpList_run 3 rfl rfl (.int .u8 x) (exec_move (.tmp 0) rfl _ rfl) ?_
  go_frame
  refine wpList_run 4 rfl rfl (.bool false) (exec_geqI _ _ _ _ rfl .u8 (x) (97) false g4 rfl rfl) ?_
  go_frame
  refine wpList_runSkip 5 rfl (by first | rfl | kernel_rfl) (.bool false) (exec_move (.tmp 4) rfl _ rfl) 2 [6, 7] (by kernel_rfl) ?_
  simp only [List.drop_succ_cons, List.drop_zero, List.foldl_cons, List.foldl_nil]
  go_frame
  refine wpList_run 8 rfl rfl (.bool false) (exec_pickF _ _ _ rfl (.bool false) rfl rfl) ?_
  go_frame
  refine wpList_run 9 rfl rfl (.bool false) (exec_move (.tmp 8) rfl _ rfl) ?_
  go_frame
  refine wpList_runG 10 rfl (by first | rfl | kernel_rfl) (.int .u8 x) (exec_move (.tmp 0) rfl _ rfl) ?_
  go_frame
  refine wpList_runG 11 rfl (by first | rfl | kernel_rfl) (.bool false) (exec_geqI _ _ _ _ rfl .u8 (x) (65) false g11 rfl rfl) ?_
  go_frame
  refine wpList_runSkip 12 rfl (by first | rfl | kernel_rfl) (.bool false) (exec_move (.tmp 11) rfl _ rfl) 2 [13, 14] (by kernel_rfl) ?_
  simp only [List.drop_succ_cons, List.drop_zero, List.foldl_cons, List.foldl_nil]
  go_frame
  refine wpList_runG 15 rfl (by first | rfl | kernel_rfl) (.bool false) (exec_pickF _ _ _ rfl (.bool false) rfl rfl) ?_
  go_frame
  refine wpList_run 16 rfl rfl (.bool false) (exec_pickF _ _ _ rfl (.bool false) rfl rfl) ?_
  go_frame
  refine wpList_run 17 rfl rfl (.bool false) (exec_move (.tmp 16) rfl _ rfl) ?_
  go_frame
  refine wpList_runG 18 rfl (by first | rfl | kernel_rfl) (.int .u8 x) (exec_move (.tmp 0) rfl _ rfl) ?_
  go_frame
  refine wpList_runG 19 rfl (by first | rfl | kernel_rfl) (.bool false) (exec_eqlI _ _ _ _ rfl .u8 (x) (95) false g19 rfl rfl) ?_
  go_frame
  refine wpList_run 20 rfl rfl (.bool false) (exec_pickF _ _ _ rfl (.bool false) rfl rfl) ?_
  go_frame
  refine wpList_run 2 rfl rfl (.bool false) (exec_assign (.tmp 20) rfl _ rfl) ?_
  go_frame
  refine wpList_nil ?_
  go_wp2
  go_ret
  exact ⟨rfl, rfl⟩
theorem letter_any (c : UInt8) (b : Bool) (h : lt c = b) (w : World) : Calls Tryd.prog 31 #[.int .u8 c.toNat] w fun e w' => e = .returned (.bool b) ∧ w = w' := by
  have h0 : ((c.toNat : Int) ≥ 0) := by omega
  subst h
  by_cases h1 : (97 : Int) ≤ c.toNat ∧ (c.toNat : Int) ≤ 122
  · rw [show lt c = true by simp [lt]; omega]; exact letter_a _ h1 w
  by_cases h2 : (122 : Int) < c.toNat
  · rw [show lt c = false by simp [lt]; omega]; exact letter_b _ h2 w
  by_cases h3 : (65 : Int) ≤ c.toNat ∧ (c.toNat : Int) ≤ 90
  · rw [show lt c = true by simp [lt]; omega]; exact letter_c _ h3 w
  by_cases h4 : (c.toNat : Int) = 95
  · rw [show lt c = true by simp [lt]; omega]; exact letter_d _ (by omega) w
  by_cases h5 : (c.toNat : Int) < 65
  · rw [show lt c = false by simp [lt]; omega]; exact letter_f _ h5 w
  · rw [show lt c = false by simp [lt]; omega]; exact letter_e _ (by omega) w
set_option maxRecDepth 100000 in
set_option maxHeartbeats 800000 in
theorem digit_a (x : Int) (h : 48 ≤ x ∧ x ≤ 57) (w : World) : Calls Tryd.prog 33 #[.int .u8 x] w fun e w' => e = .returned (.bool true) ∧ w = w' := by
  have g4 : decide (48 ≤ x) = true := decide_eq_true (by omega)
  have g7 : decide (x ≤ 57) = true := decide_eq_true (by omega)
  clear h
  go_enter Tryd.func33, Tryd.ntmps33
  go_upto_region 1 with fail
  refine wp_region_lit ?_
  refine wpList_run 3 rfl rfl (.int .u8 x) (exec_move (.tmp 0) rfl _ rfl) ?_
  go_frame
  refine wpList_run 4 rfl rfl (.bool true) (exec_geqI _ _ _ _ rfl .u8 (x) (48) true g4 rfl rfl) ?_
  go_frame
  refine wpList_run 5 rfl rfl (.bool true) (exec_move (.tmp 4) rfl _ rfl) ?_
  go_frame
  refine wpList_runG 6 rfl (by first | rfl | kernel_rfl) (.int .u8 x) (exec_move (.tmp 0) rfl _ rfl) ?_
  go_frame
  refine wpList_runG 7 rfl (by first | rfl | kernel_rfl) (.bool true) (exec_leqI _ _ _ _ rfl .u8 (x) (57) true g7 rfl rfl) ?_
  go_frame
  refine wpList_run 8 rfl rfl (.bool true) (exec_pickT _ _ _ rfl (.bool true) rfl rfl) ?_
  go_frame
  refine wpList_run 2 rfl rfl (.bool true) (exec_assign (.tmp 8) rfl _ rfl) ?_
  go_frame
  refine wpList_nil ?_
  go_wp2
  go_ret
  exact ⟨rfl, rfl⟩
set_option maxRecDepth 100000 in
set_option maxHeartbeats 800000 in
theorem digit_b (x : Int) (h : 57 < x) (w : World) : Calls Tryd.prog 33 #[.int .u8 x] w fun e w' => e = .returned (.bool false) ∧ w = w' := by
  have g4 : decide (48 ≤ x) = true := decide_eq_true (by omega)
  have g7 : decide (x ≤ 57) = false := decide_eq_false (by omega)
  clear h
  go_enter Tryd.func33, Tryd.ntmps33
  go_upto_region 1 with fail
  refine wp_region_lit ?_
  refine wpList_run 3 rfl rfl (.int .u8 x) (exec_move (.tmp 0) rfl _ rfl) ?_
  go_frame
  refine wpList_run 4 rfl rfl (.bool true) (exec_geqI _ _ _ _ rfl .u8 (x) (48) true g4 rfl rfl) ?_
  go_frame
  refine wpList_run 5 rfl rfl (.bool true) (exec_move (.tmp 4) rfl _ rfl) ?_
  go_frame
  refine wpList_runG 6 rfl (by first | rfl | kernel_rfl) (.int .u8 x) (exec_move (.tmp 0) rfl _ rfl) ?_
  go_frame
  refine wpList_runG 7 rfl (by first | rfl | kernel_rfl) (.bool false) (exec_leqI _ _ _ _ rfl .u8 (x) (57) false g7 rfl rfl) ?_
  go_frame
  refine wpList_run 8 rfl rfl (.bool false) (exec_pickT _ _ _ rfl (.bool false) rfl rfl) ?_
  go_frame
  refine wpList_run 2 rfl rfl (.bool false) (exec_assign (.tmp 8) rfl _ rfl) ?_
  go_frame
  refine wpList_nil ?_
  go_wp2
  go_ret
  exact ⟨rfl, rfl⟩
set_option maxRecDepth 100000 in
set_option maxHeartbeats 800000 in
theorem digit_c (x : Int) (h : x < 48) (w : World) : Calls Tryd.prog 33 #[.int .u8 x] w fun e w' => e = .returned (.bool false) ∧ w = w' := by
  have g4 : decide (48 ≤ x) = false := decide_eq_false (by omega)
  clear h
  go_enter Tryd.func33, Tryd.ntmps33
  go_upto_region 1 with fail
  refine wp_region_lit ?_
  refine wpList_run 3 rfl rfl (.int .u8 x) (exec_move (.tmp 0) rfl _ rfl) ?_
  go_frame
  refine wpList_run 4 rfl rfl (.bool false) (exec_geqI _ _ _ _ rfl .u8 (x) (48) false g4 rfl rfl) ?_
  go_frame
  refine wpList_runSkip 5 rfl (by first | rfl | kernel_rfl) (.bool false) (exec_move (.tmp 4) rfl _ rfl) 2 [6, 7] (by kernel_rfl) ?_
  simp only [List.drop_succ_cons, List.drop_zero, List.foldl_cons, List.foldl_nil]
  go_frame
  refine wpList_run 8 rfl rfl (.bool false) (exec_pickF _ _ _ rfl (.bool false) rfl rfl) ?_
  go_frame
  refine wpList_run 2 rfl rfl (.bool false) (exec_assign (.tmp 8) rfl _ rfl) ?_
  go_frame
  refine wpList_nil ?_
  go_wp2
  go_ret
  exact ⟨rfl, rfl⟩
theorem digit_any (c : UInt8) (b : Bool) (h : dg c = b) (w : World) : Calls Tryd.prog 33 #[.int .u8 c.toNat] w fun e w' => e = .returned (.bool b) ∧ w = w' := by
  subst h
  by_cases h1 : (48 : Int) ≤ c.toNat ∧ (c.toNat : Int) ≤ 57
  · rw [show dg c = true by simp [dg]; omega]; exact digit_a _ h1 w
  by_cases h2 : (57 : Int) < c.toNat
  · rw [show dg c = false by simp [dg]; omega]; exact digit_b _ h2 w
  · rw [show dg c = false by simp [dg]; omega]; exact digit_c _ (by omega) w
/-- The byte for which a pair stands, 0 if it is none. -/
def prI (x : Int) : Int := if x = 34 ∨ x = 92 then x else if x = 110 then 10 else 0
set_option maxRecDepth 100000 in
set_option maxHeartbeats 800000 in
theorem pair_any (x : Int) (w : World) : Calls Tryd.prog 51 #[.int .u8 x] w fun e w' => e = .returned (.int .u8 (prI x)) ∧ w = w' := by
  by_cases h1 : x = 34
  · subst h1
    go_enter Tryd.func51, Tryd.ntmps51
    go_wp2
    go_ret
    exact ⟨rfl, rfl⟩
  by_cases h2 : x = 92
  · subst h2
    go_enter Tryd.func51, Tryd.ntmps51
    go_wp2
    go_ret
    exact ⟨rfl, rfl⟩
  by_cases h3 : x = 110
  · subst h3
    go_enter Tryd.func51, Tryd.ntmps51
    go_wp2
    go_ret
    exact ⟨rfl, rfl⟩
  have g1 : (x == 34) = false := by rw [beq_eq_false_iff_ne]; exact h1
  have g2 : (x == 92) = false := by rw [beq_eq_false_iff_ne]; exact h2
  have g3 : (x == 110) = false := by rw [beq_eq_false_iff_ne]; exact h3
  have HP := Lib.hid (show prI x = 0 by unfold prI; rw [if_neg (by omega), if_neg h3])
  clear h1 h2 h3
  go_enter Tryd.func51, Tryd.ntmps51
  go_wp2
  go_ret
  exact ⟨by rw [HP.out]; rfl, rfl⟩
theorem ss_elem : Tryd.prog.elem 52 = 9 := by kernel_rfl
theorem st_sizeOf (W : World) : (sizeOf 9).run Tryd.prog W = .ok 1 W := by
  cases hq : Tryd.prog.info? 9 with
  | none => have h := st_info; rw [hq] at h; cases h
  | some i =>
    have h := st_info
    rw [hq] at h
    have h2 : i.size = 1 := by simp at h; exact h.2.1
    simp [sizeOf, typeInfo, hq, h2]
theorem run_atS (b off n c k : Nat) (hk : k < n) (W : World) : (Instr.indexAt 52 (.slice (some ⟨b, off, none⟩) n c) (.int .i64 k)).run Tryd.prog W = .ok (.pointer (some ⟨b, off + k, none⟩)) W := by
  refine (run_indexAt_slice W 52 ⟨b, off, none⟩ n c .i64 k (by rw [ss_elem]; exact Tryd.underlying52)).trans ?_
  rw [if_pos ⟨by omega, by omega⟩, ss_elem, st_sizeOf, Result.andThen_ok, Int.toNat_natCast, Addr.add_mid, Nat.mul_one]
theorem exec_atS {oi : Oper} {a : Act} {w : World} (x y : Operand) (ho : oi.op = .indexAddr 52 x y) (b off n c k : Nat) (hk : k < n) (hx : a.eval x = .slice (some ⟨b, off, none⟩) n c) (hy : a.eval y = .int .i64 k) : (execOp a.eval oi).run Tryd.prog w = .ok (.value (.pointer (some ⟨b, off + k, none⟩))) w :=
  exec_indexAddr _ x y ho _ _ _ hx hy (run_atS b off n c k hk w)
/-- Strings in a row that are read. -/
def cS (xs : List (List UInt8)) : List Value := xs.map fun x => .string (sb x)
set_option maxRecDepth 100000 in
set_option maxHeartbeats 800000 in
theorem has_any (xs : List (List UInt8)) (s : List UInt8) (r : Bool) (hr : decide (s ∈ xs) = r) (A : Option Addr) (cap : Nat) (w : World) (hx : Rd w A (cS xs)) (hn : xs.length ≤ 100) :
    Calls Tryd.prog 52 #[.slice A xs.length cap, .string (sb s)] w fun e w' => e = .returned (.bool r) ∧ w = w' := by
  have HX := Lib.hid hx
  have HRR := Lib.hid hr
  clear hx hr
  go_enter Tryd.func52, Tryd.ntmps52
  go_wp2_with fail
  go_loopw [5] (fun a wr => ∃ k : Nat, a = .int .i64 k ∧ k ≤ xs.length ∧ Hid (s ∉ xs.take k) ∧ wr = w) (fun a _ => xs.length - (intOf a).toNat)
  case atStart => exact ⟨0, rfl, Nat.zero_le _, Lib.hid (by simp), rfl⟩
  case round =>
    obtain ⟨k, rfl, hk, HS, rfl⟩ := hrel
    by_cases hlt : k < xs.length
    · obtain ⟨x, hx⟩ : ∃ x, xs[k]? = some x := ⟨xs[k], List.getElem?_eq_getElem hlt⟩
      obtain ⟨b, off, hA, hc⟩ := HX.out.at_ (show (cS xs)[k]? = some (.string (sb x)) by unfold cS; rw [List.getElem?_map, hx]; rfl)
      subst hA
      have HC := Lib.hid hc
      have HXX := Lib.hid hx
      have h1 : decide ((k : Int) < (xs.length : Int)) = true := decide_eq_true (by omega)
      have h1n : decide (k < xs.length) = true := decide_eq_true hlt
      clear hx hc
      by_cases he : x = s
      · have HQ := Lib.hid (show ∀ W, (binOp .eql 9 (.string (sb x)) (.string (sb s))).run Tryd.prog W = .ok (.bool true) W from fun W => by have := run_eql_str W x s; rwa [decide_eq_true he] at this)
        have HR := Lib.hid (show r = true by rw [← HRR.out]; exact decide_eq_true (by rw [← he]; exact List.mem_of_getElem? HXX.out))
        clear he
        go_wp2_with (first | (refine wpList_dst 14 rfl ?_; refine wpList_run 14 rfl rfl _ (exec_atS (.tmp 12) (.tmp 13) rfl b off _ cap k hlt rfl rfl) ?_; go_frame) | (refine wpList_dst 15 rfl ?_; refine wpList_run 15 rfl rfl _ (exec_load 9 (.tmp 14) rfl _ (.string (sb x)) rfl (run_load_cell str_flat HC.out)) ?_; go_frame) | (refine wpList_dst 17 rfl ?_; refine wpList_run 17 rfl rfl _ (exec_bin .eql 9 _ (.tmp 15) (.tmp 16) rfl (.string (sb x)) (.string (sb s)) (.bool true) rfl rfl rfl (HQ.out _)) ?_; go_frame))
        go_ret
        exact ⟨by rw [HR.out]; rfl, rfl⟩
      · have HQ := Lib.hid (show ∀ W, (binOp .eql 9 (.string (sb x)) (.string (sb s))).run Tryd.prog W = .ok (.bool false) W from fun W => by have := run_eql_str W x s; rwa [decide_eq_false he] at this)
        have HN := Lib.hid (show s ∉ xs.take (k + 1) from by
          obtain ⟨h1, h2⟩ := List.getElem?_eq_some_iff.1 HXX.out
          rw [List.take_succ_eq_append_getElem h1, List.mem_append, List.mem_singleton]
          rintro (h3 | h3)
          · exact HS.out h3
          · exact he (by rw [h3]; exact h2.symm))
        clear he
        go_wp2_with (first | (refine wpList_dst 14 rfl ?_; refine wpList_run 14 rfl rfl _ (exec_atS (.tmp 12) (.tmp 13) rfl b off _ cap k hlt rfl rfl) ?_; go_frame) | (refine wpList_dst 15 rfl ?_; refine wpList_run 15 rfl rfl _ (exec_load 9 (.tmp 14) rfl _ (.string (sb x)) rfl (run_load_cell str_flat HC.out)) ?_; go_frame) | (refine wpList_dst 17 rfl ?_; refine wpList_run 17 rfl rfl _ (exec_bin .eql 9 _ (.tmp 15) (.tmp 16) rfl (.string (sb x)) (.string (sb s)) (.bool false) rfl rfl rfl (HQ.out _)) ?_; go_frame))
        go_roundw
        case rel => exact ⟨k + 1, by go_num, by omega, HN, by first | rfl | trivial⟩
        case measure => simp [intOf]; omega
    · obtain rfl : k = xs.length := by omega
      have h1 : decide ((xs.length : Int) < (xs.length : Int)) = false := decide_eq_false (by omega)
      have HR := Lib.hid (show r = false by rw [← HRR.out]; have := HS.out; rw [List.take_length] at this; exact decide_eq_false this)
      go_wp2_with fail
      go_ret
      exact ⟨by rw [HR.out]; rfl, rfl⟩
def lgS : List (List UInt8) := [[45, 62], [58, 61], [61, 61], [33, 61], [60, 61], [62, 61], [38, 38], [124, 124], [46, 46]]
def shS : List (List UInt8) := [[40], [41], [123], [125], [91], [93], [44], [59], [58], [46], [43], [45], [42], [47], [37], [60], [62], [61], [33], [38], [124], [64], [63], [94], [126]]
theorem mem_lg (c d : UInt8) : decide ([c, d] ∈ lgS) = two c d := by
  unfold two
  refine decide_eq_decide.2 ?_
  simp only [lgS, List.mem_cons, List.cons.injEq, and_true, List.not_mem_nil, or_false, ← UInt8.toNat_inj]
  exact Iff.rfl
theorem mem_sh (c : UInt8) : decide ([c] ∈ shS) = one c := by
  unfold one
  refine decide_eq_decide.2 ?_
  simp only [shS, List.mem_cons, List.cons.injEq, and_true, List.not_mem_nil, or_false, ← UInt8.toNat_inj]
  exact Iff.rfl
set_option maxRecDepth 100000 in
theorem run_lg (w : World) : (Instr.buildSlice 52 9 #[(0, .string ⟨#[45, 62]⟩), (1, .string ⟨#[58, 61]⟩), (2, .string ⟨#[61, 61]⟩), (3, .string ⟨#[33, 61]⟩), (4, .string ⟨#[60, 61]⟩), (5, .string ⟨#[62, 61]⟩), (6, .string ⟨#[38, 38]⟩), (7, .string ⟨#[124, 124]⟩), (8, .string ⟨#[46, 46]⟩)]).run Tryd.prog w = .ok (.slice (some ⟨w.heap.size, 0, none⟩) 9 9) (w.alloc (.cells #[.string ⟨#[45, 62]⟩, .string ⟨#[58, 61]⟩, .string ⟨#[61, 61]⟩, .string ⟨#[33, 61]⟩, .string ⟨#[60, 61]⟩, .string ⟨#[62, 61]⟩, .string ⟨#[38, 38]⟩, .string ⟨#[124, 124]⟩, .string ⟨#[46, 46]⟩] 9)) := by kernel_rfl
set_option maxRecDepth 100000 in
theorem wpList_lg {w : World} {ops : Array Oper} {rest : List Oper} {o : Oper} {a : Act} {Q : Exit → Act → World → Prop} (d : Tmp) (hd : o.dst = some d) (hgd : o.guard = none) (ho : o.op = .buildSlice 52 9 #[(0, .const (.string ⟨#[45, 62]⟩)), (1, .const (.string ⟨#[58, 61]⟩)), (2, .const (.string ⟨#[61, 61]⟩)), (3, .const (.string ⟨#[33, 61]⟩)), (4, .const (.string ⟨#[60, 61]⟩)), (5, .const (.string ⟨#[62, 61]⟩)), (6, .const (.string ⟨#[38, 38]⟩)), (7, .const (.string ⟨#[124, 124]⟩)), (8, .const (.string ⟨#[46, 46]⟩))])
    (h : ∀ w', Below w.heap.size w w' → Rd w' (some ⟨w.heap.size, 0, none⟩) (cS lgS) → wpList Tryd.prog ops Q rest (a.put (some d) (.slice (some ⟨w.heap.size, 0, none⟩) 9 9)) w') : wpList Tryd.prog ops Q (o :: rest) a w := by
  have hr : Rd (w.alloc (.cells #[.string ⟨#[45, 62]⟩, .string ⟨#[58, 61]⟩, .string ⟨#[61, 61]⟩, .string ⟨#[33, 61]⟩, .string ⟨#[60, 61]⟩, .string ⟨#[62, 61]⟩, .string ⟨#[38, 38]⟩, .string ⟨#[124, 124]⟩, .string ⟨#[46, 46]⟩] 9)) (some ⟨w.heap.size, 0, none⟩) (cS lgS) := Rd.of_new w (cS lgS) 9
  have hk := h _ ((Below.refl _ _).alloc (Nat.le_refl _) _) hr
  have hrun : (execOp a.eval o).run Tryd.prog w = .ok (.value (.slice (some ⟨w.heap.size, 0, none⟩) 9 9)) (w.alloc (.cells #[.string ⟨#[45, 62]⟩, .string ⟨#[58, 61]⟩, .string ⟨#[61, 61]⟩, .string ⟨#[33, 61]⟩, .string ⟨#[60, 61]⟩, .string ⟨#[62, 61]⟩, .string ⟨#[38, 38]⟩, .string ⟨#[124, 124]⟩, .string ⟨#[46, 46]⟩] 9)) :=
    exec_buildS 52 9 _ ho #[(0, .string ⟨#[45, 62]⟩), (1, .string ⟨#[58, 61]⟩), (2, .string ⟨#[61, 61]⟩), (3, .string ⟨#[33, 61]⟩), (4, .string ⟨#[60, 61]⟩), (5, .string ⟨#[62, 61]⟩), (6, .string ⟨#[38, 38]⟩), (7, .string ⟨#[124, 124]⟩), (8, .string ⟨#[46, 46]⟩)] rfl _ (run_lg w)
  refine wpList_plain hgd fun K hK => ?_
  unfold Oper.wp
  rw [hrun]
  have := hK _ _ hk
  rw [← hd] at this
  exact this
set_option maxRecDepth 100000 in
theorem run_sh (w : World) : (Instr.buildSlice 52 25 #[(0, .string ⟨#[40]⟩), (1, .string ⟨#[41]⟩), (2, .string ⟨#[123]⟩), (3, .string ⟨#[125]⟩), (4, .string ⟨#[91]⟩), (5, .string ⟨#[93]⟩), (6, .string ⟨#[44]⟩), (7, .string ⟨#[59]⟩), (8, .string ⟨#[58]⟩), (9, .string ⟨#[46]⟩), (10, .string ⟨#[43]⟩), (11, .string ⟨#[45]⟩), (12, .string ⟨#[42]⟩), (13, .string ⟨#[47]⟩), (14, .string ⟨#[37]⟩), (15, .string ⟨#[60]⟩), (16, .string ⟨#[62]⟩), (17, .string ⟨#[61]⟩), (18, .string ⟨#[33]⟩), (19, .string ⟨#[38]⟩), (20, .string ⟨#[124]⟩), (21, .string ⟨#[64]⟩), (22, .string ⟨#[63]⟩), (23, .string ⟨#[94]⟩), (24, .string ⟨#[126]⟩)]).run Tryd.prog w = .ok (.slice (some ⟨w.heap.size, 0, none⟩) 25 25) (w.alloc (.cells #[.string ⟨#[40]⟩, .string ⟨#[41]⟩, .string ⟨#[123]⟩, .string ⟨#[125]⟩, .string ⟨#[91]⟩, .string ⟨#[93]⟩, .string ⟨#[44]⟩, .string ⟨#[59]⟩, .string ⟨#[58]⟩, .string ⟨#[46]⟩, .string ⟨#[43]⟩, .string ⟨#[45]⟩, .string ⟨#[42]⟩, .string ⟨#[47]⟩, .string ⟨#[37]⟩, .string ⟨#[60]⟩, .string ⟨#[62]⟩, .string ⟨#[61]⟩, .string ⟨#[33]⟩, .string ⟨#[38]⟩, .string ⟨#[124]⟩, .string ⟨#[64]⟩, .string ⟨#[63]⟩, .string ⟨#[94]⟩, .string ⟨#[126]⟩] 9)) := by kernel_rfl
set_option maxRecDepth 100000 in
theorem wpList_sh {w : World} {ops : Array Oper} {rest : List Oper} {o : Oper} {a : Act} {Q : Exit → Act → World → Prop} (d : Tmp) (hd : o.dst = some d) (hgd : o.guard = none) (ho : o.op = .buildSlice 52 25 #[(0, .const (.string ⟨#[40]⟩)), (1, .const (.string ⟨#[41]⟩)), (2, .const (.string ⟨#[123]⟩)), (3, .const (.string ⟨#[125]⟩)), (4, .const (.string ⟨#[91]⟩)), (5, .const (.string ⟨#[93]⟩)), (6, .const (.string ⟨#[44]⟩)), (7, .const (.string ⟨#[59]⟩)), (8, .const (.string ⟨#[58]⟩)), (9, .const (.string ⟨#[46]⟩)), (10, .const (.string ⟨#[43]⟩)), (11, .const (.string ⟨#[45]⟩)), (12, .const (.string ⟨#[42]⟩)), (13, .const (.string ⟨#[47]⟩)), (14, .const (.string ⟨#[37]⟩)), (15, .const (.string ⟨#[60]⟩)), (16, .const (.string ⟨#[62]⟩)), (17, .const (.string ⟨#[61]⟩)), (18, .const (.string ⟨#[33]⟩)), (19, .const (.string ⟨#[38]⟩)), (20, .const (.string ⟨#[124]⟩)), (21, .const (.string ⟨#[64]⟩)), (22, .const (.string ⟨#[63]⟩)), (23, .const (.string ⟨#[94]⟩)), (24, .const (.string ⟨#[126]⟩))])
    (h : ∀ w', Below w.heap.size w w' → Rd w' (some ⟨w.heap.size, 0, none⟩) (cS shS) → wpList Tryd.prog ops Q rest (a.put (some d) (.slice (some ⟨w.heap.size, 0, none⟩) 25 25)) w') : wpList Tryd.prog ops Q (o :: rest) a w := by
  have hr : Rd (w.alloc (.cells #[.string ⟨#[40]⟩, .string ⟨#[41]⟩, .string ⟨#[123]⟩, .string ⟨#[125]⟩, .string ⟨#[91]⟩, .string ⟨#[93]⟩, .string ⟨#[44]⟩, .string ⟨#[59]⟩, .string ⟨#[58]⟩, .string ⟨#[46]⟩, .string ⟨#[43]⟩, .string ⟨#[45]⟩, .string ⟨#[42]⟩, .string ⟨#[47]⟩, .string ⟨#[37]⟩, .string ⟨#[60]⟩, .string ⟨#[62]⟩, .string ⟨#[61]⟩, .string ⟨#[33]⟩, .string ⟨#[38]⟩, .string ⟨#[124]⟩, .string ⟨#[64]⟩, .string ⟨#[63]⟩, .string ⟨#[94]⟩, .string ⟨#[126]⟩] 9)) (some ⟨w.heap.size, 0, none⟩) (cS shS) := Rd.of_new w (cS shS) 9
  have hk := h _ ((Below.refl _ _).alloc (Nat.le_refl _) _) hr
  have hrun : (execOp a.eval o).run Tryd.prog w = .ok (.value (.slice (some ⟨w.heap.size, 0, none⟩) 25 25)) (w.alloc (.cells #[.string ⟨#[40]⟩, .string ⟨#[41]⟩, .string ⟨#[123]⟩, .string ⟨#[125]⟩, .string ⟨#[91]⟩, .string ⟨#[93]⟩, .string ⟨#[44]⟩, .string ⟨#[59]⟩, .string ⟨#[58]⟩, .string ⟨#[46]⟩, .string ⟨#[43]⟩, .string ⟨#[45]⟩, .string ⟨#[42]⟩, .string ⟨#[47]⟩, .string ⟨#[37]⟩, .string ⟨#[60]⟩, .string ⟨#[62]⟩, .string ⟨#[61]⟩, .string ⟨#[33]⟩, .string ⟨#[38]⟩, .string ⟨#[124]⟩, .string ⟨#[64]⟩, .string ⟨#[63]⟩, .string ⟨#[94]⟩, .string ⟨#[126]⟩] 9)) :=
    exec_buildS 52 25 _ ho #[(0, .string ⟨#[40]⟩), (1, .string ⟨#[41]⟩), (2, .string ⟨#[123]⟩), (3, .string ⟨#[125]⟩), (4, .string ⟨#[91]⟩), (5, .string ⟨#[93]⟩), (6, .string ⟨#[44]⟩), (7, .string ⟨#[59]⟩), (8, .string ⟨#[58]⟩), (9, .string ⟨#[46]⟩), (10, .string ⟨#[43]⟩), (11, .string ⟨#[45]⟩), (12, .string ⟨#[42]⟩), (13, .string ⟨#[47]⟩), (14, .string ⟨#[37]⟩), (15, .string ⟨#[60]⟩), (16, .string ⟨#[62]⟩), (17, .string ⟨#[61]⟩), (18, .string ⟨#[33]⟩), (19, .string ⟨#[38]⟩), (20, .string ⟨#[124]⟩), (21, .string ⟨#[64]⟩), (22, .string ⟨#[63]⟩), (23, .string ⟨#[94]⟩), (24, .string ⟨#[126]⟩)] rfl _ (run_sh w)
  refine wpList_plain hgd fun K hK => ?_
  unfold Oper.wp
  rw [hrun]
  have := hK _ _ hk
  rw [← hd] at this
  exact this
/-- The sign at the beginning, empty if there is none. -/
def sgS : List UInt8 → List UInt8
  | [] => []
  | c :: r => match sgn c r with
    | .tok _ s _ _ => s
    | _ => []
set_option maxRecDepth 100000 in
set_option maxHeartbeats 800000 in
theorem sign_two (c : UInt8) (d : UInt8) (r : List UInt8) (h : two c d = true) (w : World) (_hl : (c :: d :: r).length ≤ 70000) : Calls Tryd.prog 36 #[.string (sb (c :: d :: r))] w fun e w' => e = .returned (.string (sb [c, d])) ∧ Below w.heap.size w w' := by
  have hz : (sb (c :: d :: r)).size = (c :: d :: r).length := sb_size _
  have HW := Lib.hid (Below.refl w.heap.size w)
  have g2 : decide ((2 : Int) ≤ ((sb (c :: d :: r)).size : Int)) = true := decide_eq_true (by rw [hz]; simp <;> omega)
  have g1 : decide ((1 : Int) ≤ ((sb (c :: d :: r)).size : Int)) = true := decide_eq_true (by rw [hz]; simp <;> omega)
  have H2 := Lib.hid (show ∀ W, (Instr.sliceAt 9 (.string (sb (c :: d :: r))) none (some (.int .i64 2)) none).run Tryd.prog W = .ok (.string (sb [c, d])) W from fun W => run_str_hi W (c :: d :: r) 2 (by simp))
  have HH2 := Lib.hid (show ∀ (A : Option Addr) (cap : Nat) (w : World), Rd w A (cS lgS) → Calls Tryd.prog 52 #[.slice A 9 cap, .string (sb [c, d])] w fun e w' => e = .returned (.bool true) ∧ w = w' from fun A cap w hx => has_any lgS [c, d] _ ((mem_lg c d).trans h) A cap w hx (by decide))
  clear hz h
  generalize hss : sb (c :: d :: r) = s at g2 g1 H2
  clear hss
  go_enter Tryd.func36, Tryd.ntmps36
  go_wp2_with (first | (refine wpList_lg 7 rfl rfl rfl ?_; intro w1 hb hrd; have HL := Lib.hid hrd; replace HW := Lib.hid (HW.out.trans (hb.mono HW.out.size)); clear hb hrd; go_frame) | (refine wpList_sh 8 rfl rfl rfl ?_; intro w2 hb hrd; have HS := Lib.hid hrd; have HL2 := Lib.hid (Rd.below HL.out hb); replace HW := Lib.hid (HW.out.trans (hb.mono HW.out.size)); clear hb hrd; go_frame) | (refine wpList_dst 14 rfl ?_; refine wpList_run 14 rfl rfl _ (exec_slice_hi 9 (.tmp 13) _ rfl (.string s) (.int .i64 2) (.string (sb [c, d])) rfl rfl (H2.out _)) ?_; go_frame) | ((with_reducible refine (HH2.out _ _ _ HL2.out).mono ?_); rintro e w3 ⟨rfl, rfl⟩) | (refine wpList_dst 18 rfl ?_; refine wpList_run 18 rfl rfl _ (exec_slice_hi 9 (.tmp 17) _ rfl (.string s) (.int .i64 2) (.string (sb [c, d])) rfl rfl (H2.out _)) ?_; go_frame))
  go_ret
  exact ⟨rfl, HW.out⟩
set_option maxRecDepth 100000 in
set_option maxHeartbeats 800000 in
theorem sign_one2 (c : UInt8) (d : UInt8) (r : List UInt8) (h : two c d = false) (h1 : one c = true) (w : World) (_hl : (c :: d :: r).length ≤ 70000) : Calls Tryd.prog 36 #[.string (sb (c :: d :: r))] w fun e w' => e = .returned (.string (sb [c])) ∧ Below w.heap.size w w' := by
  have hz : (sb (c :: d :: r)).size = (c :: d :: r).length := sb_size _
  have HW := Lib.hid (Below.refl w.heap.size w)
  have g2 : decide ((2 : Int) ≤ ((sb (c :: d :: r)).size : Int)) = true := decide_eq_true (by rw [hz]; simp <;> omega)
  have g1 : decide ((1 : Int) ≤ ((sb (c :: d :: r)).size : Int)) = true := decide_eq_true (by rw [hz]; simp <;> omega)
  have H2 := Lib.hid (show ∀ W, (Instr.sliceAt 9 (.string (sb (c :: d :: r))) none (some (.int .i64 2)) none).run Tryd.prog W = .ok (.string (sb [c, d])) W from fun W => run_str_hi W (c :: d :: r) 2 (by simp))
  have HH2 := Lib.hid (show ∀ (A : Option Addr) (cap : Nat) (w : World), Rd w A (cS lgS) → Calls Tryd.prog 52 #[.slice A 9 cap, .string (sb [c, d])] w fun e w' => e = .returned (.bool false) ∧ w = w' from fun A cap w hx => has_any lgS [c, d] _ ((mem_lg c d).trans h) A cap w hx (by decide))
  have H1 := Lib.hid (show ∀ W, (Instr.sliceAt 9 (.string (sb (c :: d :: r))) none (some (.int .i64 1)) none).run Tryd.prog W = .ok (.string (sb [c])) W from fun W => run_str_hi W (c :: d :: r) 1 (by simp))
  have HH1 := Lib.hid (show ∀ (A : Option Addr) (cap : Nat) (w : World), Rd w A (cS shS) → Calls Tryd.prog 52 #[.slice A 25 cap, .string (sb [c])] w fun e w' => e = .returned (.bool true) ∧ w = w' from fun A cap w hx => has_any shS [c] _ ((mem_sh c).trans h1) A cap w hx (by decide))
  clear hz h h1
  generalize hss : sb (c :: d :: r) = s at g2 g1 H2 H1
  clear hss
  go_enter Tryd.func36, Tryd.ntmps36
  go_wp2_with (first | (refine wpList_lg 7 rfl rfl rfl ?_; intro w1 hb hrd; have HL := Lib.hid hrd; replace HW := Lib.hid (HW.out.trans (hb.mono HW.out.size)); clear hb hrd; go_frame) | (refine wpList_sh 8 rfl rfl rfl ?_; intro w2 hb hrd; have HS := Lib.hid hrd; have HL2 := Lib.hid (Rd.below HL.out hb); replace HW := Lib.hid (HW.out.trans (hb.mono HW.out.size)); clear hb hrd; go_frame) | (refine wpList_dst 14 rfl ?_; refine wpList_run 14 rfl rfl _ (exec_slice_hi 9 (.tmp 13) _ rfl (.string s) (.int .i64 2) (.string (sb [c, d])) rfl rfl (H2.out _)) ?_; go_frame) | ((with_reducible refine (HH2.out _ _ _ HL2.out).mono ?_); rintro e w3 ⟨rfl, rfl⟩) | (refine wpList_dst 24 rfl ?_; refine wpList_run 24 rfl rfl _ (exec_slice_hi 9 (.tmp 23) _ rfl (.string s) (.int .i64 1) (.string (sb [c])) rfl rfl (H1.out _)) ?_; go_frame) | ((with_reducible refine (HH1.out _ _ _ HS.out).mono ?_); rintro e w4 ⟨rfl, rfl⟩) | (refine wpList_dst 28 rfl ?_; refine wpList_run 28 rfl rfl _ (exec_slice_hi 9 (.tmp 27) _ rfl (.string s) (.int .i64 1) (.string (sb [c])) rfl rfl (H1.out _)) ?_; go_frame))
  go_ret
  exact ⟨rfl, HW.out⟩
set_option maxRecDepth 100000 in
set_option maxHeartbeats 800000 in
theorem sign_none2 (c : UInt8) (d : UInt8) (r : List UInt8) (h : two c d = false) (h1 : one c = false) (w : World) (_hl : (c :: d :: r).length ≤ 70000) : Calls Tryd.prog 36 #[.string (sb (c :: d :: r))] w fun e w' => e = .returned (.string (sb [])) ∧ Below w.heap.size w w' := by
  have hz : (sb (c :: d :: r)).size = (c :: d :: r).length := sb_size _
  have HW := Lib.hid (Below.refl w.heap.size w)
  have g2 : decide ((2 : Int) ≤ ((sb (c :: d :: r)).size : Int)) = true := decide_eq_true (by rw [hz]; simp <;> omega)
  have g1 : decide ((1 : Int) ≤ ((sb (c :: d :: r)).size : Int)) = true := decide_eq_true (by rw [hz]; simp <;> omega)
  have H2 := Lib.hid (show ∀ W, (Instr.sliceAt 9 (.string (sb (c :: d :: r))) none (some (.int .i64 2)) none).run Tryd.prog W = .ok (.string (sb [c, d])) W from fun W => run_str_hi W (c :: d :: r) 2 (by simp))
  have HH2 := Lib.hid (show ∀ (A : Option Addr) (cap : Nat) (w : World), Rd w A (cS lgS) → Calls Tryd.prog 52 #[.slice A 9 cap, .string (sb [c, d])] w fun e w' => e = .returned (.bool false) ∧ w = w' from fun A cap w hx => has_any lgS [c, d] _ ((mem_lg c d).trans h) A cap w hx (by decide))
  have H1 := Lib.hid (show ∀ W, (Instr.sliceAt 9 (.string (sb (c :: d :: r))) none (some (.int .i64 1)) none).run Tryd.prog W = .ok (.string (sb [c])) W from fun W => run_str_hi W (c :: d :: r) 1 (by simp))
  have HH1 := Lib.hid (show ∀ (A : Option Addr) (cap : Nat) (w : World), Rd w A (cS shS) → Calls Tryd.prog 52 #[.slice A 25 cap, .string (sb [c])] w fun e w' => e = .returned (.bool false) ∧ w = w' from fun A cap w hx => has_any shS [c] _ ((mem_sh c).trans h1) A cap w hx (by decide))
  clear hz h h1
  generalize hss : sb (c :: d :: r) = s at g2 g1 H2 H1
  clear hss
  go_enter Tryd.func36, Tryd.ntmps36
  go_wp2_with (first | (refine wpList_lg 7 rfl rfl rfl ?_; intro w1 hb hrd; have HL := Lib.hid hrd; replace HW := Lib.hid (HW.out.trans (hb.mono HW.out.size)); clear hb hrd; go_frame) | (refine wpList_sh 8 rfl rfl rfl ?_; intro w2 hb hrd; have HS := Lib.hid hrd; have HL2 := Lib.hid (Rd.below HL.out hb); replace HW := Lib.hid (HW.out.trans (hb.mono HW.out.size)); clear hb hrd; go_frame) | (refine wpList_dst 14 rfl ?_; refine wpList_run 14 rfl rfl _ (exec_slice_hi 9 (.tmp 13) _ rfl (.string s) (.int .i64 2) (.string (sb [c, d])) rfl rfl (H2.out _)) ?_; go_frame) | ((with_reducible refine (HH2.out _ _ _ HL2.out).mono ?_); rintro e w3 ⟨rfl, rfl⟩) | (refine wpList_dst 24 rfl ?_; refine wpList_run 24 rfl rfl _ (exec_slice_hi 9 (.tmp 23) _ rfl (.string s) (.int .i64 1) (.string (sb [c])) rfl rfl (H1.out _)) ?_; go_frame) | ((with_reducible refine (HH1.out _ _ _ HS.out).mono ?_); rintro e w4 ⟨rfl, rfl⟩))
  go_ret
  exact ⟨rfl, HW.out⟩
set_option maxRecDepth 100000 in
set_option maxHeartbeats 800000 in
theorem sign_one1 (c : UInt8) (h1 : one c = true) (w : World) (_hl : [c].length ≤ 70000) : Calls Tryd.prog 36 #[.string (sb [c])] w fun e w' => e = .returned (.string (sb [c])) ∧ Below w.heap.size w w' := by
  have hz : (sb [c]).size = [c].length := sb_size _
  have HW := Lib.hid (Below.refl w.heap.size w)
  have g2 : decide ((2 : Int) ≤ ((sb [c]).size : Int)) = false := decide_eq_false (by rw [hz]; simp <;> omega)
  have g1 : decide ((1 : Int) ≤ ((sb [c]).size : Int)) = true := decide_eq_true (by rw [hz]; simp <;> omega)
  have H1 := Lib.hid (show ∀ W, (Instr.sliceAt 9 (.string (sb [c])) none (some (.int .i64 1)) none).run Tryd.prog W = .ok (.string (sb [c])) W from fun W => run_str_hi W [c] 1 (by simp))
  have HH1 := Lib.hid (show ∀ (A : Option Addr) (cap : Nat) (w : World), Rd w A (cS shS) → Calls Tryd.prog 52 #[.slice A 25 cap, .string (sb [c])] w fun e w' => e = .returned (.bool true) ∧ w = w' from fun A cap w hx => has_any shS [c] _ ((mem_sh c).trans h1) A cap w hx (by decide))
  clear hz h1
  go_enter Tryd.func36, Tryd.ntmps36
  go_wp2_with (first | (refine wpList_lg 7 rfl rfl rfl ?_; intro w1 hb hrd; have HL := Lib.hid hrd; replace HW := Lib.hid (HW.out.trans (hb.mono HW.out.size)); clear hb hrd; go_frame) | (refine wpList_sh 8 rfl rfl rfl ?_; intro w2 hb hrd; have HS := Lib.hid hrd; have HL2 := Lib.hid (Rd.below HL.out hb); replace HW := Lib.hid (HW.out.trans (hb.mono HW.out.size)); clear hb hrd; go_frame) | (refine wpList_dst 24 rfl ?_; refine wpList_run 24 rfl rfl _ (exec_slice_hi 9 (.tmp 23) _ rfl (.string (sb [c])) (.int .i64 1) (.string (sb [c])) rfl rfl (H1.out _)) ?_; go_frame) | ((with_reducible refine (HH1.out _ _ _ HS.out).mono ?_); rintro e w4 ⟨rfl, rfl⟩) | (refine wpList_dst 28 rfl ?_; refine wpList_run 28 rfl rfl _ (exec_slice_hi 9 (.tmp 27) _ rfl (.string (sb [c])) (.int .i64 1) (.string (sb [c])) rfl rfl (H1.out _)) ?_; go_frame))
  go_ret
  exact ⟨rfl, HW.out⟩
set_option maxRecDepth 100000 in
set_option maxHeartbeats 800000 in
theorem sign_none1 (c : UInt8) (h1 : one c = false) (w : World) (_hl : [c].length ≤ 70000) : Calls Tryd.prog 36 #[.string (sb [c])] w fun e w' => e = .returned (.string (sb [])) ∧ Below w.heap.size w w' := by
  have hz : (sb [c]).size = [c].length := sb_size _
  have HW := Lib.hid (Below.refl w.heap.size w)
  have g2 : decide ((2 : Int) ≤ ((sb [c]).size : Int)) = false := decide_eq_false (by rw [hz]; simp <;> omega)
  have g1 : decide ((1 : Int) ≤ ((sb [c]).size : Int)) = true := decide_eq_true (by rw [hz]; simp <;> omega)
  have H1 := Lib.hid (show ∀ W, (Instr.sliceAt 9 (.string (sb [c])) none (some (.int .i64 1)) none).run Tryd.prog W = .ok (.string (sb [c])) W from fun W => run_str_hi W [c] 1 (by simp))
  have HH1 := Lib.hid (show ∀ (A : Option Addr) (cap : Nat) (w : World), Rd w A (cS shS) → Calls Tryd.prog 52 #[.slice A 25 cap, .string (sb [c])] w fun e w' => e = .returned (.bool false) ∧ w = w' from fun A cap w hx => has_any shS [c] _ ((mem_sh c).trans h1) A cap w hx (by decide))
  clear hz h1
  go_enter Tryd.func36, Tryd.ntmps36
  go_wp2_with (first | (refine wpList_lg 7 rfl rfl rfl ?_; intro w1 hb hrd; have HL := Lib.hid hrd; replace HW := Lib.hid (HW.out.trans (hb.mono HW.out.size)); clear hb hrd; go_frame) | (refine wpList_sh 8 rfl rfl rfl ?_; intro w2 hb hrd; have HS := Lib.hid hrd; have HL2 := Lib.hid (Rd.below HL.out hb); replace HW := Lib.hid (HW.out.trans (hb.mono HW.out.size)); clear hb hrd; go_frame) | (refine wpList_dst 24 rfl ?_; refine wpList_run 24 rfl rfl _ (exec_slice_hi 9 (.tmp 23) _ rfl (.string (sb [c])) (.int .i64 1) (.string (sb [c])) rfl rfl (H1.out _)) ?_; go_frame) | ((with_reducible refine (HH1.out _ _ _ HS.out).mono ?_); rintro e w4 ⟨rfl, rfl⟩))
  go_ret
  exact ⟨rfl, HW.out⟩
theorem Sign_any (c : UInt8) (r : List UInt8) (w : World) (hl : (c :: r).length ≤ 70000) : Calls Tryd.prog 36 #[.string (sb (c :: r))] w fun e w' => e = .returned (.string (sb (sgS (c :: r)))) ∧ Below w.heap.size w w' := by
  cases r with
  | nil =>
    cases h1 : one c
    · rw [show sgS [c] = [] by simp [sgS, sgn, h1]]; exact sign_none1 c h1 w hl
    · rw [show sgS [c] = [c] by simp [sgS, sgn, h1]]; exact sign_one1 c h1 w hl
  | cons d r =>
    cases h : two c d
    · cases h1 : one c
      · rw [show sgS (c :: d :: r) = [] by simp [sgS, sgn, h, h1]]; exact sign_none2 c d r h h1 w hl
      · rw [show sgS (c :: d :: r) = [c] by simp [sgS, sgn, h, h1]]; exact sign_one2 c d r h h1 w hl
    · rw [show sgS (c :: d :: r) = [c, d] by simp [sgS, sgn, h]]; exact sign_two c d r h w hl
end Go.Proofs.YtggjgikpiljoiaaDoor
