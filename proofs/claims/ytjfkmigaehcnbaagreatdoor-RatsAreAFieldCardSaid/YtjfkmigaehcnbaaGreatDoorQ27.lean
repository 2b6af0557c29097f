/- The walk of RatTextsComeBack. -/
import Derived.Test.YtjfkmigaehcnbaaGreatDoorQ26
namespace Go.Proofs.YtjfkmigaehcnbaaGreatDoor
open Go.RowKit Hm Wm Wn

instance : DecidableEq Rv := fun x y => decidable_of_iff (x.neg = y.neg ∧ x.n = y.n ∧ x.d = y.d) (by obtain ⟨a, b, c⟩ := x; obtain ⟨a', b', c'⟩ := y; simp)
theorem run_bsame_neq (b : Bool) (W : World) : (binOp .neq 4 (.bool b) (.bool b)).run Tryz.prog W = .ok (.bool false) W := by
  cases b <;> kernel_rfl
theorem bool_guard_neq (b : Bool) (W : World) (x y : Operand) : (eqGuard .neq 4 x y (.bool b) (.bool b)).run Tryz.prog W = .ok () W := by simp [go_sem]
theorem run_neR (x y : Rv) (b : Bool) (h : decide (x = y) = b) (W : World) : (binOp .eql 23 (.agg #[.bool x.neg, .string x.n, .string x.d]) (.agg #[.bool y.neg, .string y.n, .string y.d])).run Tryz.prog W = .ok (.bool b) W := by
  rw [run_eqR, ← h]
  congr 2
  refine decide_eq_decide.2 ⟨fun e => ?_, fun e => by rw [e]; exact ⟨rfl, rfl, rfl⟩⟩
  obtain ⟨a, b, c⟩ := x
  obtain ⟨a', b', c'⟩ := y
  obtain ⟨rfl, rfl, rfl⟩ := e
  rfl
theorem rat_guardN (W : World) (x y : Operand) (xs ys : Array Value) : (eqGuard .neq 23 x y (.agg xs) (.agg ys)).run Tryz.prog W = .ok () W := run_eqGuard_agg W .neq _ x y xs ys (by kernel_rfl)
theorem run_sameR (x : Rv) (W : World) : (binOp .neq 23 (.agg #[.bool x.neg, .string x.n, .string x.d]) (.agg #[.bool x.neg, .string x.n, .string x.d])).run Tryz.prog W = .ok (.bool false) W := by
  have h := run_eqRs x.neg x.n x.d W
  simp [binOp] at h ⊢
  generalize Sem.run Tryz.prog (Op.equal 23 (.agg #[.bool x.neg, .string x.n, .string x.d]) (.agg #[.bool x.neg, .string x.n, .string x.d])) W = R at h ⊢
  cases R <;> simp_all
set_option maxRecDepth 100000 in
set_option maxHeartbeats 800000 in
theorem bk_out0 (x y : Rv) (s : ByteArray) (w : World) (hE : Env w) (h13 : (∀ W, Calls Tryz.prog 8 #[.agg #[.bool x.neg, .string x.n, .string x.d], .int .i64 40] W fun e w' => e = .returned (.bool false) ∧ Below W.heap.size W w')) : Calls Tryz.prog 7 #[.agg #[.bool x.neg, .string x.n, .string x.d], .agg #[.bool y.neg, .string y.n, .string y.d], .string s] w fun e w' => e = .returned (.bool true) ∧ Below w.heap.size w w' := by
  obtain ⟨W0, hW0⟩ : ∃ W, W = (w.alloc (.cells #[.bool x.neg, .string x.n, .string x.d] 23)).alloc (.cells #[.bool y.neg, .string y.n, .string y.d] 23) := ⟨_, rfl⟩
  have hk := two_vars w 23 23 [.bool x.neg, .string x.n, .string x.d] [.bool y.neg, .string y.n, .string y.d]
  have HX : Hid (Blk W0 w.heap.size 23 [.bool x.neg, .string x.n, .string x.d]) := Lib.hid (by rw [hW0]; exact hk.1)
  have HY : Hid (Blk W0 (w.heap.size + 1) 23 [.bool y.neg, .string y.n, .string y.d]) := Lib.hid (by rw [hW0]; exact hk.2.1)
  have HW : Hid (Below w.heap.size w W0) := Lib.hid (by rw [hW0]; exact hk.2.2)
  have HE := Lib.hid (hE.next HW.out)
  clear hk hE
  have F13 := Lib.hid h13
  clear h13
  go_enter Tryz.func7, Tryz.ntmps7
  go_wp2_with fail
  try rw [← hW0]
  clear hW0
  go_wp2_with (first | (refine wpList_dst 12 rfl ?_; refine wpList_run 12 rfl rfl _ (exec_load 23 (.tmp 3) rfl _ (.agg #[.bool x.neg, .string x.n, .string x.d]) rfl (run_load_part _ 23 _ 0 3 _ [.bool x.neg, .string x.n, .string x.d] _ HX.out (by simp) Tryz.underlying23 rfl size_api_Rat)) ?_; go_frame))
  refine (F13.out _).mono ?_
  rintro e w1 ⟨rfl, hb⟩
  replace HX := Lib.hid (HX.out.next hb)
  replace HY := Lib.hid (HY.out.next hb)
  replace HW := Lib.hid (HW.out.trans (hb.mono HW.out.size))
  replace HE := Lib.hid (HE.out.next hb)
  clear hb
  go_wp2_with fail
  refine ((qsanity_any _ HE.out)).mono ?_
  rintro e w2 ⟨rfl, hb⟩
  replace HX := Lib.hid (HX.out.next hb)
  replace HY := Lib.hid (HY.out.next hb)
  replace HW := Lib.hid (HW.out.trans (hb.mono HW.out.size))
  replace HE := Lib.hid (HE.out.next hb)
  clear hb
  go_wp2_with fail
  go_ret
  exact ⟨rfl, HW.out⟩
set_option maxRecDepth 100000 in
set_option maxHeartbeats 800000 in
theorem bk_out1 (x y : Rv) (s : ByteArray) (w : World) (hE : Env w) (h13 : (∀ W, Calls Tryz.prog 8 #[.agg #[.bool x.neg, .string x.n, .string x.d], .int .i64 40] W fun e w' => e = .returned (.bool true) ∧ Below W.heap.size W w')) (h17 : (∀ W, Calls Tryz.prog 8 #[.agg #[.bool y.neg, .string y.n, .string y.d], .int .i64 40] W fun e w' => e = .returned (.bool false) ∧ Below W.heap.size W w')) : Calls Tryz.prog 7 #[.agg #[.bool x.neg, .string x.n, .string x.d], .agg #[.bool y.neg, .string y.n, .string y.d], .string s] w fun e w' => e = .returned (.bool true) ∧ Below w.heap.size w w' := by
  obtain ⟨W0, hW0⟩ : ∃ W, W = (w.alloc (.cells #[.bool x.neg, .string x.n, .string x.d] 23)).alloc (.cells #[.bool y.neg, .string y.n, .string y.d] 23) := ⟨_, rfl⟩
  have hk := two_vars w 23 23 [.bool x.neg, .string x.n, .string x.d] [.bool y.neg, .string y.n, .string y.d]
  have HX : Hid (Blk W0 w.heap.size 23 [.bool x.neg, .string x.n, .string x.d]) := Lib.hid (by rw [hW0]; exact hk.1)
  have HY : Hid (Blk W0 (w.heap.size + 1) 23 [.bool y.neg, .string y.n, .string y.d]) := Lib.hid (by rw [hW0]; exact hk.2.1)
  have HW : Hid (Below w.heap.size w W0) := Lib.hid (by rw [hW0]; exact hk.2.2)
  have HE := Lib.hid (hE.next HW.out)
  clear hk hE
  have F13 := Lib.hid h13
  have F17 := Lib.hid h17
  clear h13 h17
  go_enter Tryz.func7, Tryz.ntmps7
  go_wp2_with fail
  try rw [← hW0]
  clear hW0
  go_wp2_with (first | (refine wpList_dst 12 rfl ?_; refine wpList_run 12 rfl rfl _ (exec_load 23 (.tmp 3) rfl _ (.agg #[.bool x.neg, .string x.n, .string x.d]) rfl (run_load_part _ 23 _ 0 3 _ [.bool x.neg, .string x.n, .string x.d] _ HX.out (by simp) Tryz.underlying23 rfl size_api_Rat)) ?_; go_frame))
  refine (F13.out _).mono ?_
  rintro e w1 ⟨rfl, hb⟩
  replace HX := Lib.hid (HX.out.next hb)
  replace HY := Lib.hid (HY.out.next hb)
  replace HW := Lib.hid (HW.out.trans (hb.mono HW.out.size))
  replace HE := Lib.hid (HE.out.next hb)
  clear hb
  go_wp2_with (first | (refine wpList_dst 16 rfl ?_; refine wpList_runG 16 rfl rfl _ (exec_load 23 (.tmp 4) rfl _ (.agg #[.bool y.neg, .string y.n, .string y.d]) rfl (run_load_part _ 23 _ 0 3 _ [.bool y.neg, .string y.n, .string y.d] _ HY.out (by simp) Tryz.underlying23 rfl size_api_Rat)) ?_; go_frame))
  refine (F17.out _).mono ?_
  rintro e w2 ⟨rfl, hb⟩
  replace HX := Lib.hid (HX.out.next hb)
  replace HY := Lib.hid (HY.out.next hb)
  replace HW := Lib.hid (HW.out.trans (hb.mono HW.out.size))
  replace HE := Lib.hid (HE.out.next hb)
  clear hb
  go_wp2_with fail
  refine ((qsanity_any _ HE.out)).mono ?_
  rintro e w3 ⟨rfl, hb⟩
  replace HX := Lib.hid (HX.out.next hb)
  replace HY := Lib.hid (HY.out.next hb)
  replace HW := Lib.hid (HW.out.trans (hb.mono HW.out.size))
  replace HE := Lib.hid (HE.out.next hb)
  clear hb
  go_wp2_with fail
  go_ret
  exact ⟨rfl, HW.out⟩
set_option maxRecDepth 100000 in
set_option maxHeartbeats 800000 in
theorem bk_out2 (x y : Rv) (s : ByteArray) (w : World) (hE : Env w) (h13 : (∀ W, Calls Tryz.prog 8 #[.agg #[.bool x.neg, .string x.n, .string x.d], .int .i64 40] W fun e w' => e = .returned (.bool true) ∧ Below W.heap.size W w')) (h17 : (∀ W, Calls Tryz.prog 8 #[.agg #[.bool y.neg, .string y.n, .string y.d], .int .i64 40] W fun e w' => e = .returned (.bool true) ∧ Below W.heap.size W w')) (h22 : (∀ W, Calls Tryz.prog 19 #[.agg #[.bool x.neg, .string x.n, .string x.d]] W fun e w' => e = .returned (.bool false) ∧ Below W.heap.size W w')) : Calls Tryz.prog 7 #[.agg #[.bool x.neg, .string x.n, .string x.d], .agg #[.bool y.neg, .string y.n, .string y.d], .string s] w fun e w' => e = .returned (.bool true) ∧ Below w.heap.size w w' := by
  obtain ⟨W0, hW0⟩ : ∃ W, W = (w.alloc (.cells #[.bool x.neg, .string x.n, .string x.d] 23)).alloc (.cells #[.bool y.neg, .string y.n, .string y.d] 23) := ⟨_, rfl⟩
  have hk := two_vars w 23 23 [.bool x.neg, .string x.n, .string x.d] [.bool y.neg, .string y.n, .string y.d]
  have HX : Hid (Blk W0 w.heap.size 23 [.bool x.neg, .string x.n, .string x.d]) := Lib.hid (by rw [hW0]; exact hk.1)
  have HY : Hid (Blk W0 (w.heap.size + 1) 23 [.bool y.neg, .string y.n, .string y.d]) := Lib.hid (by rw [hW0]; exact hk.2.1)
  have HW : Hid (Below w.heap.size w W0) := Lib.hid (by rw [hW0]; exact hk.2.2)
  have HE := Lib.hid (hE.next HW.out)
  clear hk hE
  have F13 := Lib.hid h13
  have F17 := Lib.hid h17
  have F22 := Lib.hid h22
  clear h13 h17 h22
  go_enter Tryz.func7, Tryz.ntmps7
  go_wp2_with fail
  try rw [← hW0]
  clear hW0
  go_wp2_with (first | (refine wpList_dst 12 rfl ?_; refine wpList_run 12 rfl rfl _ (exec_load 23 (.tmp 3) rfl _ (.agg #[.bool x.neg, .string x.n, .string x.d]) rfl (run_load_part _ 23 _ 0 3 _ [.bool x.neg, .string x.n, .string x.d] _ HX.out (by simp) Tryz.underlying23 rfl size_api_Rat)) ?_; go_frame))
  refine (F13.out _).mono ?_
  rintro e w1 ⟨rfl, hb⟩
  replace HX := Lib.hid (HX.out.next hb)
  replace HY := Lib.hid (HY.out.next hb)
  replace HW := Lib.hid (HW.out.trans (hb.mono HW.out.size))
  replace HE := Lib.hid (HE.out.next hb)
  clear hb
  go_wp2_with (first | (refine wpList_dst 16 rfl ?_; refine wpList_runG 16 rfl rfl _ (exec_load 23 (.tmp 4) rfl _ (.agg #[.bool y.neg, .string y.n, .string y.d]) rfl (run_load_part _ 23 _ 0 3 _ [.bool y.neg, .string y.n, .string y.d] _ HY.out (by simp) Tryz.underlying23 rfl size_api_Rat)) ?_; go_frame))
  refine (F17.out _).mono ?_
  rintro e w2 ⟨rfl, hb⟩
  replace HX := Lib.hid (HX.out.next hb)
  replace HY := Lib.hid (HY.out.next hb)
  replace HW := Lib.hid (HW.out.trans (hb.mono HW.out.size))
  replace HE := Lib.hid (HE.out.next hb)
  clear hb
  go_wp2_with (first | (refine wpList_dst 21 rfl ?_; refine wpList_runG 21 rfl rfl _ (exec_load 23 (.tmp 3) rfl _ (.agg #[.bool x.neg, .string x.n, .string x.d]) rfl (run_load_part _ 23 _ 0 3 _ [.bool x.neg, .string x.n, .string x.d] _ HX.out (by simp) Tryz.underlying23 rfl size_api_Rat)) ?_; go_frame))
  refine (F22.out _).mono ?_
  rintro e w3 ⟨rfl, hb⟩
  replace HX := Lib.hid (HX.out.next hb)
  replace HY := Lib.hid (HY.out.next hb)
  replace HW := Lib.hid (HW.out.trans (hb.mono HW.out.size))
  replace HE := Lib.hid (HE.out.next hb)
  clear hb
  go_wp2_with fail
  refine ((qsanity_any _ HE.out)).mono ?_
  rintro e w4 ⟨rfl, hb⟩
  replace HX := Lib.hid (HX.out.next hb)
  replace HY := Lib.hid (HY.out.next hb)
  replace HW := Lib.hid (HW.out.trans (hb.mono HW.out.size))
  replace HE := Lib.hid (HE.out.next hb)
  clear hb
  go_wp2_with fail
  go_ret
  exact ⟨rfl, HW.out⟩
set_option maxRecDepth 100000 in
set_option maxHeartbeats 800000 in
theorem bk_out3 (x y : Rv) (s : ByteArray) (w : World) (hE : Env w) (h13 : (∀ W, Calls Tryz.prog 8 #[.agg #[.bool x.neg, .string x.n, .string x.d], .int .i64 40] W fun e w' => e = .returned (.bool true) ∧ Below W.heap.size W w')) (h17 : (∀ W, Calls Tryz.prog 8 #[.agg #[.bool y.neg, .string y.n, .string y.d], .int .i64 40] W fun e w' => e = .returned (.bool true) ∧ Below W.heap.size W w')) (h22 : (∀ W, Calls Tryz.prog 19 #[.agg #[.bool x.neg, .string x.n, .string x.d]] W fun e w' => e = .returned (.bool true) ∧ Below W.heap.size W w')) (h27 : (∀ W, Calls Tryz.prog 19 #[.agg #[.bool y.neg, .string y.n, .string y.d]] W fun e w' => e = .returned (.bool false) ∧ Below W.heap.size W w')) : Calls Tryz.prog 7 #[.agg #[.bool x.neg, .string x.n, .string x.d], .agg #[.bool y.neg, .string y.n, .string y.d], .string s] w fun e w' => e = .returned (.bool true) ∧ Below w.heap.size w w' := by
  obtain ⟨W0, hW0⟩ : ∃ W, W = (w.alloc (.cells #[.bool x.neg, .string x.n, .string x.d] 23)).alloc (.cells #[.bool y.neg, .string y.n, .string y.d] 23) := ⟨_, rfl⟩
  have hk := two_vars w 23 23 [.bool x.neg, .string x.n, .string x.d] [.bool y.neg, .string y.n, .string y.d]
  have HX : Hid (Blk W0 w.heap.size 23 [.bool x.neg, .string x.n, .string x.d]) := Lib.hid (by rw [hW0]; exact hk.1)
  have HY : Hid (Blk W0 (w.heap.size + 1) 23 [.bool y.neg, .string y.n, .string y.d]) := Lib.hid (by rw [hW0]; exact hk.2.1)
  have HW : Hid (Below w.heap.size w W0) := Lib.hid (by rw [hW0]; exact hk.2.2)
  have HE := Lib.hid (hE.next HW.out)
  clear hk hE
  have F13 := Lib.hid h13
  have F17 := Lib.hid h17
  have F22 := Lib.hid h22
  have F27 := Lib.hid h27
  clear h13 h17 h22 h27
  go_enter Tryz.func7, Tryz.ntmps7
  go_wp2_with fail
  try rw [← hW0]
  clear hW0
  go_wp2_with (first | (refine wpList_dst 12 rfl ?_; refine wpList_run 12 rfl rfl _ (exec_load 23 (.tmp 3) rfl _ (.agg #[.bool x.neg, .string x.n, .string x.d]) rfl (run_load_part _ 23 _ 0 3 _ [.bool x.neg, .string x.n, .string x.d] _ HX.out (by simp) Tryz.underlying23 rfl size_api_Rat)) ?_; go_frame))
  refine (F13.out _).mono ?_
  rintro e w1 ⟨rfl, hb⟩
  replace HX := Lib.hid (HX.out.next hb)
  replace HY := Lib.hid (HY.out.next hb)
  replace HW := Lib.hid (HW.out.trans (hb.mono HW.out.size))
  replace HE := Lib.hid (HE.out.next hb)
  clear hb
  go_wp2_with (first | (refine wpList_dst 16 rfl ?_; refine wpList_runG 16 rfl rfl _ (exec_load 23 (.tmp 4) rfl _ (.agg #[.bool y.neg, .string y.n, .string y.d]) rfl (run_load_part _ 23 _ 0 3 _ [.bool y.neg, .string y.n, .string y.d] _ HY.out (by simp) Tryz.underlying23 rfl size_api_Rat)) ?_; go_frame))
  refine (F17.out _).mono ?_
  rintro e w2 ⟨rfl, hb⟩
  replace HX := Lib.hid (HX.out.next hb)
  replace HY := Lib.hid (HY.out.next hb)
  replace HW := Lib.hid (HW.out.trans (hb.mono HW.out.size))
  replace HE := Lib.hid (HE.out.next hb)
  clear hb
  go_wp2_with (first | (refine wpList_dst 21 rfl ?_; refine wpList_runG 21 rfl rfl _ (exec_load 23 (.tmp 3) rfl _ (.agg #[.bool x.neg, .string x.n, .string x.d]) rfl (run_load_part _ 23 _ 0 3 _ [.bool x.neg, .string x.n, .string x.d] _ HX.out (by simp) Tryz.underlying23 rfl size_api_Rat)) ?_; go_frame))
  refine (F22.out _).mono ?_
  rintro e w3 ⟨rfl, hb⟩
  replace HX := Lib.hid (HX.out.next hb)
  replace HY := Lib.hid (HY.out.next hb)
  replace HW := Lib.hid (HW.out.trans (hb.mono HW.out.size))
  replace HE := Lib.hid (HE.out.next hb)
  clear hb
  go_wp2_with (first | (refine wpList_dst 26 rfl ?_; refine wpList_runG 26 rfl rfl _ (exec_load 23 (.tmp 4) rfl _ (.agg #[.bool y.neg, .string y.n, .string y.d]) rfl (run_load_part _ 23 _ 0 3 _ [.bool y.neg, .string y.n, .string y.d] _ HY.out (by simp) Tryz.underlying23 rfl size_api_Rat)) ?_; go_frame))
  refine (F27.out _).mono ?_
  rintro e w4 ⟨rfl, hb⟩
  replace HX := Lib.hid (HX.out.next hb)
  replace HY := Lib.hid (HY.out.next hb)
  replace HW := Lib.hid (HW.out.trans (hb.mono HW.out.size))
  replace HE := Lib.hid (HE.out.next hb)
  clear hb
  go_wp2_with fail
  refine ((qsanity_any _ HE.out)).mono ?_
  rintro e w5 ⟨rfl, hb⟩
  replace HX := Lib.hid (HX.out.next hb)
  replace HY := Lib.hid (HY.out.next hb)
  replace HW := Lib.hid (HW.out.trans (hb.mono HW.out.size))
  replace HE := Lib.hid (HE.out.next hb)
  clear hb
  go_wp2_with fail
  go_ret
  exact ⟨rfl, HW.out⟩
set_option maxRecDepth 100000 in
set_option maxHeartbeats 800000 in
theorem bk_out4 (x y : Rv) (s : ByteArray) (w : World) (hE : Env w) (hs : 400 < s.size) (hs2 : s.size ≤ 9223372036854775807) (h13 : (∀ W, Calls Tryz.prog 8 #[.agg #[.bool x.neg, .string x.n, .string x.d], .int .i64 40] W fun e w' => e = .returned (.bool true) ∧ Below W.heap.size W w')) (h17 : (∀ W, Calls Tryz.prog 8 #[.agg #[.bool y.neg, .string y.n, .string y.d], .int .i64 40] W fun e w' => e = .returned (.bool true) ∧ Below W.heap.size W w')) (h22 : (∀ W, Calls Tryz.prog 19 #[.agg #[.bool x.neg, .string x.n, .string x.d]] W fun e w' => e = .returned (.bool true) ∧ Below W.heap.size W w')) (h27 : (∀ W, Calls Tryz.prog 19 #[.agg #[.bool y.neg, .string y.n, .string y.d]] W fun e w' => e = .returned (.bool true) ∧ Below W.heap.size W w')) : Calls Tryz.prog 7 #[.agg #[.bool x.neg, .string x.n, .string x.d], .agg #[.bool y.neg, .string y.n, .string y.d], .string s] w fun e w' => e = .returned (.bool true) ∧ Below w.heap.size w w' := by
  obtain ⟨W0, hW0⟩ : ∃ W, W = (w.alloc (.cells #[.bool x.neg, .string x.n, .string x.d] 23)).alloc (.cells #[.bool y.neg, .string y.n, .string y.d] 23) := ⟨_, rfl⟩
  have hk := two_vars w 23 23 [.bool x.neg, .string x.n, .string x.d] [.bool y.neg, .string y.n, .string y.d]
  have HX : Hid (Blk W0 w.heap.size 23 [.bool x.neg, .string x.n, .string x.d]) := Lib.hid (by rw [hW0]; exact hk.1)
  have HY : Hid (Blk W0 (w.heap.size + 1) 23 [.bool y.neg, .string y.n, .string y.d]) := Lib.hid (by rw [hW0]; exact hk.2.1)
  have HW : Hid (Below w.heap.size w W0) := Lib.hid (by rw [hW0]; exact hk.2.2)
  have HE := Lib.hid (hE.next HW.out)
  clear hk hE
  have i1 : decide (400 < s.size) = true := decide_eq_true hs
  have i2 : decide ((400 : Int) < (s.size : Int)) = true := decide_eq_true (by omega)
  clear hs
  have F13 := Lib.hid h13
  have F17 := Lib.hid h17
  have F22 := Lib.hid h22
  have F27 := Lib.hid h27
  clear h13 h17 h22 h27
  go_enter Tryz.func7, Tryz.ntmps7
  go_wp2_with fail
  try rw [← hW0]
  clear hW0
  go_wp2_with (first | (refine wpList_dst 12 rfl ?_; refine wpList_run 12 rfl rfl _ (exec_load 23 (.tmp 3) rfl _ (.agg #[.bool x.neg, .string x.n, .string x.d]) rfl (run_load_part _ 23 _ 0 3 _ [.bool x.neg, .string x.n, .string x.d] _ HX.out (by simp) Tryz.underlying23 rfl size_api_Rat)) ?_; go_frame))
  refine (F13.out _).mono ?_
  rintro e w1 ⟨rfl, hb⟩
  replace HX := Lib.hid (HX.out.next hb)
  replace HY := Lib.hid (HY.out.next hb)
  replace HW := Lib.hid (HW.out.trans (hb.mono HW.out.size))
  replace HE := Lib.hid (HE.out.next hb)
  clear hb
  go_wp2_with (first | (refine wpList_dst 16 rfl ?_; refine wpList_runG 16 rfl rfl _ (exec_load 23 (.tmp 4) rfl _ (.agg #[.bool y.neg, .string y.n, .string y.d]) rfl (run_load_part _ 23 _ 0 3 _ [.bool y.neg, .string y.n, .string y.d] _ HY.out (by simp) Tryz.underlying23 rfl size_api_Rat)) ?_; go_frame))
  refine (F17.out _).mono ?_
  rintro e w2 ⟨rfl, hb⟩
  replace HX := Lib.hid (HX.out.next hb)
  replace HY := Lib.hid (HY.out.next hb)
  replace HW := Lib.hid (HW.out.trans (hb.mono HW.out.size))
  replace HE := Lib.hid (HE.out.next hb)
  clear hb
  go_wp2_with (first | (refine wpList_dst 21 rfl ?_; refine wpList_runG 21 rfl rfl _ (exec_load 23 (.tmp 3) rfl _ (.agg #[.bool x.neg, .string x.n, .string x.d]) rfl (run_load_part _ 23 _ 0 3 _ [.bool x.neg, .string x.n, .string x.d] _ HX.out (by simp) Tryz.underlying23 rfl size_api_Rat)) ?_; go_frame))
  refine (F22.out _).mono ?_
  rintro e w3 ⟨rfl, hb⟩
  replace HX := Lib.hid (HX.out.next hb)
  replace HY := Lib.hid (HY.out.next hb)
  replace HW := Lib.hid (HW.out.trans (hb.mono HW.out.size))
  replace HE := Lib.hid (HE.out.next hb)
  clear hb
  go_wp2_with (first | (refine wpList_dst 26 rfl ?_; refine wpList_runG 26 rfl rfl _ (exec_load 23 (.tmp 4) rfl _ (.agg #[.bool y.neg, .string y.n, .string y.d]) rfl (run_load_part _ 23 _ 0 3 _ [.bool y.neg, .string y.n, .string y.d] _ HY.out (by simp) Tryz.underlying23 rfl size_api_Rat)) ?_; go_frame))
  refine (F27.out _).mono ?_
  rintro e w4 ⟨rfl, hb⟩
  replace HX := Lib.hid (HX.out.next hb)
  replace HY := Lib.hid (HY.out.next hb)
  replace HW := Lib.hid (HW.out.trans (hb.mono HW.out.size))
  replace HE := Lib.hid (HE.out.next hb)
  clear hb
  go_wp2_with fail
  refine ((qsanity_any _ HE.out)).mono ?_
  rintro e w5 ⟨rfl, hb⟩
  replace HX := Lib.hid (HX.out.next hb)
  replace HY := Lib.hid (HY.out.next hb)
  replace HW := Lib.hid (HW.out.trans (hb.mono HW.out.size))
  replace HE := Lib.hid (HE.out.next hb)
  clear hb
  go_wp2_with fail
  go_ret
  exact ⟨rfl, HW.out⟩
set_option maxRecDepth 100000 in
set_option maxHeartbeats 2000000 in
theorem bk_yes (x y z : Rv) (s tx ty : ByteArray) (B : Bool) (w : World) (hE : Env w) (hs : s.size ≤ 400) (h59 : decide (tx = ty) = B) (h62 : decide (x = y) = B) (h13 : (∀ W, Calls Tryz.prog 8 #[.agg #[.bool x.neg, .string x.n, .string x.d], .int .i64 40] W fun e w' => e = .returned (.bool true) ∧ Below W.heap.size W w')) (h17 : (∀ W, Calls Tryz.prog 8 #[.agg #[.bool y.neg, .string y.n, .string y.d], .int .i64 40] W fun e w' => e = .returned (.bool true) ∧ Below W.heap.size W w')) (h22 : (∀ W, Calls Tryz.prog 19 #[.agg #[.bool x.neg, .string x.n, .string x.d]] W fun e w' => e = .returned (.bool true) ∧ Below W.heap.size W w')) (h27 : (∀ W, Calls Tryz.prog 19 #[.agg #[.bool y.neg, .string y.n, .string y.d]] W fun e w' => e = .returned (.bool true) ∧ Below W.heap.size W w')) (h37 : (∀ W, Env W → Calls Tryz.prog 36 #[.agg #[.bool x.neg, .string x.n, .string x.d]] W fun e w' => e = .returned (.string tx) ∧ Below W.heap.size W w')) (h40 : (∀ W, Env W → Calls Tryz.prog 38 #[.string tx] W fun e w' => e = .returned (.tuple #[.agg #[.bool x.neg, .string x.n, .string x.d], .int .i64 0]) ∧ Below W.heap.size W w')) (h45 : (∀ W, Env W → Calls Tryz.prog 38 #[.string s] W fun e w' => e = .returned (.tuple #[.agg #[.bool z.neg, .string z.n, .string z.d], .int .i64 0]) ∧ Below W.heap.size W w')) (h58 : (∀ W, Env W → Calls Tryz.prog 36 #[rv y] W fun e w' => e = .returned (.string ty) ∧ Below W.heap.size W w')) (h80 : (∀ W, Env W → Calls Tryz.prog 36 #[.agg #[.bool z.neg, .string z.n, .string z.d]] W fun e w' => e = .returned (.string s) ∧ Below W.heap.size W w')) (h86 : (∀ W, Calls Tryz.prog 18 #[.agg #[.bool z.neg, .string z.n, .string z.d]] W fun e w' => e = .returned (.bool true) ∧ Below W.heap.size W w')) : Calls Tryz.prog 7 #[.agg #[.bool x.neg, .string x.n, .string x.d], .agg #[.bool y.neg, .string y.n, .string y.d], .string s] w fun e w' => e = .returned (.bool true) ∧ Below w.heap.size w w' := by
  obtain ⟨W0, hW0⟩ : ∃ W, W = (w.alloc (.cells #[.bool x.neg, .string x.n, .string x.d] 23)).alloc (.cells #[.bool y.neg, .string y.n, .string y.d] 23) := ⟨_, rfl⟩
  have hk := two_vars w 23 23 [.bool x.neg, .string x.n, .string x.d] [.bool y.neg, .string y.n, .string y.d]
  have HX : Hid (Blk W0 w.heap.size 23 [.bool x.neg, .string x.n, .string x.d]) := Lib.hid (by rw [hW0]; exact hk.1)
  have HY : Hid (Blk W0 (w.heap.size + 1) 23 [.bool y.neg, .string y.n, .string y.d]) := Lib.hid (by rw [hW0]; exact hk.2.1)
  have HW : Hid (Below w.heap.size w W0) := Lib.hid (by rw [hW0]; exact hk.2.2)
  have HE := Lib.hid (hE.next HW.out)
  clear hk hE
  have i1 : decide (400 < s.size) = false := decide_eq_false (by omega)
  have i2 : decide ((400 : Int) < (s.size : Int)) = false := decide_eq_false (by omega)
  have H59 := Lib.hid (fun W => run_eqS tx ty B h59 W)
  have H62 := Lib.hid (fun W => run_neR x y B h62 W)
  have F13 := Lib.hid h13
  have F17 := Lib.hid h17
  have F22 := Lib.hid h22
  have F27 := Lib.hid h27
  have F37 := Lib.hid h37
  have F40 := Lib.hid h40
  have F45 := Lib.hid h45
  have F58 := Lib.hid h58
  have F80 := Lib.hid h80
  have F86 := Lib.hid h86
  clear hs h59 h62 h13 h17 h22 h27 h37 h40 h45 h58 h80 h86
  go_enter Tryz.func7, Tryz.ntmps7
  go_wp2_with fail
  try rw [← hW0]
  clear hW0
  go_wp2_with (first | (refine wpList_dst 12 rfl ?_; refine wpList_run 12 rfl rfl _ (exec_load 23 (.tmp 3) rfl _ (.agg #[.bool x.neg, .string x.n, .string x.d]) rfl (run_load_part _ 23 _ 0 3 _ [.bool x.neg, .string x.n, .string x.d] _ HX.out (by simp) Tryz.underlying23 rfl size_api_Rat)) ?_; go_frame))
  refine (F13.out _).mono ?_
  rintro e w1 ⟨rfl, hb⟩
  replace HX := Lib.hid (HX.out.next hb)
  replace HY := Lib.hid (HY.out.next hb)
  replace HW := Lib.hid (HW.out.trans (hb.mono HW.out.size))
  replace HE := Lib.hid (HE.out.next hb)
  clear hb
  go_wp2_with (first | (refine wpList_dst 16 rfl ?_; refine wpList_runG 16 rfl rfl _ (exec_load 23 (.tmp 4) rfl _ (.agg #[.bool y.neg, .string y.n, .string y.d]) rfl (run_load_part _ 23 _ 0 3 _ [.bool y.neg, .string y.n, .string y.d] _ HY.out (by simp) Tryz.underlying23 rfl size_api_Rat)) ?_; go_frame))
  refine (F17.out _).mono ?_
  rintro e w2 ⟨rfl, hb⟩
  replace HX := Lib.hid (HX.out.next hb)
  replace HY := Lib.hid (HY.out.next hb)
  replace HW := Lib.hid (HW.out.trans (hb.mono HW.out.size))
  replace HE := Lib.hid (HE.out.next hb)
  clear hb
  go_wp2_with (first | (refine wpList_dst 21 rfl ?_; refine wpList_runG 21 rfl rfl _ (exec_load 23 (.tmp 3) rfl _ (.agg #[.bool x.neg, .string x.n, .string x.d]) rfl (run_load_part _ 23 _ 0 3 _ [.bool x.neg, .string x.n, .string x.d] _ HX.out (by simp) Tryz.underlying23 rfl size_api_Rat)) ?_; go_frame))
  refine (F22.out _).mono ?_
  rintro e w3 ⟨rfl, hb⟩
  replace HX := Lib.hid (HX.out.next hb)
  replace HY := Lib.hid (HY.out.next hb)
  replace HW := Lib.hid (HW.out.trans (hb.mono HW.out.size))
  replace HE := Lib.hid (HE.out.next hb)
  clear hb
  go_wp2_with (first | (refine wpList_dst 26 rfl ?_; refine wpList_runG 26 rfl rfl _ (exec_load 23 (.tmp 4) rfl _ (.agg #[.bool y.neg, .string y.n, .string y.d]) rfl (run_load_part _ 23 _ 0 3 _ [.bool y.neg, .string y.n, .string y.d] _ HY.out (by simp) Tryz.underlying23 rfl size_api_Rat)) ?_; go_frame))
  refine (F27.out _).mono ?_
  rintro e w4 ⟨rfl, hb⟩
  replace HX := Lib.hid (HX.out.next hb)
  replace HY := Lib.hid (HY.out.next hb)
  replace HW := Lib.hid (HW.out.trans (hb.mono HW.out.size))
  replace HE := Lib.hid (HE.out.next hb)
  clear hb
  go_wp2_with (first | (refine wpList_dst 36 rfl ?_; refine wpList_run 36 rfl rfl _ (exec_load 23 (.tmp 3) rfl _ (.agg #[.bool x.neg, .string x.n, .string x.d]) rfl (run_load_part _ 23 _ 0 3 _ [.bool x.neg, .string x.n, .string x.d] _ HX.out (by simp) Tryz.underlying23 rfl size_api_Rat)) ?_; go_frame))
  refine (F37.out _ HE.out).mono ?_
  rintro e w5 ⟨rfl, hb⟩
  replace HX := Lib.hid (HX.out.next hb)
  replace HY := Lib.hid (HY.out.next hb)
  replace HW := Lib.hid (HW.out.trans (hb.mono HW.out.size))
  replace HE := Lib.hid (HE.out.next hb)
  clear hb
  go_wp2_with fail
  refine (F40.out _ HE.out).mono ?_
  rintro e w6 ⟨rfl, hb⟩
  replace HX := Lib.hid (HX.out.next hb)
  replace HY := Lib.hid (HY.out.next hb)
  replace HW := Lib.hid (HW.out.trans (hb.mono HW.out.size))
  replace HE := Lib.hid (HE.out.next hb)
  clear hb
  go_wp2_with (first | (refine wpList_var rfl rfl 23 8 rfl rfl rfl (.tmp 41) rfl [.bool false, .string ByteArray.empty, .string ByteArray.empty] [.bool x.neg, .string x.n, .string x.d] zero_api_Rat rfl rfl rfl size_api_Rat (List.forall_mem_cons.2 ⟨rfl, (List.forall_mem_cons.2 ⟨rfl, (List.forall_mem_cons.2 ⟨rfl, fun _ h => nomatch h⟩)⟩)⟩) ?_; intro w7 HA8 HBw; replace HX := Lib.hid (HX.out.next HBw.out); replace HY := Lib.hid (HY.out.next HBw.out); replace HW := Lib.hid (HW.out.trans (HBw.out.mono HW.out.size)); replace HE := Lib.hid (HE.out.next HBw.out); clear HBw))
  refine (F45.out _ HE.out).mono ?_
  rintro e w8 ⟨rfl, hb⟩
  replace HX := Lib.hid (HX.out.next hb)
  replace HY := Lib.hid (HY.out.next hb)
  replace HW := Lib.hid (HW.out.trans (hb.mono HW.out.size))
  replace HE := Lib.hid (HE.out.next hb)
  replace HA8 := Lib.hid (HA8.out.next hb)
  clear hb
  go_wp2_with (first | (refine wpList_var rfl rfl 23 10 rfl rfl rfl (.tmp 46) rfl [.bool false, .string ByteArray.empty, .string ByteArray.empty] [.bool z.neg, .string z.n, .string z.d] zero_api_Rat rfl rfl rfl size_api_Rat (List.forall_mem_cons.2 ⟨rfl, (List.forall_mem_cons.2 ⟨rfl, (List.forall_mem_cons.2 ⟨rfl, fun _ h => nomatch h⟩)⟩)⟩) ?_; intro w9 HA10 HBw; replace HX := Lib.hid (HX.out.next HBw.out); replace HY := Lib.hid (HY.out.next HBw.out); replace HW := Lib.hid (HW.out.trans (HBw.out.mono HW.out.size)); replace HE := Lib.hid (HE.out.next HBw.out); replace HA8 := Lib.hid (HA8.out.next HBw.out); clear HBw))
  obtain ⟨g8, hg8⟩ : ∃ g, g = w6.heap.size := ⟨_, rfl⟩
  rw [← hg8] at HA8 ⊢
  clear hg8
  obtain ⟨g10, hg10⟩ : ∃ g, g = w8.heap.size := ⟨_, rfl⟩
  rw [← hg10] at HA10 ⊢
  clear hg10
  refine late_begin (S := fun _ W => Blk W w.heap.size 23 [.bool x.neg, .string x.n, .string x.d] ∧ Blk W (w.heap.size + 1) 23 [.bool y.neg, .string y.n, .string y.d] ∧ Blk W g8 23 [.bool x.neg, .string x.n, .string x.d]) (by kernel_rfl) ?_
  have hX0 := HX.out.drew
  have hY0 := HY.out.drew
  have hW0 := HW.out.drew
  have hE0 := HE.out.next (Below.refl _ _).drew
  have hA80 := HA8.out.drew
  have hA100 := HA10.out.drew
  generalize w9.drew = u0 at hX0 hY0 hW0 hE0 hA80 hA100 ⊢
  clear HX HY HW HE HA8 HA10
  refine late_take [] (i := 0) (some 48) rfl rfl (by first | rfl | kernel_rfl) (by kernel_rfl) (by kernel_rfl) (by kernel_rfl) (by kernel_rfl) (by kernel_rfl) (fun Ls W h => h) (.int .i64 0) (fun _ _ _ h => h) (fun Ls W hl0 hW => exec_move (.tmp 9) rfl _ rfl) ⟨hX0, hY0, hA80⟩ ⟨hX0, hY0, hA80⟩ ?_
  go_frame
  refine late_take [] (i := 1) (some 49) rfl rfl (by first | rfl | kernel_rfl) (by kernel_rfl) (by kernel_rfl) (by kernel_rfl) (by kernel_rfl) (by kernel_rfl) (fun Ls W h => h) (.bool false) (fun _ _ _ h => h) (fun Ls W hl0 hW => exec_neqT _ _ _ _ rfl .i64 (0) rfl rfl) ⟨hX0, hY0, hA80⟩ ⟨hX0, hY0, hA80⟩ ?_
  go_frame
  refine late_take [] (i := 2) (some 50) rfl rfl (by first | rfl | kernel_rfl) (by kernel_rfl) (by kernel_rfl) (by kernel_rfl) (by kernel_rfl) (by kernel_rfl) (fun Ls W h => h) (.bool false) (fun _ _ _ h => h) (fun Ls W hl0 hW => exec_move (.tmp 49) rfl _ rfl) ⟨hX0, hY0, hA80⟩ ⟨hX0, hY0, hA80⟩ ?_
  go_frame
  refine late_take [] (i := 3) (some 51) rfl rfl (by first | rfl | kernel_rfl) (by kernel_rfl) (by kernel_rfl) (by kernel_rfl) (by kernel_rfl) (by kernel_rfl) (fun Ls W h => h) (rv x) (fun _ _ _ h => h) (fun Ls W hl0 hW => exec_load 23 (.tmp 8) rfl _ (rv x) rfl (run_load_part W 23 _ 0 3 _ [.bool x.neg, .string x.n, .string x.d] _ hW.2.2 (by simp) Tryz.underlying23 rfl size_api_Rat)) ⟨hX0, hY0, hA80⟩ ⟨hX0, hY0, hA80⟩ ?_
  go_frame
  refine late_take [] (i := 4) (some 52) rfl rfl (by first | rfl | kernel_rfl) (by kernel_rfl) (by kernel_rfl) (by kernel_rfl) (by kernel_rfl) (by kernel_rfl) (fun Ls W h => h) (rv x) (fun _ _ _ h => h) (fun Ls W hl0 hW => exec_load 23 (.tmp 3) rfl _ (rv x) rfl (run_load_part W 23 _ 0 3 _ [.bool x.neg, .string x.n, .string x.d] _ hW.1 (by simp) Tryz.underlying23 rfl size_api_Rat)) ⟨hX0, hY0, hA80⟩ ⟨hX0, hY0, hA80⟩ ?_
  go_frame
  refine late_take [] (i := 5) (some 53) rfl rfl (by first | rfl | kernel_rfl) (by kernel_rfl) (by kernel_rfl) (by kernel_rfl) (by kernel_rfl) (by kernel_rfl) (fun Ls W h => h) (.bool false) (fun _ _ _ h => h) (fun Ls W hl0 hW => exec_bin .neq 23 _ _ _ rfl (rv x) (rv x) _ rfl rfl (rat_guardN _ _ _ _ _) (run_sameR x _)) ⟨hX0, hY0, hA80⟩ ⟨hX0, hY0, hA80⟩ ?_
  go_frame
  refine late_take [] (i := 6) (some 54) rfl rfl (by first | rfl | kernel_rfl) (by kernel_rfl) (by kernel_rfl) (by kernel_rfl) (by kernel_rfl) (by kernel_rfl) (fun Ls W h => h) (.bool false) (fun _ _ _ h => h) (fun Ls W hl0 hW => exec_pickF _ _ _ rfl (.bool false) rfl rfl) ⟨hX0, hY0, hA80⟩ ⟨hX0, hY0, hA80⟩ ?_
  go_frame
  refine late_take [] (i := 7) (some 55) rfl rfl (by first | rfl | kernel_rfl) (by kernel_rfl) (by kernel_rfl) (by kernel_rfl) (by kernel_rfl) (by kernel_rfl) (fun Ls W h => h) (.bool false) (fun _ _ _ h => h) (fun Ls W hl0 hW => exec_move (.tmp 54) rfl _ rfl) ⟨hX0, hY0, hA80⟩ ⟨hX0, hY0, hA80⟩ ?_
  go_frame
  refine late_take [] (i := 8) (some 56) rfl rfl (by first | rfl | kernel_rfl) (by kernel_rfl) (by kernel_rfl) (by kernel_rfl) (by kernel_rfl) (by kernel_rfl) (fun Ls W h => h) (.string tx) (fun _ _ _ h => h) (fun Ls W hl0 hW => exec_move (.tmp 7) rfl _ rfl) ⟨hX0, hY0, hA80⟩ ⟨hX0, hY0, hA80⟩ ?_
  go_frame
  refine late_take [] (i := 9) (some 57) rfl rfl (by first | rfl | kernel_rfl) (by kernel_rfl) (by kernel_rfl) (by kernel_rfl) (by kernel_rfl) (by kernel_rfl) (fun Ls W h => h) (rv y) (fun _ _ _ h => h) (fun Ls W hl0 hW => exec_load 23 (.tmp 4) rfl _ (rv y) rfl (run_load_part W 23 _ 0 3 _ [.bool y.neg, .string y.n, .string y.d] _ hW.2.1 (by simp) Tryz.underlying23 rfl size_api_Rat)) ⟨hX0, hY0, hA80⟩ ⟨hX0, hY0, hA80⟩ ?_
  go_frame
  refine late_take [] (i := 12) (some 60) rfl rfl (by first | rfl | kernel_rfl) (by kernel_rfl) (by kernel_rfl) (by kernel_rfl) (by kernel_rfl) (by kernel_rfl) (fun Ls W h => h) (rv x) (fun _ _ _ h => h) (fun Ls W hl0 hW => exec_load 23 (.tmp 3) rfl _ (rv x) rfl (run_load_part W 23 _ 0 3 _ [.bool x.neg, .string x.n, .string x.d] _ hW.1 (by simp) Tryz.underlying23 rfl size_api_Rat)) ⟨hX0, hY0, hA80⟩ ⟨hX0, hY0, hA80⟩ ?_
  go_frame
  refine late_take [] (i := 13) (some 61) rfl rfl (by first | rfl | kernel_rfl) (by kernel_rfl) (by kernel_rfl) (by kernel_rfl) (by kernel_rfl) (by kernel_rfl) (fun Ls W h => h) (rv y) (fun _ _ _ h => h) (fun Ls W hl0 hW => exec_load 23 (.tmp 4) rfl _ (rv y) rfl (run_load_part W 23 _ 0 3 _ [.bool y.neg, .string y.n, .string y.d] _ hW.2.1 (by simp) Tryz.underlying23 rfl size_api_Rat)) ⟨hX0, hY0, hA80⟩ ⟨hX0, hY0, hA80⟩ ?_
  go_frame
  refine late_take [] (i := 14) (some 62) rfl rfl (by first | rfl | kernel_rfl) (by kernel_rfl) (by kernel_rfl) (by kernel_rfl) (by kernel_rfl) (by kernel_rfl) (fun Ls W h => h) (.bool B) (fun _ _ _ h => h) (fun Ls W hl0 hW => exec_bin .eql 23 _ _ _ rfl (rv x) (rv y) _ rfl rfl (rat_guard _ _ _ _ _) (H62.out _)) ⟨hX0, hY0, hA80⟩ ⟨hX0, hY0, hA80⟩ ?_
  go_frame
  refine late_one (i := 10) (by kernel_rfl) (op_callG (some 58) rfl rfl (by first | rfl | kernel_rfl) rfl Tryz.func36 (by kernel_rfl) (by kernel_rfl) #[rv y] rfl (F58.out u0 hE0) ?_)
  rintro e u1 ⟨rfl, hb⟩
  have hX1 := hX0.next hb
  have hY1 := hY0.next hb
  have hW1 := hW0.trans (hb.mono hW0.size)
  have hE1 := hE0.next hb
  have hA81 := hA80.next hb
  have hA101 := hA100.next hb
  refine ⟨_, rfl, ⟨hX1, hY1, hA81⟩, ?_⟩
  go_frame
  clear hX0 hY0 hW0 hE0 hA80 hA100 hb
  refine late_take [] (i := 11) (some 59) rfl rfl (by first | rfl | kernel_rfl) (by kernel_rfl) (by kernel_rfl) (by kernel_rfl) (by kernel_rfl) (by kernel_rfl) (fun Ls W h => h) (.bool B) (fun _ _ _ h => h) (fun Ls W hl0 hW => exec_bin .eql 9 _ _ _ rfl (.string tx) (.string ty) _ rfl rfl rfl (H59.out _)) ⟨hX1, hY1, hA81⟩ ⟨hX1, hY1, hA81⟩ ?_
  go_frame
  refine late_take [] (i := 15) (some 63) rfl rfl (by first | rfl | kernel_rfl) (by kernel_rfl) (by kernel_rfl) (by kernel_rfl) (by kernel_rfl) (by kernel_rfl) (fun Ls W h => h) (.bool false) (fun _ _ _ h => h) (fun Ls W hl0 hW => exec_bin .neq 4 _ _ _ rfl (.bool B) (.bool B) _ rfl rfl (bool_guard_neq _ _ _ _) (run_bsame_neq _ _)) ⟨hX1, hY1, hA81⟩ ⟨hX1, hY1, hA81⟩ ?_
  go_frame
  refine late_take [] (i := 16) (some 64) rfl rfl (by first | rfl | kernel_rfl) (by kernel_rfl) (by kernel_rfl) (by kernel_rfl) (by kernel_rfl) (by kernel_rfl) (fun Ls W h => h) (.bool false) (fun _ _ _ h => h) (fun Ls W hl0 hW => exec_pickF _ _ _ rfl (.bool false) rfl rfl) ⟨hX1, hY1, hA81⟩ ⟨hX1, hY1, hA81⟩ ?_
  refine late_done (by kernel_rfl) ?_ _
  go_frame
  have HX := Lib.hid hX1
  have HY := Lib.hid hY1
  have HW := Lib.hid hW1
  have HE := Lib.hid hE1
  have HA8 := Lib.hid hA81
  have HA10 := Lib.hid hA101
  clear hX1 hY1 hW1 hE1 hA81 hA101
  clear HX HY HA8
  go_wp2_with fail
  refine ((qsanity_any _ HE.out)).mono ?_
  rintro e w10 ⟨rfl, hb⟩
  replace HW := Lib.hid (HW.out.trans (hb.mono HW.out.size))
  replace HE := Lib.hid (HE.out.next hb)
  replace HA10 := Lib.hid (HA10.out.next hb)
  clear hb
  go_wp2_with (first | (refine wpList_dst 79 rfl ?_; refine wpList_runG 79 rfl rfl _ (exec_load 23 (.tmp 10) rfl _ (.agg #[.bool z.neg, .string z.n, .string z.d]) rfl (run_load_part _ 23 _ 0 3 _ [.bool z.neg, .string z.n, .string z.d] _ HA10.out (by simp) Tryz.underlying23 rfl size_api_Rat)) ?_; go_frame))
  refine (F80.out _ HE.out).mono ?_
  rintro e w11 ⟨rfl, hb⟩
  replace HW := Lib.hid (HW.out.trans (hb.mono HW.out.size))
  replace HE := Lib.hid (HE.out.next hb)
  replace HA10 := Lib.hid (HA10.out.next hb)
  clear hb
  go_wp2_with (first | (refine wpList_dst 82 rfl ?_; refine wpList_runG 82 rfl rfl _ (exec_bin .eql 9 _ (.tmp 80) (.tmp 81) rfl _ _ _ rfl rfl rfl (run_eqS s s true (decide_eq_true rfl) _)) ?_; go_frame) | (refine wpList_dst 85 rfl ?_; refine wpList_runG 85 rfl rfl _ (exec_load 23 (.tmp 10) rfl _ (.agg #[.bool z.neg, .string z.n, .string z.d]) rfl (run_load_part _ 23 _ 0 3 _ [.bool z.neg, .string z.n, .string z.d] _ HA10.out (by simp) Tryz.underlying23 rfl size_api_Rat)) ?_; go_frame))
  refine (F86.out _).mono ?_
  rintro e w12 ⟨rfl, hb⟩
  replace HW := Lib.hid (HW.out.trans (hb.mono HW.out.size))
  replace HE := Lib.hid (HE.out.next hb)
  replace HA10 := Lib.hid (HA10.out.next hb)
  clear hb
  go_wp2_with fail
  go_ret
  exact ⟨rfl, HW.out⟩
set_option maxRecDepth 100000 in
set_option maxHeartbeats 2000000 in
theorem bk_no (x y : Rv) (s tx ty : ByteArray) (B : Bool) (w : World) (hE : Env w) (hs : s.size ≤ 400) (h59 : decide (tx = ty) = B) (h62 : decide (x = y) = B) (h13 : (∀ W, Calls Tryz.prog 8 #[.agg #[.bool x.neg, .string x.n, .string x.d], .int .i64 40] W fun e w' => e = .returned (.bool true) ∧ Below W.heap.size W w')) (h17 : (∀ W, Calls Tryz.prog 8 #[.agg #[.bool y.neg, .string y.n, .string y.d], .int .i64 40] W fun e w' => e = .returned (.bool true) ∧ Below W.heap.size W w')) (h22 : (∀ W, Calls Tryz.prog 19 #[.agg #[.bool x.neg, .string x.n, .string x.d]] W fun e w' => e = .returned (.bool true) ∧ Below W.heap.size W w')) (h27 : (∀ W, Calls Tryz.prog 19 #[.agg #[.bool y.neg, .string y.n, .string y.d]] W fun e w' => e = .returned (.bool true) ∧ Below W.heap.size W w')) (h37 : (∀ W, Env W → Calls Tryz.prog 36 #[.agg #[.bool x.neg, .string x.n, .string x.d]] W fun e w' => e = .returned (.string tx) ∧ Below W.heap.size W w')) (h40 : (∀ W, Env W → Calls Tryz.prog 38 #[.string tx] W fun e w' => e = .returned (.tuple #[.agg #[.bool x.neg, .string x.n, .string x.d], .int .i64 0]) ∧ Below W.heap.size W w')) (h45 : (∀ W, Env W → Calls Tryz.prog 38 #[.string s] W fun e w' => e = .returned (.tuple #[.agg #[.bool false, .string ⟨#[]⟩, .string ⟨#[]⟩], .int .i64 27]) ∧ Below W.heap.size W w')) (h58 : (∀ W, Env W → Calls Tryz.prog 36 #[rv y] W fun e w' => e = .returned (.string ty) ∧ Below W.heap.size W w')) : Calls Tryz.prog 7 #[.agg #[.bool x.neg, .string x.n, .string x.d], .agg #[.bool y.neg, .string y.n, .string y.d], .string s] w fun e w' => e = .returned (.bool true) ∧ Below w.heap.size w w' := by
  obtain ⟨W0, hW0⟩ : ∃ W, W = (w.alloc (.cells #[.bool x.neg, .string x.n, .string x.d] 23)).alloc (.cells #[.bool y.neg, .string y.n, .string y.d] 23) := ⟨_, rfl⟩
  have hk := two_vars w 23 23 [.bool x.neg, .string x.n, .string x.d] [.bool y.neg, .string y.n, .string y.d]
  have HX : Hid (Blk W0 w.heap.size 23 [.bool x.neg, .string x.n, .string x.d]) := Lib.hid (by rw [hW0]; exact hk.1)
  have HY : Hid (Blk W0 (w.heap.size + 1) 23 [.bool y.neg, .string y.n, .string y.d]) := Lib.hid (by rw [hW0]; exact hk.2.1)
  have HW : Hid (Below w.heap.size w W0) := Lib.hid (by rw [hW0]; exact hk.2.2)
  have HE := Lib.hid (hE.next HW.out)
  clear hk hE
  have i1 : decide (400 < s.size) = false := decide_eq_false (by omega)
  have i2 : decide ((400 : Int) < (s.size : Int)) = false := decide_eq_false (by omega)
  have H59 := Lib.hid (fun W => run_eqS tx ty B h59 W)
  have H62 := Lib.hid (fun W => run_neR x y B h62 W)
  have F13 := Lib.hid h13
  have F17 := Lib.hid h17
  have F22 := Lib.hid h22
  have F27 := Lib.hid h27
  have F37 := Lib.hid h37
  have F40 := Lib.hid h40
  have F45 := Lib.hid h45
  have F58 := Lib.hid h58
  clear hs h59 h62 h13 h17 h22 h27 h37 h40 h45 h58
  go_enter Tryz.func7, Tryz.ntmps7
  go_wp2_with fail
  try rw [← hW0]
  clear hW0
  go_wp2_with (first | (refine wpList_dst 12 rfl ?_; refine wpList_run 12 rfl rfl _ (exec_load 23 (.tmp 3) rfl _ (.agg #[.bool x.neg, .string x.n, .string x.d]) rfl (run_load_part _ 23 _ 0 3 _ [.bool x.neg, .string x.n, .string x.d] _ HX.out (by simp) Tryz.underlying23 rfl size_api_Rat)) ?_; go_frame))
  refine (F13.out _).mono ?_
  rintro e w1 ⟨rfl, hb⟩
  replace HX := Lib.hid (HX.out.next hb)
  replace HY := Lib.hid (HY.out.next hb)
  replace HW := Lib.hid (HW.out.trans (hb.mono HW.out.size))
  replace HE := Lib.hid (HE.out.next hb)
  clear hb
  go_wp2_with (first | (refine wpList_dst 16 rfl ?_; refine wpList_runG 16 rfl rfl _ (exec_load 23 (.tmp 4) rfl _ (.agg #[.bool y.neg, .string y.n, .string y.d]) rfl (run_load_part _ 23 _ 0 3 _ [.bool y.neg, .string y.n, .string y.d] _ HY.out (by simp) Tryz.underlying23 rfl size_api_Rat)) ?_; go_frame))
  refine (F17.out _).mono ?_
  rintro e w2 ⟨rfl, hb⟩
  replace HX := Lib.hid (HX.out.next hb)
  replace HY := Lib.hid (HY.out.next hb)
  replace HW := Lib.hid (HW.out.trans (hb.mono HW.out.size))
  replace HE := Lib.hid (HE.out.next hb)
  clear hb
  go_wp2_with (first | (refine wpList_dst 21 rfl ?_; refine wpList_runG 21 rfl rfl _ (exec_load 23 (.tmp 3) rfl _ (.agg #[.bool x.neg, .string x.n, .string x.d]) rfl (run_load_part _ 23 _ 0 3 _ [.bool x.neg, .string x.n, .string x.d] _ HX.out (by simp) Tryz.underlying23 rfl size_api_Rat)) ?_; go_frame))
  refine (F22.out _).mono ?_
  rintro e w3 ⟨rfl, hb⟩
  replace HX := Lib.hid (HX.out.next hb)
  replace HY := Lib.hid (HY.out.next hb)
  replace HW := Lib.hid (HW.out.trans (hb.mono HW.out.size))
  replace HE := Lib.hid (HE.out.next hb)
  clear hb
  go_wp2_with (first | (refine wpList_dst 26 rfl ?_; refine wpList_runG 26 rfl rfl _ (exec_load 23 (.tmp 4) rfl _ (.agg #[.bool y.neg, .string y.n, .string y.d]) rfl (run_load_part _ 23 _ 0 3 _ [.bool y.neg, .string y.n, .string y.d] _ HY.out (by simp) Tryz.underlying23 rfl size_api_Rat)) ?_; go_frame))
  refine (F27.out _).mono ?_
  rintro e w4 ⟨rfl, hb⟩
  replace HX := Lib.hid (HX.out.next hb)
  replace HY := Lib.hid (HY.out.next hb)
  replace HW := Lib.hid (HW.out.trans (hb.mono HW.out.size))
  replace HE := Lib.hid (HE.out.next hb)
  clear hb
  go_wp2_with (first | (refine wpList_dst 36 rfl ?_; refine wpList_run 36 rfl rfl _ (exec_load 23 (.tmp 3) rfl _ (.agg #[.bool x.neg, .string x.n, .string x.d]) rfl (run_load_part _ 23 _ 0 3 _ [.bool x.neg, .string x.n, .string x.d] _ HX.out (by simp) Tryz.underlying23 rfl size_api_Rat)) ?_; go_frame))
  refine (F37.out _ HE.out).mono ?_
  rintro e w5 ⟨rfl, hb⟩
  replace HX := Lib.hid (HX.out.next hb)
  replace HY := Lib.hid (HY.out.next hb)
  replace HW := Lib.hid (HW.out.trans (hb.mono HW.out.size))
  replace HE := Lib.hid (HE.out.next hb)
  clear hb
  go_wp2_with fail
  refine (F40.out _ HE.out).mono ?_
  rintro e w6 ⟨rfl, hb⟩
  replace HX := Lib.hid (HX.out.next hb)
  replace HY := Lib.hid (HY.out.next hb)
  replace HW := Lib.hid (HW.out.trans (hb.mono HW.out.size))
  replace HE := Lib.hid (HE.out.next hb)
  clear hb
  go_wp2_with (first | (refine wpList_var rfl rfl 23 8 rfl rfl rfl (.tmp 41) rfl [.bool false, .string ByteArray.empty, .string ByteArray.empty] [.bool x.neg, .string x.n, .string x.d] zero_api_Rat rfl rfl rfl size_api_Rat (List.forall_mem_cons.2 ⟨rfl, (List.forall_mem_cons.2 ⟨rfl, (List.forall_mem_cons.2 ⟨rfl, fun _ h => nomatch h⟩)⟩)⟩) ?_; intro w7 HA8 HBw; replace HX := Lib.hid (HX.out.next HBw.out); replace HY := Lib.hid (HY.out.next HBw.out); replace HW := Lib.hid (HW.out.trans (HBw.out.mono HW.out.size)); replace HE := Lib.hid (HE.out.next HBw.out); clear HBw))
  refine (F45.out _ HE.out).mono ?_
  rintro e w8 ⟨rfl, hb⟩
  replace HX := Lib.hid (HX.out.next hb)
  replace HY := Lib.hid (HY.out.next hb)
  replace HW := Lib.hid (HW.out.trans (hb.mono HW.out.size))
  replace HE := Lib.hid (HE.out.next hb)
  replace HA8 := Lib.hid (HA8.out.next hb)
  clear hb
  go_wp2_with (first | (refine wpList_var rfl rfl 23 10 rfl rfl rfl (.tmp 46) rfl [.bool false, .string ByteArray.empty, .string ByteArray.empty] [.bool false, .string ⟨#[]⟩, .string ⟨#[]⟩] zero_api_Rat rfl rfl rfl size_api_Rat (List.forall_mem_cons.2 ⟨rfl, (List.forall_mem_cons.2 ⟨rfl, (List.forall_mem_cons.2 ⟨rfl, fun _ h => nomatch h⟩)⟩)⟩) ?_; intro w9 HA10 HBw; replace HX := Lib.hid (HX.out.next HBw.out); replace HY := Lib.hid (HY.out.next HBw.out); replace HW := Lib.hid (HW.out.trans (HBw.out.mono HW.out.size)); replace HE := Lib.hid (HE.out.next HBw.out); replace HA8 := Lib.hid (HA8.out.next HBw.out); clear HBw))
  obtain ⟨g8, hg8⟩ : ∃ g, g = w6.heap.size := ⟨_, rfl⟩
  rw [← hg8] at HA8 ⊢
  clear hg8
  obtain ⟨g10, hg10⟩ : ∃ g, g = w8.heap.size := ⟨_, rfl⟩
  rw [← hg10] at HA10 ⊢
  clear hg10
  refine late_begin (S := fun _ W => Blk W w.heap.size 23 [.bool x.neg, .string x.n, .string x.d] ∧ Blk W (w.heap.size + 1) 23 [.bool y.neg, .string y.n, .string y.d] ∧ Blk W g8 23 [.bool x.neg, .string x.n, .string x.d]) (by kernel_rfl) ?_
  have hX0 := HX.out.drew
  have hY0 := HY.out.drew
  have hW0 := HW.out.drew
  have hE0 := HE.out.next (Below.refl _ _).drew
  have hA80 := HA8.out.drew
  have hA100 := HA10.out.drew
  generalize w9.drew = u0 at hX0 hY0 hW0 hE0 hA80 hA100 ⊢
  clear HX HY HW HE HA8 HA10
  refine late_take [] (i := 0) (some 48) rfl rfl (by first | rfl | kernel_rfl) (by kernel_rfl) (by kernel_rfl) (by kernel_rfl) (by kernel_rfl) (by kernel_rfl) (fun Ls W h => h) (.int .i64 0) (fun _ _ _ h => h) (fun Ls W hl0 hW => exec_move (.tmp 9) rfl _ rfl) ⟨hX0, hY0, hA80⟩ ⟨hX0, hY0, hA80⟩ ?_
  go_frame
  refine late_take [] (i := 1) (some 49) rfl rfl (by first | rfl | kernel_rfl) (by kernel_rfl) (by kernel_rfl) (by kernel_rfl) (by kernel_rfl) (by kernel_rfl) (fun Ls W h => h) (.bool false) (fun _ _ _ h => h) (fun Ls W hl0 hW => exec_neqT _ _ _ _ rfl .i64 (0) rfl rfl) ⟨hX0, hY0, hA80⟩ ⟨hX0, hY0, hA80⟩ ?_
  go_frame
  refine late_take [] (i := 2) (some 50) rfl rfl (by first | rfl | kernel_rfl) (by kernel_rfl) (by kernel_rfl) (by kernel_rfl) (by kernel_rfl) (by kernel_rfl) (fun Ls W h => h) (.bool false) (fun _ _ _ h => h) (fun Ls W hl0 hW => exec_move (.tmp 49) rfl _ rfl) ⟨hX0, hY0, hA80⟩ ⟨hX0, hY0, hA80⟩ ?_
  go_frame
  refine late_take [] (i := 3) (some 51) rfl rfl (by first | rfl | kernel_rfl) (by kernel_rfl) (by kernel_rfl) (by kernel_rfl) (by kernel_rfl) (by kernel_rfl) (fun Ls W h => h) (rv x) (fun _ _ _ h => h) (fun Ls W hl0 hW => exec_load 23 (.tmp 8) rfl _ (rv x) rfl (run_load_part W 23 _ 0 3 _ [.bool x.neg, .string x.n, .string x.d] _ hW.2.2 (by simp) Tryz.underlying23 rfl size_api_Rat)) ⟨hX0, hY0, hA80⟩ ⟨hX0, hY0, hA80⟩ ?_
  go_frame
  refine late_take [] (i := 4) (some 52) rfl rfl (by first | rfl | kernel_rfl) (by kernel_rfl) (by kernel_rfl) (by kernel_rfl) (by kernel_rfl) (by kernel_rfl) (fun Ls W h => h) (rv x) (fun _ _ _ h => h) (fun Ls W hl0 hW => exec_load 23 (.tmp 3) rfl _ (rv x) rfl (run_load_part W 23 _ 0 3 _ [.bool x.neg, .string x.n, .string x.d] _ hW.1 (by simp) Tryz.underlying23 rfl size_api_Rat)) ⟨hX0, hY0, hA80⟩ ⟨hX0, hY0, hA80⟩ ?_
  go_frame
  refine late_take [] (i := 5) (some 53) rfl rfl (by first | rfl | kernel_rfl) (by kernel_rfl) (by kernel_rfl) (by kernel_rfl) (by kernel_rfl) (by kernel_rfl) (fun Ls W h => h) (.bool false) (fun _ _ _ h => h) (fun Ls W hl0 hW => exec_bin .neq 23 _ _ _ rfl (rv x) (rv x) _ rfl rfl (rat_guardN _ _ _ _ _) (run_sameR x _)) ⟨hX0, hY0, hA80⟩ ⟨hX0, hY0, hA80⟩ ?_
  go_frame
  refine late_take [] (i := 6) (some 54) rfl rfl (by first | rfl | kernel_rfl) (by kernel_rfl) (by kernel_rfl) (by kernel_rfl) (by kernel_rfl) (by kernel_rfl) (fun Ls W h => h) (.bool false) (fun _ _ _ h => h) (fun Ls W hl0 hW => exec_pickF _ _ _ rfl (.bool false) rfl rfl) ⟨hX0, hY0, hA80⟩ ⟨hX0, hY0, hA80⟩ ?_
  go_frame
  refine late_take [] (i := 7) (some 55) rfl rfl (by first | rfl | kernel_rfl) (by kernel_rfl) (by kernel_rfl) (by kernel_rfl) (by kernel_rfl) (by kernel_rfl) (fun Ls W h => h) (.bool false) (fun _ _ _ h => h) (fun Ls W hl0 hW => exec_move (.tmp 54) rfl _ rfl) ⟨hX0, hY0, hA80⟩ ⟨hX0, hY0, hA80⟩ ?_
  go_frame
  refine late_take [] (i := 8) (some 56) rfl rfl (by first | rfl | kernel_rfl) (by kernel_rfl) (by kernel_rfl) (by kernel_rfl) (by kernel_rfl) (by kernel_rfl) (fun Ls W h => h) (.string tx) (fun _ _ _ h => h) (fun Ls W hl0 hW => exec_move (.tmp 7) rfl _ rfl) ⟨hX0, hY0, hA80⟩ ⟨hX0, hY0, hA80⟩ ?_
  go_frame
  refine late_take [] (i := 9) (some 57) rfl rfl (by first | rfl | kernel_rfl) (by kernel_rfl) (by kernel_rfl) (by kernel_rfl) (by kernel_rfl) (by kernel_rfl) (fun Ls W h => h) (rv y) (fun _ _ _ h => h) (fun Ls W hl0 hW => exec_load 23 (.tmp 4) rfl _ (rv y) rfl (run_load_part W 23 _ 0 3 _ [.bool y.neg, .string y.n, .string y.d] _ hW.2.1 (by simp) Tryz.underlying23 rfl size_api_Rat)) ⟨hX0, hY0, hA80⟩ ⟨hX0, hY0, hA80⟩ ?_
  go_frame
  refine late_take [] (i := 12) (some 60) rfl rfl (by first | rfl | kernel_rfl) (by kernel_rfl) (by kernel_rfl) (by kernel_rfl) (by kernel_rfl) (by kernel_rfl) (fun Ls W h => h) (rv x) (fun _ _ _ h => h) (fun Ls W hl0 hW => exec_load 23 (.tmp 3) rfl _ (rv x) rfl (run_load_part W 23 _ 0 3 _ [.bool x.neg, .string x.n, .string x.d] _ hW.1 (by simp) Tryz.underlying23 rfl size_api_Rat)) ⟨hX0, hY0, hA80⟩ ⟨hX0, hY0, hA80⟩ ?_
  go_frame
  refine late_take [] (i := 13) (some 61) rfl rfl (by first | rfl | kernel_rfl) (by kernel_rfl) (by kernel_rfl) (by kernel_rfl) (by kernel_rfl) (by kernel_rfl) (fun Ls W h => h) (rv y) (fun _ _ _ h => h) (fun Ls W hl0 hW => exec_load 23 (.tmp 4) rfl _ (rv y) rfl (run_load_part W 23 _ 0 3 _ [.bool y.neg, .string y.n, .string y.d] _ hW.2.1 (by simp) Tryz.underlying23 rfl size_api_Rat)) ⟨hX0, hY0, hA80⟩ ⟨hX0, hY0, hA80⟩ ?_
  go_frame
  refine late_take [] (i := 14) (some 62) rfl rfl (by first | rfl | kernel_rfl) (by kernel_rfl) (by kernel_rfl) (by kernel_rfl) (by kernel_rfl) (by kernel_rfl) (fun Ls W h => h) (.bool B) (fun _ _ _ h => h) (fun Ls W hl0 hW => exec_bin .eql 23 _ _ _ rfl (rv x) (rv y) _ rfl rfl (rat_guard _ _ _ _ _) (H62.out _)) ⟨hX0, hY0, hA80⟩ ⟨hX0, hY0, hA80⟩ ?_
  go_frame
  refine late_one (i := 10) (by kernel_rfl) (op_callG (some 58) rfl rfl (by first | rfl | kernel_rfl) rfl Tryz.func36 (by kernel_rfl) (by kernel_rfl) #[rv y] rfl (F58.out u0 hE0) ?_)
  rintro e u1 ⟨rfl, hb⟩
  have hX1 := hX0.next hb
  have hY1 := hY0.next hb
  have hW1 := hW0.trans (hb.mono hW0.size)
  have hE1 := hE0.next hb
  have hA81 := hA80.next hb
  have hA101 := hA100.next hb
  refine ⟨_, rfl, ⟨hX1, hY1, hA81⟩, ?_⟩
  go_frame
  clear hX0 hY0 hW0 hE0 hA80 hA100 hb
  refine late_take [] (i := 11) (some 59) rfl rfl (by first | rfl | kernel_rfl) (by kernel_rfl) (by kernel_rfl) (by kernel_rfl) (by kernel_rfl) (by kernel_rfl) (fun Ls W h => h) (.bool B) (fun _ _ _ h => h) (fun Ls W hl0 hW => exec_bin .eql 9 _ _ _ rfl (.string tx) (.string ty) _ rfl rfl rfl (H59.out _)) ⟨hX1, hY1, hA81⟩ ⟨hX1, hY1, hA81⟩ ?_
  go_frame
  refine late_take [] (i := 15) (some 63) rfl rfl (by first | rfl | kernel_rfl) (by kernel_rfl) (by kernel_rfl) (by kernel_rfl) (by kernel_rfl) (by kernel_rfl) (fun Ls W h => h) (.bool false) (fun _ _ _ h => h) (fun Ls W hl0 hW => exec_bin .neq 4 _ _ _ rfl (.bool B) (.bool B) _ rfl rfl (bool_guard_neq _ _ _ _) (run_bsame_neq _ _)) ⟨hX1, hY1, hA81⟩ ⟨hX1, hY1, hA81⟩ ?_
  go_frame
  refine late_take [] (i := 16) (some 64) rfl rfl (by first | rfl | kernel_rfl) (by kernel_rfl) (by kernel_rfl) (by kernel_rfl) (by kernel_rfl) (by kernel_rfl) (fun Ls W h => h) (.bool false) (fun _ _ _ h => h) (fun Ls W hl0 hW => exec_pickF _ _ _ rfl (.bool false) rfl rfl) ⟨hX1, hY1, hA81⟩ ⟨hX1, hY1, hA81⟩ ?_
  refine late_done (by kernel_rfl) ?_ _
  go_frame
  have HX := Lib.hid hX1
  have HY := Lib.hid hY1
  have HW := Lib.hid hW1
  have HE := Lib.hid hE1
  have HA8 := Lib.hid hA81
  have HA10 := Lib.hid hA101
  clear hX1 hY1 hW1 hE1 hA81 hA101
  clear HX HY HA8
  go_wp2_with fail
  refine ((qsanity_any _ HE.out)).mono ?_
  rintro e w10 ⟨rfl, hb⟩
  replace HW := Lib.hid (HW.out.trans (hb.mono HW.out.size))
  replace HE := Lib.hid (HE.out.next hb)
  replace HA10 := Lib.hid (HA10.out.next hb)
  clear hb
  go_wp2_with (first | (refine wpList_dst 74 rfl ?_; refine wpList_runG 74 rfl rfl _ (exec_build0 23 rfl _ (qr_nil _)) ?_; go_frame) | (refine wpList_dst 75 rfl ?_; refine wpList_runG 75 rfl rfl _ (exec_bin .eql 23 _ (.tmp 73) (.tmp 74) rfl _ _ _ rfl rfl (rat_guard _ _ _ _ _) (run_eqRs _ _ _ _)) ?_; go_frame) | (refine wpList_dst 73 rfl ?_; refine wpList_runG 73 rfl rfl _ (exec_load 23 (.tmp 10) rfl _ (.agg #[.bool false, .string ⟨#[]⟩, .string ⟨#[]⟩]) rfl (run_load_part _ 23 _ 0 3 _ [.bool false, .string ⟨#[]⟩, .string ⟨#[]⟩] _ HA10.out (by simp) Tryz.underlying23 rfl size_api_Rat)) ?_; go_frame))
  go_ret
  exact ⟨rfl, HW.out⟩
theorem okB_rt {x : Rv} (h : okB x = true) : rt (valR x) = x := by
  by_cases hn : x.n = ⟨#[]⟩
  · have hz : x = zR := by
      unfold okB at h
      rw [decide_eq_false (p := x.n ≠ ⟨#[]⟩) (fun k => k hn)] at h
      simp only [Bool.false_and, Bool.or_false, decide_eq_true_eq] at h
      obtain ⟨a, b, c⟩ := x
      obtain ⟨h1, h2, h3⟩ := h
      simp only at h1 h2 h3
      subst h1 h2 h3
      rfl
    rw [hz, vz zR rfl, rt_zero]
  · exact rt_val ((okB_iff x hn).1 h)
theorem few_sz {k : Nat} {x : Rv} (h : fewB k x = true) : szR k x := by
  unfold fewB at h
  rw [Bool.and_eq_true, decide_eq_true_eq, decide_eq_true_eq] at h
  exact h
theorem txl {x : Rv} {k : Nat} (h : szR k x) (hk : 1 ≤ k) : (txtQ (valR x)).length ≤ 6 * k + 4 := by
  have sx := Sz_val x k hk h.1 h.2
  have h1 := ndig (cS (valR x).num.natAbs) k sx.1
  have h2 := ndig (cS (valR x).den) k sx.2
  rw [nB_cS] at h1 h2
  unfold txtQ
  rw [List.length_append, List.length_append]
  split <;> split <;> simp <;> omega
theorem okB_valid (q : Rat) : okB (rt q) = true := by
  by_cases h : q = 0
  · subst h; rw [rt_zero]; rfl
  · have := ok_fr h
    have e : rt q = fr q := by unfold rt; rw [if_neg h]
    rw [e]
    exact (okB_iff _ (num_nil h)).2 this
theorem walk_back (x y : Rv) (s : ByteArray) (w : World) (hE : Env w) (hs2 : s.size ≤ 9223372036854775807) : Calls Tryz.prog 7 #[rv x, rv y, .string s] w fun e w' => e = .returned (.bool true) ∧ Below w.heap.size w w' := by
  have g13 := fun W => few_any 40 x W
  have g17 := fun W => few_any 40 y W
  cases f1 : fewB 40 x
  · rw [f1] at g13; exact bk_out0 x y s w hE g13
  · rw [f1] at g13
    have sx := few_sz f1
    cases f2 : fewB 40 y
    · rw [f2] at g17; exact bk_out1 x y s w hE g13 g17
    · rw [f2] at g17
      have sy := few_sz f2
      have bx : szR 10000 x := ⟨Nat.le_trans sx.1 (by decide), Nat.le_trans sx.2 (by decide)⟩
      have b_y : szR 10000 y := ⟨Nat.le_trans sy.1 (by decide), Nat.le_trans sy.2 (by decide)⟩
      have g22 := fun W => rvalidq x W bx
      have g27 := fun W => rvalidq y W b_y
      cases v1 : okB x
      · rw [v1] at g22; exact bk_out2 x y s w hE g13 g17 g22
      · rw [v1] at g22
        cases v2 : okB y
        · rw [v2] at g27; exact bk_out3 x y s w hE g13 g17 g22 g27
        · rw [v2] at g27
          by_cases hs : s.size ≤ 400
          · have ex := okB_rt v1
            have ey := okB_rt v2
            have lt := txl sx (by decide)
            have hB : decide (sb (txtQ (valR x)) = sb (txtQ (valR y))) = decide (x = y) := decide_eq_decide.2 ⟨fun e => by
              have : txtQ (valR x) = txtQ (valR y) := by rw [← sb_list (txtQ (valR x)), e, sb_list]
              rw [← ex, ← ey, txt_inj this], fun e => by rw [e]⟩
            have g37 := fun (W : World) (h : Env W) => Text_any x W h.pow bx
            have g58 := fun (W : World) (h : Env W) => Text_any y W h.pow b_y
            have g40 := fun (W : World) (h : Env W) => Parse_yes (valR x) (sb (txtQ (valR x))) W h (by rw [sb_size]; omega) rfl
            rw [ex] at g40
            by_cases hq : ∃ q, s = sb (txtQ q)
            · obtain ⟨q, hq⟩ := hq
              have g45 := fun (W : World) (h : Env W) => Parse_yes q s W h hs hq
              have zz : szR 10000 (rt q) := by
                have h1 := par_size (txtQ q) (by rw [hq, sb_size] at hs; exact hs)
                rwa [par_txt] at h1
              have g80 := fun (W : World) (h : Env W) => Text_any (rt q) W h.pow zz
              rw [val_rt, ← hq] at g80
              have g86 := fun W => qvalid_any (rt q) W zz.1 zz.2
              rw [okB_valid] at g86
              exact bk_yes x y (rt q) s _ _ _ w hE hs hB rfl g13 g17 g22 g27 g37 g40 g45 g58 g80 g86
            · have g45 := fun (W : World) (h : Env W) => Parse_no s W h hs (fun q e => hq ⟨q, e⟩)
              rw [rt_zero] at g45
              exact bk_no x y s _ _ _ w hE hs hB rfl g13 g17 g22 g27 g37 g40 g45 g58
          · exact bk_out4 x y s w hE (by omega) hs2 g13 g17 g22 g27
end Go.Proofs.YtjfkmigaehcnbaaGreatDoor
