/- The walk of RatsAreAsSpecified. -/
import Derived.Test.YtibfmcohodhkbaaGreatDoorS8
import Derived.Deep.DeepCutAuto
namespace Go.Proofs.YtibfmcohodhkbaaGreatDoor
open Go.RowKit Hm Wm Wn

theorem ia__2_int_0_0 (g : Nat) (W : World) : (Instr.indexAt 24 (.pointer (some ⟨g, 0, none⟩)) (.int .i64 0)).run Tryz.prog W = .ok (.pointer (some ⟨g, 0, none⟩)) W := by kernel_rfl
theorem ia__2_int_1_0 (g : Nat) (W : World) : (Instr.indexAt 24 (.pointer (some ⟨g, 0, none⟩)) (.int .i64 1)).run Tryz.prog W = .ok (.pointer (some ⟨g, 1, none⟩)) W := by kernel_rfl
theorem fa_rivermarkref05_Made_1_0 (g : Nat) (W : World) : (Instr.fieldAt 31 (.pointer (some ⟨g, 0, none⟩)) 1).run Tryz.prog W = .ok (.pointer (some ⟨g, 3, none⟩)) W := by kernel_rfl
set_option maxRecDepth 100000 in
set_option maxHeartbeats 800000 in
theorem as_out0 (x y : Rv) (m0 n0 : Int) (w : World) (hE : Env w) (h20 : (∀ W, Calls Tryz.prog 6 #[.agg #[.bool x.neg, .string x.n, .string x.d], .int .i64 30] W fun e w' => e = .returned (.bool false) ∧ Below W.heap.size W w')) : Calls Tryz.prog 3 #[.agg #[.bool x.neg, .string x.n, .string x.d], .agg #[.bool y.neg, .string y.n, .string y.d], .agg #[.int .i64 m0, .int .i64 n0]] w fun e w' => e = .returned (.bool true) ∧ Below w.heap.size w w' := by
  obtain ⟨W0, hW0, kx, ky, kz, kw⟩ := three_vars w 23 23 24 [.bool x.neg, .string x.n, .string x.d] [.bool y.neg, .string y.n, .string y.d] [.int .i64 m0, .int .i64 n0]
  have HX := Lib.hid kx
  have HY := Lib.hid ky
  have HN := Lib.hid kz
  have HW := Lib.hid kw
  have HE := Lib.hid (hE.next kw)
  clear kx ky kz kw hE
  have F20 := Lib.hid h20
  clear h20
  go_enter Tryz.func3, Tryz.ntmps3
  go_wp2_with fail
  try rw [← hW0]
  clear hW0
  go_wp2_with (first | (refine wpList_dst 19 rfl ?_; refine wpList_run 19 rfl rfl _ (exec_load 23 (.tmp 3) rfl _ (.agg #[.bool x.neg, .string x.n, .string x.d]) rfl (run_load_part _ 23 _ 0 3 _ [.bool x.neg, .string x.n, .string x.d] _ HX.out (by simp) Tryz.underlying23 rfl size_api_Rat)) ?_; go_frame))
  refine (F20.out _).mono ?_
  rintro e w1 ⟨rfl, hb⟩
  replace HX := Lib.hid (HX.out.next hb)
  replace HY := Lib.hid (HY.out.next hb)
  replace HN := Lib.hid (HN.out.next hb)
  replace HW := Lib.hid (HW.out.trans (hb.mono HW.out.size))
  replace HE := Lib.hid (HE.out.next hb)
  clear hb
  go_wp2_with fail
  refine ((qsanity_any _ HE.out)).mono ?_
  rintro e w2 ⟨rfl, hb⟩
  replace HX := Lib.hid (HX.out.next hb)
  replace HY := Lib.hid (HY.out.next hb)
  replace HN := Lib.hid (HN.out.next hb)
  replace HW := Lib.hid (HW.out.trans (hb.mono HW.out.size))
  replace HE := Lib.hid (HE.out.next hb)
  clear hb
  go_wp2_with fail
  go_ret
  exact ⟨rfl, HW.out⟩
set_option maxRecDepth 100000 in
set_option maxHeartbeats 800000 in
theorem as_out1 (x y : Rv) (m0 n0 : Int) (w : World) (hE : Env w) (h20 : (∀ W, Calls Tryz.prog 6 #[.agg #[.bool x.neg, .string x.n, .string x.d], .int .i64 30] W fun e w' => e = .returned (.bool true) ∧ Below W.heap.size W w')) (h24 : (∀ W, Calls Tryz.prog 6 #[.agg #[.bool y.neg, .string y.n, .string y.d], .int .i64 30] W fun e w' => e = .returned (.bool false) ∧ Below W.heap.size W w')) : Calls Tryz.prog 3 #[.agg #[.bool x.neg, .string x.n, .string x.d], .agg #[.bool y.neg, .string y.n, .string y.d], .agg #[.int .i64 m0, .int .i64 n0]] w fun e w' => e = .returned (.bool true) ∧ Below w.heap.size w w' := by
  obtain ⟨W0, hW0, kx, ky, kz, kw⟩ := three_vars w 23 23 24 [.bool x.neg, .string x.n, .string x.d] [.bool y.neg, .string y.n, .string y.d] [.int .i64 m0, .int .i64 n0]
  have HX := Lib.hid kx
  have HY := Lib.hid ky
  have HN := Lib.hid kz
  have HW := Lib.hid kw
  have HE := Lib.hid (hE.next kw)
  clear kx ky kz kw hE
  have F20 := Lib.hid h20
  have F24 := Lib.hid h24
  clear h20 h24
  go_enter Tryz.func3, Tryz.ntmps3
  go_wp2_with fail
  try rw [← hW0]
  clear hW0
  go_wp2_with (first | (refine wpList_dst 19 rfl ?_; refine wpList_run 19 rfl rfl _ (exec_load 23 (.tmp 3) rfl _ (.agg #[.bool x.neg, .string x.n, .string x.d]) rfl (run_load_part _ 23 _ 0 3 _ [.bool x.neg, .string x.n, .string x.d] _ HX.out (by simp) Tryz.underlying23 rfl size_api_Rat)) ?_; go_frame))
  refine (F20.out _).mono ?_
  rintro e w1 ⟨rfl, hb⟩
  replace HX := Lib.hid (HX.out.next hb)
  replace HY := Lib.hid (HY.out.next hb)
  replace HN := Lib.hid (HN.out.next hb)
  replace HW := Lib.hid (HW.out.trans (hb.mono HW.out.size))
  replace HE := Lib.hid (HE.out.next hb)
  clear hb
  go_wp2_with (first | (refine wpList_dst 23 rfl ?_; refine wpList_runG 23 rfl rfl _ (exec_load 23 (.tmp 4) rfl _ (.agg #[.bool y.neg, .string y.n, .string y.d]) rfl (run_load_part _ 23 _ 0 3 _ [.bool y.neg, .string y.n, .string y.d] _ HY.out (by simp) Tryz.underlying23 rfl size_api_Rat)) ?_; go_frame))
  refine (F24.out _).mono ?_
  rintro e w2 ⟨rfl, hb⟩
  replace HX := Lib.hid (HX.out.next hb)
  replace HY := Lib.hid (HY.out.next hb)
  replace HN := Lib.hid (HN.out.next hb)
  replace HW := Lib.hid (HW.out.trans (hb.mono HW.out.size))
  replace HE := Lib.hid (HE.out.next hb)
  clear hb
  go_wp2_with fail
  refine ((qsanity_any _ HE.out)).mono ?_
  rintro e w3 ⟨rfl, hb⟩
  replace HX := Lib.hid (HX.out.next hb)
  replace HY := Lib.hid (HY.out.next hb)
  replace HN := Lib.hid (HN.out.next hb)
  replace HW := Lib.hid (HW.out.trans (hb.mono HW.out.size))
  replace HE := Lib.hid (HE.out.next hb)
  clear hb
  go_wp2_with fail
  go_ret
  exact ⟨rfl, HW.out⟩
set_option maxRecDepth 1000000 in
set_option maxHeartbeats 6000000 in
theorem as_in (x y a1 a2 r3 r4 r5 r6 r7 r8 r9 : Rv) (m0 n0 e1 e2 n1 k1 n2 k2 c : Int) (v : Bool) (w : World) (hE : Env w) (h20 : (∀ W, Calls Tryz.prog 6 #[.agg #[.bool x.neg, .string x.n, .string x.d], .int .i64 30] W fun e w' => e = .returned (.bool true) ∧ Below W.heap.size W w')) (h24 : (∀ W, Calls Tryz.prog 6 #[.agg #[.bool y.neg, .string y.n, .string y.d], .int .i64 30] W fun e w' => e = .returned (.bool true) ∧ Below W.heap.size W w')) (h33 : (∀ W, Calls Tryz.prog 8 #[.int .i64 m0, .int .i64 n0] W fun e w' => e = .returned (.tuple #[rv a1, .int .i64 e1]) ∧ Below W.heap.size W w')) (h40 : (∀ W, Calls Tryz.prog 9 #[.int .i64 m0, .int .i64 n0] W fun e w' => e = .returned (.agg #[.bool a1.neg, .string a1.n, .string a1.d, .int .i64 e1]) ∧ Below W.heap.size W w')) (h44 : (∀ W, Calls Tryz.prog 10 #[rv x, rv y] W fun e w' => e = .returned (.tuple #[rv a2, .int .i64 e2]) ∧ Below W.heap.size W w')) (h49 : (∀ W, Calls Tryz.prog 11 #[rv x, rv y] W fun e w' => e = .returned (.agg #[.bool a2.neg, .string a2.n, .string a2.d, .int .i64 e2]) ∧ Below W.heap.size W w')) (h52 : (∀ W, Calls Tryz.prog 12 #[rv x] W fun e w' => e = .returned (.tuple #[.int .i64 n1, .int .i64 k1]) ∧ Below W.heap.size W w')) (h56 : (∀ W, Calls Tryz.prog 13 #[rv x] W fun e w' => e = .returned (.agg #[.int .i64 n1, .int .i64 k1]) ∧ Below W.heap.size W w')) (h59 : (∀ W, Calls Tryz.prog 14 #[rv x] W fun e w' => e = .returned (.tuple #[.int .i64 n2, .int .i64 k2]) ∧ Below W.heap.size W w')) (h63 : (∀ W, Calls Tryz.prog 15 #[rv x] W fun e w' => e = .returned (.agg #[.int .i64 n2, .int .i64 k2]) ∧ Below W.heap.size W w')) (h111 : (∀ W, Calls Tryz.prog 16 #[rv x] W fun e w' => e = .returned (.bool v) ∧ Below W.heap.size W w')) (h113 : (∀ W, Calls Tryz.prog 17 #[rv x] W fun e w' => e = .returned (.bool v) ∧ Below W.heap.size W w')) (h118 : (∀ W, Calls Tryz.prog 18 #[.int .i64 m0] W fun e w' => e = .returned (rv r3) ∧ Below W.heap.size W w')) (h121 : (∀ W, Calls Tryz.prog 19 #[.int .i64 m0] W fun e w' => e = .returned (rv r3) ∧ Below W.heap.size W w')) (h126 : (∀ W, Calls Tryz.prog 20 #[rv x] W fun e w' => e = .returned (rv r4) ∧ Below W.heap.size W w')) (h128 : (∀ W, Calls Tryz.prog 21 #[rv x] W fun e w' => e = .returned (rv r4) ∧ Below W.heap.size W w')) (h134 : (∀ W, Calls Tryz.prog 22 #[rv x, rv y] W fun e w' => e = .returned (rv r5) ∧ Below W.heap.size W w')) (h137 : (∀ W, Calls Tryz.prog 23 #[rv x, rv y] W fun e w' => e = .returned (rv r5) ∧ Below W.heap.size W w')) (h143 : (∀ W, Calls Tryz.prog 24 #[rv x, rv y] W fun e w' => e = .returned (rv r6) ∧ Below W.heap.size W w')) (h146 : (∀ W, Calls Tryz.prog 25 #[rv x, rv y] W fun e w' => e = .returned (rv r6) ∧ Below W.heap.size W w')) (h152 : (∀ W, Calls Tryz.prog 26 #[rv x, rv y] W fun e w' => e = .returned (rv r7) ∧ Below W.heap.size W w')) (h155 : (∀ W, Calls Tryz.prog 27 #[rv x, rv y] W fun e w' => e = .returned (rv r7) ∧ Below W.heap.size W w')) (h162 : (∀ W, Calls Tryz.prog 28 #[rv x, rv y] W fun e w' => e = .returned (.int .i64 c) ∧ Below W.heap.size W w')) (h165 : (∀ W, Calls Tryz.prog 29 #[rv x, rv y] W fun e w' => e = .returned (.int .i64 c) ∧ Below W.heap.size W w')) (h171 : (∀ W, Calls Tryz.prog 30 #[rv x, rv y] W fun e w' => e = .returned (rv r8) ∧ Below W.heap.size W w')) (h174 : (∀ W, Calls Tryz.prog 31 #[rv x, rv y] W fun e w' => e = .returned (rv r8) ∧ Below W.heap.size W w')) (h180 : (∀ W, Calls Tryz.prog 32 #[rv x, rv y] W fun e w' => e = .returned (rv r9) ∧ Below W.heap.size W w')) (h183 : (∀ W, Calls Tryz.prog 33 #[rv x, rv y] W fun e w' => e = .returned (rv r9) ∧ Below W.heap.size W w')) : Calls Tryz.prog 3 #[.agg #[.bool x.neg, .string x.n, .string x.d], .agg #[.bool y.neg, .string y.n, .string y.d], .agg #[.int .i64 m0, .int .i64 n0]] w fun e w' => e = .returned (.bool true) ∧ Below w.heap.size w w' := by
  obtain ⟨W0, hW0, kx, ky, kz, kw⟩ := three_vars w 23 23 24 [.bool x.neg, .string x.n, .string x.d] [.bool y.neg, .string y.n, .string y.d] [.int .i64 m0, .int .i64 n0]
  have HX := Lib.hid kx
  have HY := Lib.hid ky
  have HN := Lib.hid kz
  have HW := Lib.hid kw
  have HE := Lib.hid (hE.next kw)
  clear kx ky kz kw hE
  have F20 := Lib.hid h20
  have F24 := Lib.hid h24
  have F33 := Lib.hid h33
  have F40 := Lib.hid h40
  have F44 := Lib.hid h44
  have F49 := Lib.hid h49
  have F52 := Lib.hid h52
  have F56 := Lib.hid h56
  have F59 := Lib.hid h59
  have F63 := Lib.hid h63
  have F111 := Lib.hid h111
  have F113 := Lib.hid h113
  have F118 := Lib.hid h118
  have F121 := Lib.hid h121
  have F126 := Lib.hid h126
  have F128 := Lib.hid h128
  have F134 := Lib.hid h134
  have F137 := Lib.hid h137
  have F143 := Lib.hid h143
  have F146 := Lib.hid h146
  have F152 := Lib.hid h152
  have F155 := Lib.hid h155
  have F162 := Lib.hid h162
  have F165 := Lib.hid h165
  have F171 := Lib.hid h171
  have F174 := Lib.hid h174
  have F180 := Lib.hid h180
  have F183 := Lib.hid h183
  clear h20 h24 h33 h40 h44 h49 h52 h56 h59 h63 h111 h113 h118 h121 h126 h128 h134 h137 h143 h146 h152 h155 h162 h165 h171 h174 h180 h183
  go_enter Tryz.func3, Tryz.ntmps3
  go_wp2_with fail
  try rw [← hW0]
  clear hW0
  go_wp2_with (first | (refine wpList_dst 19 rfl ?_; refine wpList_run 19 rfl rfl _ (exec_load 23 (.tmp 3) rfl _ (.agg #[.bool x.neg, .string x.n, .string x.d]) rfl (run_load_part _ 23 _ 0 3 _ [.bool x.neg, .string x.n, .string x.d] _ HX.out (by simp) Tryz.underlying23 rfl size_api_Rat)) ?_; go_frame))
  refine (F20.out _).mono ?_
  rintro e w1 ⟨rfl, hb⟩
  replace HX := Lib.hid (HX.out.next hb)
  replace HY := Lib.hid (HY.out.next hb)
  replace HN := Lib.hid (HN.out.next hb)
  replace HW := Lib.hid (HW.out.trans (hb.mono HW.out.size))
  replace HE := Lib.hid (HE.out.next hb)
  clear hb
  go_wp2_with (first | (refine wpList_dst 23 rfl ?_; refine wpList_runG 23 rfl rfl _ (exec_load 23 (.tmp 4) rfl _ (.agg #[.bool y.neg, .string y.n, .string y.d]) rfl (run_load_part _ 23 _ 0 3 _ [.bool y.neg, .string y.n, .string y.d] _ HY.out (by simp) Tryz.underlying23 rfl size_api_Rat)) ?_; go_frame))
  refine (F24.out _).mono ?_
  rintro e w2 ⟨rfl, hb⟩
  replace HX := Lib.hid (HX.out.next hb)
  replace HY := Lib.hid (HY.out.next hb)
  replace HN := Lib.hid (HN.out.next hb)
  replace HW := Lib.hid (HW.out.trans (hb.mono HW.out.size))
  replace HE := Lib.hid (HE.out.next hb)
  clear hb
  go_wp2_with (first | (refine wpList_dst 29 rfl ?_; refine wpList_run 29 rfl rfl _ (exec_indexAddr 24 (.tmp 5) (.const (.int .i64 0)) rfl _ _ _ rfl rfl (ia__2_int_0_0 _ _)) ?_; go_frame) | (refine wpList_dst 30 rfl ?_; refine wpList_run 30 rfl rfl _ (exec_load 3 (.tmp 29) rfl _ (.int .i64 m0) rfl (run_load_cell flat_int (HN.out.cell 0))) ?_; go_frame) | (refine wpList_dst 31 rfl ?_; refine wpList_run 31 rfl rfl _ (exec_indexAddr 24 (.tmp 5) (.const (.int .i64 1)) rfl _ _ _ rfl rfl (ia__2_int_1_0 _ _)) ?_; go_frame) | (refine wpList_dst 32 rfl ?_; refine wpList_run 32 rfl rfl _ (exec_load 3 (.tmp 31) rfl _ (.int .i64 n0) rfl (run_load_cell flat_int (HN.out.cell 1))) ?_; go_frame))
  refine (F33.out _).mono ?_
  rintro e w3 ⟨rfl, hb⟩
  replace HX := Lib.hid (HX.out.next hb)
  replace HY := Lib.hid (HY.out.next hb)
  replace HN := Lib.hid (HN.out.next hb)
  replace HW := Lib.hid (HW.out.trans (hb.mono HW.out.size))
  replace HE := Lib.hid (HE.out.next hb)
  clear hb
  go_wp2_with (first | (refine wpList_var rfl rfl 23 7 rfl rfl rfl (.tmp 34) rfl [.bool false, .string ByteArray.empty, .string ByteArray.empty] [.bool a1.neg, .string a1.n, .string a1.d] zero_api_Rat rfl rfl rfl size_api_Rat (List.forall_mem_cons.2 ⟨rfl, (List.forall_mem_cons.2 ⟨rfl, (List.forall_mem_cons.2 ⟨rfl, fun _ h => nomatch h⟩)⟩)⟩) ?_; intro w4 HA HBw; replace HX := Lib.hid (HX.out.next HBw.out); replace HY := Lib.hid (HY.out.next HBw.out); replace HN := Lib.hid (HN.out.next HBw.out); replace HW := Lib.hid (HW.out.trans (HBw.out.mono HW.out.size)); replace HE := Lib.hid (HE.out.next HBw.out); clear HBw) | (refine wpList_dst 36 rfl ?_; refine wpList_run 36 rfl rfl _ (exec_indexAddr 24 (.tmp 5) (.const (.int .i64 0)) rfl _ _ _ rfl rfl (ia__2_int_0_0 _ _)) ?_; go_frame) | (refine wpList_dst 37 rfl ?_; refine wpList_run 37 rfl rfl _ (exec_load 3 (.tmp 36) rfl _ (.int .i64 m0) rfl (run_load_cell flat_int (HN.out.cell 0))) ?_; go_frame) | (refine wpList_dst 38 rfl ?_; refine wpList_run 38 rfl rfl _ (exec_indexAddr 24 (.tmp 5) (.const (.int .i64 1)) rfl _ _ _ rfl rfl (ia__2_int_1_0 _ _)) ?_; go_frame) | (refine wpList_dst 39 rfl ?_; refine wpList_run 39 rfl rfl _ (exec_load 3 (.tmp 38) rfl _ (.int .i64 n0) rfl (run_load_cell flat_int (HN.out.cell 1))) ?_; go_frame))
  obtain ⟨gA, hgA⟩ : ∃ q, q = w3.heap.size := ⟨_, rfl⟩
  rw [← hgA] at HA ⊢
  clear hgA
  refine (F40.out _).mono ?_
  rintro e w5 ⟨rfl, hb⟩
  replace HX := Lib.hid (HX.out.next hb)
  replace HY := Lib.hid (HY.out.next hb)
  replace HN := Lib.hid (HN.out.next hb)
  replace HW := Lib.hid (HW.out.trans (hb.mono HW.out.size))
  replace HE := Lib.hid (HE.out.next hb)
  replace HA := Lib.hid (HA.out.next hb)
  clear hb
  go_wp2_with (first | (refine wpList_var rfl rfl 31 9 rfl rfl rfl (.tmp 40) rfl [.bool false, .string ByteArray.empty, .string ByteArray.empty, .int .i64 0] [.bool a1.neg, .string a1.n, .string a1.d, .int .i64 e1] zero_rivermarkref05_Made rfl rfl rfl size_rivermarkref05_Made (List.forall_mem_cons.2 ⟨rfl, (List.forall_mem_cons.2 ⟨rfl, (List.forall_mem_cons.2 ⟨rfl, (List.forall_mem_cons.2 ⟨rfl, fun _ h => nomatch h⟩)⟩)⟩)⟩) ?_; intro w6 HB HBw; replace HX := Lib.hid (HX.out.next HBw.out); replace HY := Lib.hid (HY.out.next HBw.out); replace HN := Lib.hid (HN.out.next HBw.out); replace HW := Lib.hid (HW.out.trans (HBw.out.mono HW.out.size)); replace HE := Lib.hid (HE.out.next HBw.out); replace HA := Lib.hid (HA.out.next HBw.out); clear HBw) | (refine wpList_dst 42 rfl ?_; refine wpList_run 42 rfl rfl _ (exec_load 23 (.tmp 3) rfl _ (.agg #[.bool x.neg, .string x.n, .string x.d]) rfl (run_load_part _ 23 _ 0 3 _ [.bool x.neg, .string x.n, .string x.d] _ HX.out (by simp) Tryz.underlying23 rfl size_api_Rat)) ?_; go_frame) | (refine wpList_dst 43 rfl ?_; refine wpList_run 43 rfl rfl _ (exec_load 23 (.tmp 4) rfl _ (.agg #[.bool y.neg, .string y.n, .string y.d]) rfl (run_load_part _ 23 _ 0 3 _ [.bool y.neg, .string y.n, .string y.d] _ HY.out (by simp) Tryz.underlying23 rfl size_api_Rat)) ?_; go_frame))
  obtain ⟨gB, hgB⟩ : ∃ q, q = w5.heap.size := ⟨_, rfl⟩
  rw [← hgB] at HB ⊢
  clear hgB
  refine (F44.out _).mono ?_
  rintro e w7 ⟨rfl, hb⟩
  replace HX := Lib.hid (HX.out.next hb)
  replace HY := Lib.hid (HY.out.next hb)
  replace HN := Lib.hid (HN.out.next hb)
  replace HW := Lib.hid (HW.out.trans (hb.mono HW.out.size))
  replace HE := Lib.hid (HE.out.next hb)
  replace HA := Lib.hid (HA.out.next hb)
  replace HB := Lib.hid (HB.out.next hb)
  clear hb
  go_wp2_with (first | (refine wpList_var rfl rfl 23 10 rfl rfl rfl (.tmp 45) rfl [.bool false, .string ByteArray.empty, .string ByteArray.empty] [.bool a2.neg, .string a2.n, .string a2.d] zero_api_Rat rfl rfl rfl size_api_Rat (List.forall_mem_cons.2 ⟨rfl, (List.forall_mem_cons.2 ⟨rfl, (List.forall_mem_cons.2 ⟨rfl, fun _ h => nomatch h⟩)⟩)⟩) ?_; intro w8 HC HBw; replace HX := Lib.hid (HX.out.next HBw.out); replace HY := Lib.hid (HY.out.next HBw.out); replace HN := Lib.hid (HN.out.next HBw.out); replace HW := Lib.hid (HW.out.trans (HBw.out.mono HW.out.size)); replace HE := Lib.hid (HE.out.next HBw.out); replace HA := Lib.hid (HA.out.next HBw.out); replace HB := Lib.hid (HB.out.next HBw.out); clear HBw) | (refine wpList_dst 47 rfl ?_; refine wpList_run 47 rfl rfl _ (exec_load 23 (.tmp 3) rfl _ (.agg #[.bool x.neg, .string x.n, .string x.d]) rfl (run_load_part _ 23 _ 0 3 _ [.bool x.neg, .string x.n, .string x.d] _ HX.out (by simp) Tryz.underlying23 rfl size_api_Rat)) ?_; go_frame) | (refine wpList_dst 48 rfl ?_; refine wpList_run 48 rfl rfl _ (exec_load 23 (.tmp 4) rfl _ (.agg #[.bool y.neg, .string y.n, .string y.d]) rfl (run_load_part _ 23 _ 0 3 _ [.bool y.neg, .string y.n, .string y.d] _ HY.out (by simp) Tryz.underlying23 rfl size_api_Rat)) ?_; go_frame))
  obtain ⟨gC, hgC⟩ : ∃ q, q = w7.heap.size := ⟨_, rfl⟩
  rw [← hgC] at HC ⊢
  clear hgC
  refine (F49.out _).mono ?_
  rintro e w9 ⟨rfl, hb⟩
  replace HX := Lib.hid (HX.out.next hb)
  replace HY := Lib.hid (HY.out.next hb)
  replace HN := Lib.hid (HN.out.next hb)
  replace HW := Lib.hid (HW.out.trans (hb.mono HW.out.size))
  replace HE := Lib.hid (HE.out.next hb)
  replace HA := Lib.hid (HA.out.next hb)
  replace HB := Lib.hid (HB.out.next hb)
  replace HC := Lib.hid (HC.out.next hb)
  clear hb
  go_wp2_with (first | (refine wpList_var rfl rfl 31 12 rfl rfl rfl (.tmp 49) rfl [.bool false, .string ByteArray.empty, .string ByteArray.empty, .int .i64 0] [.bool a2.neg, .string a2.n, .string a2.d, .int .i64 e2] zero_rivermarkref05_Made rfl rfl rfl size_rivermarkref05_Made (List.forall_mem_cons.2 ⟨rfl, (List.forall_mem_cons.2 ⟨rfl, (List.forall_mem_cons.2 ⟨rfl, (List.forall_mem_cons.2 ⟨rfl, fun _ h => nomatch h⟩)⟩)⟩)⟩) ?_; intro w10 HD HBw; replace HX := Lib.hid (HX.out.next HBw.out); replace HY := Lib.hid (HY.out.next HBw.out); replace HN := Lib.hid (HN.out.next HBw.out); replace HW := Lib.hid (HW.out.trans (HBw.out.mono HW.out.size)); replace HE := Lib.hid (HE.out.next HBw.out); replace HA := Lib.hid (HA.out.next HBw.out); replace HB := Lib.hid (HB.out.next HBw.out); replace HC := Lib.hid (HC.out.next HBw.out); clear HBw) | (refine wpList_dst 51 rfl ?_; refine wpList_run 51 rfl rfl _ (exec_load 23 (.tmp 3) rfl _ (.agg #[.bool x.neg, .string x.n, .string x.d]) rfl (run_load_part _ 23 _ 0 3 _ [.bool x.neg, .string x.n, .string x.d] _ HX.out (by simp) Tryz.underlying23 rfl size_api_Rat)) ?_; go_frame))
  obtain ⟨gD, hgD⟩ : ∃ q, q = w9.heap.size := ⟨_, rfl⟩
  rw [← hgD] at HD ⊢
  clear hgD
  refine (F52.out _).mono ?_
  rintro e w11 ⟨rfl, hb⟩
  replace HX := Lib.hid (HX.out.next hb)
  replace HY := Lib.hid (HY.out.next hb)
  replace HN := Lib.hid (HN.out.next hb)
  replace HW := Lib.hid (HW.out.trans (hb.mono HW.out.size))
  replace HE := Lib.hid (HE.out.next hb)
  replace HA := Lib.hid (HA.out.next hb)
  replace HB := Lib.hid (HB.out.next hb)
  replace HC := Lib.hid (HC.out.next hb)
  replace HD := Lib.hid (HD.out.next hb)
  clear hb
  go_wp2_with (first | (refine wpList_dst 55 rfl ?_; refine wpList_run 55 rfl rfl _ (exec_load 23 (.tmp 3) rfl _ (.agg #[.bool x.neg, .string x.n, .string x.d]) rfl (run_load_part _ 23 _ 0 3 _ [.bool x.neg, .string x.n, .string x.d] _ HX.out (by simp) Tryz.underlying23 rfl size_api_Rat)) ?_; go_frame))
  refine (F56.out _).mono ?_
  rintro e w12 ⟨rfl, hb⟩
  replace HX := Lib.hid (HX.out.next hb)
  replace HY := Lib.hid (HY.out.next hb)
  replace HN := Lib.hid (HN.out.next hb)
  replace HW := Lib.hid (HW.out.trans (hb.mono HW.out.size))
  replace HE := Lib.hid (HE.out.next hb)
  replace HA := Lib.hid (HA.out.next hb)
  replace HB := Lib.hid (HB.out.next hb)
  replace HC := Lib.hid (HC.out.next hb)
  replace HD := Lib.hid (HD.out.next hb)
  clear hb
  go_wp2_with (first | (refine wpList_var rfl rfl 38 15 rfl rfl rfl (.tmp 56) rfl [.int .i64 0, .int .i64 0] [.int .i64 n1, .int .i64 k1] zero_rivermarkref05_Counted rfl rfl rfl size_rivermarkref05_Counted (List.forall_mem_cons.2 ⟨rfl, (List.forall_mem_cons.2 ⟨rfl, fun _ h => nomatch h⟩)⟩) ?_; intro w13 HG HBw; replace HX := Lib.hid (HX.out.next HBw.out); replace HY := Lib.hid (HY.out.next HBw.out); replace HN := Lib.hid (HN.out.next HBw.out); replace HW := Lib.hid (HW.out.trans (HBw.out.mono HW.out.size)); replace HE := Lib.hid (HE.out.next HBw.out); replace HA := Lib.hid (HA.out.next HBw.out); replace HB := Lib.hid (HB.out.next HBw.out); replace HC := Lib.hid (HC.out.next HBw.out); replace HD := Lib.hid (HD.out.next HBw.out); clear HBw) | (refine wpList_dst 58 rfl ?_; refine wpList_run 58 rfl rfl _ (exec_load 23 (.tmp 3) rfl _ (.agg #[.bool x.neg, .string x.n, .string x.d]) rfl (run_load_part _ 23 _ 0 3 _ [.bool x.neg, .string x.n, .string x.d] _ HX.out (by simp) Tryz.underlying23 rfl size_api_Rat)) ?_; go_frame))
  obtain ⟨gG, hgG⟩ : ∃ q, q = w12.heap.size := ⟨_, rfl⟩
  rw [← hgG] at HG ⊢
  clear hgG
  refine (F59.out _).mono ?_
  rintro e w14 ⟨rfl, hb⟩
  replace HX := Lib.hid (HX.out.next hb)
  replace HY := Lib.hid (HY.out.next hb)
  replace HN := Lib.hid (HN.out.next hb)
  replace HW := Lib.hid (HW.out.trans (hb.mono HW.out.size))
  replace HE := Lib.hid (HE.out.next hb)
  replace HA := Lib.hid (HA.out.next hb)
  replace HB := Lib.hid (HB.out.next hb)
  replace HC := Lib.hid (HC.out.next hb)
  replace HD := Lib.hid (HD.out.next hb)
  replace HG := Lib.hid (HG.out.next hb)
  clear hb
  go_wp2_with (first | (refine wpList_dst 62 rfl ?_; refine wpList_run 62 rfl rfl _ (exec_load 23 (.tmp 3) rfl _ (.agg #[.bool x.neg, .string x.n, .string x.d]) rfl (run_load_part _ 23 _ 0 3 _ [.bool x.neg, .string x.n, .string x.d] _ HX.out (by simp) Tryz.underlying23 rfl size_api_Rat)) ?_; go_frame))
  refine (F63.out _).mono ?_
  rintro e w15 ⟨rfl, hb⟩
  replace HX := Lib.hid (HX.out.next hb)
  replace HY := Lib.hid (HY.out.next hb)
  replace HN := Lib.hid (HN.out.next hb)
  replace HW := Lib.hid (HW.out.trans (hb.mono HW.out.size))
  replace HE := Lib.hid (HE.out.next hb)
  replace HA := Lib.hid (HA.out.next hb)
  replace HB := Lib.hid (HB.out.next hb)
  replace HC := Lib.hid (HC.out.next hb)
  replace HD := Lib.hid (HD.out.next hb)
  replace HG := Lib.hid (HG.out.next hb)
  clear hb
  go_upto_region 11 with (first | (refine wpList_var rfl rfl 38 18 rfl rfl rfl (.tmp 63) rfl [.int .i64 0, .int .i64 0] [.int .i64 n2, .int .i64 k2] zero_rivermarkref05_Counted rfl rfl rfl size_rivermarkref05_Counted (List.forall_mem_cons.2 ⟨rfl, (List.forall_mem_cons.2 ⟨rfl, fun _ h => nomatch h⟩)⟩) ?_; intro w16 HK HBw; replace HX := Lib.hid (HX.out.next HBw.out); replace HY := Lib.hid (HY.out.next HBw.out); replace HN := Lib.hid (HN.out.next HBw.out); replace HW := Lib.hid (HW.out.trans (HBw.out.mono HW.out.size)); replace HE := Lib.hid (HE.out.next HBw.out); replace HA := Lib.hid (HA.out.next HBw.out); replace HB := Lib.hid (HB.out.next HBw.out); replace HC := Lib.hid (HC.out.next HBw.out); replace HD := Lib.hid (HD.out.next HBw.out); replace HG := Lib.hid (HG.out.next HBw.out); clear HBw))
  obtain ⟨gK, hgK⟩ : ∃ q, q = w15.heap.size := ⟨_, rfl⟩
  rw [← hgK] at HK ⊢
  clear hgK
  refine wp_region_lit ?_
  refine wpList_run 64 rfl rfl (.agg #[.bool a1.neg, .string a1.n, .string a1.d]) (exec_load 23 (.tmp 7) rfl _ _ rfl (run_load_part _ 23 _ 0 3 _ [.bool a1.neg, .string a1.n, .string a1.d] _ HA.out (by simp) Tryz.underlying23 rfl size_api_Rat)) ?_
  go_frame
  refine wpList_run 65 rfl rfl (.pointer (some ⟨gB, 0, none⟩)) (exec_fieldAddr 31 (.tmp 9) 0 rfl _ _ rfl (fa_rivermarkref05_Made_0_0 _ _)) ?_
  go_frame
  refine wpList_run 66 rfl rfl (.agg #[.bool a1.neg, .string a1.n, .string a1.d]) (exec_load 23 (.tmp 65) rfl _ _ rfl (run_load_part _ 23 _ 0 3 _ [.bool a1.neg, .string a1.n, .string a1.d, .int .i64 e1] _ HB.out (by simp) Tryz.underlying23 rfl size_api_Rat)) ?_
  go_frame
  refine wpList_run 67 rfl rfl (.bool false) (exec_bin .neq 23 _ _ _ rfl (.agg #[.bool a1.neg, .string a1.n, .string a1.d]) (.agg #[.bool a1.neg, .string a1.n, .string a1.d]) _ rfl rfl (rat_guardN _ _ _ _ _) (run_sameR a1 _)) ?_
  go_frame
  refine wpList_run 68 rfl rfl (.bool false) (exec_move (.tmp 67) rfl _ rfl) ?_
  go_frame
  refine wpList_runG 69 rfl (by first | rfl | kernel_rfl) (.int .i64 e1) (exec_move (.tmp 8) rfl _ rfl) ?_
  go_frame
  refine wpList_runG 70 rfl (by first | rfl | kernel_rfl) (.pointer (some ⟨gB, 3, none⟩)) (exec_fieldAddr 31 (.tmp 9) 1 rfl _ _ rfl (fa_rivermarkref05_Made_1_0 _ _)) ?_
  go_frame
  refine wpList_runG 71 rfl (by first | rfl | kernel_rfl) (.int .i64 e1) (exec_load 27 (.tmp 70) rfl _ _ rfl (run_load_cell flat_api_Errno (HB.out.cell 3))) ?_
  go_frame
  refine wpList_runG 72 rfl (by first | rfl | kernel_rfl) (.bool false) (exec_neqT _ _ _ _ rfl .i64 (e1) rfl rfl) ?_
  go_frame
  refine wpList_run 73 rfl rfl (.bool false) (exec_pickF _ _ _ rfl (.bool false) rfl rfl) ?_
  go_frame
  refine wpList_run 74 rfl rfl (.bool false) (exec_move (.tmp 73) rfl _ rfl) ?_
  go_frame
  refine wpList_runG 75 rfl (by first | rfl | kernel_rfl) (.agg #[.bool a2.neg, .string a2.n, .string a2.d]) (exec_load 23 (.tmp 10) rfl _ _ rfl (run_load_part _ 23 _ 0 3 _ [.bool a2.neg, .string a2.n, .string a2.d] _ HC.out (by simp) Tryz.underlying23 rfl size_api_Rat)) ?_
  go_frame
  refine wpList_runG 76 rfl (by first | rfl | kernel_rfl) (.pointer (some ⟨gD, 0, none⟩)) (exec_fieldAddr 31 (.tmp 12) 0 rfl _ _ rfl (fa_rivermarkref05_Made_0_0 _ _)) ?_
  go_frame
  refine wpList_runG 77 rfl (by first | rfl | kernel_rfl) (.agg #[.bool a2.neg, .string a2.n, .string a2.d]) (exec_load 23 (.tmp 76) rfl _ _ rfl (run_load_part _ 23 _ 0 3 _ [.bool a2.neg, .string a2.n, .string a2.d, .int .i64 e2] _ HD.out (by simp) Tryz.underlying23 rfl size_api_Rat)) ?_
  go_frame
  refine wpList_runG 78 rfl (by first | rfl | kernel_rfl) (.bool false) (exec_bin .neq 23 _ _ _ rfl (.agg #[.bool a2.neg, .string a2.n, .string a2.d]) (.agg #[.bool a2.neg, .string a2.n, .string a2.d]) _ rfl rfl (rat_guardN _ _ _ _ _) (run_sameR a2 _)) ?_
  go_frame
  refine wpList_run 79 rfl rfl (.bool false) (exec_pickF _ _ _ rfl (.bool false) rfl rfl) ?_
  go_frame
  refine wpList_run 80 rfl rfl (.bool false) (exec_move (.tmp 79) rfl _ rfl) ?_
  go_frame
  refine wpList_runG 81 rfl (by first | rfl | kernel_rfl) (.int .i64 e2) (exec_move (.tmp 11) rfl _ rfl) ?_
  go_frame
  refine wpList_runG 82 rfl (by first | rfl | kernel_rfl) (.pointer (some ⟨gD, 3, none⟩)) (exec_fieldAddr 31 (.tmp 12) 1 rfl _ _ rfl (fa_rivermarkref05_Made_1_0 _ _)) ?_
  go_frame
  refine wpList_runG 83 rfl (by first | rfl | kernel_rfl) (.int .i64 e2) (exec_load 27 (.tmp 82) rfl _ _ rfl (run_load_cell flat_api_Errno (HD.out.cell 3))) ?_
  go_frame
  refine wpList_runG 84 rfl (by first | rfl | kernel_rfl) (.bool false) (exec_neqT _ _ _ _ rfl .i64 (e2) rfl rfl) ?_
  go_frame
  refine wpList_run 85 rfl rfl (.bool false) (exec_pickF _ _ _ rfl (.bool false) rfl rfl) ?_
  go_frame
  refine wpList_run 86 rfl rfl (.bool false) (exec_move (.tmp 85) rfl _ rfl) ?_
  go_frame
  refine wpList_runG 87 rfl (by first | rfl | kernel_rfl) (.int .i64 n1) (exec_move (.tmp 13) rfl _ rfl) ?_
  go_frame
  refine wpList_runG 88 rfl (by first | rfl | kernel_rfl) (.pointer (some ⟨gG, 0, none⟩)) (exec_fieldAddr 38 (.tmp 15) 0 rfl _ _ rfl (fa_rivermarkref05_Counted_0_0 _ _)) ?_
  go_frame
  refine wpList_runG 89 rfl (by first | rfl | kernel_rfl) (.int .i64 n1) (exec_load 3 (.tmp 88) rfl _ _ rfl (run_load_cell flat_int (HG.out.cell 0))) ?_
  go_frame
  refine wpList_runG 90 rfl (by first | rfl | kernel_rfl) (.bool false) (exec_neqT _ _ _ _ rfl .i64 (n1) rfl rfl) ?_
  go_frame
  refine wpList_run 91 rfl rfl (.bool false) (exec_pickF _ _ _ rfl (.bool false) rfl rfl) ?_
  go_frame
  refine wpList_run 92 rfl rfl (.bool false) (exec_move (.tmp 91) rfl _ rfl) ?_
  go_frame
  refine wpList_runG 93 rfl (by first | rfl | kernel_rfl) (.int .i64 k1) (exec_move (.tmp 14) rfl _ rfl) ?_
  go_frame
  refine wpList_runG 94 rfl (by first | rfl | kernel_rfl) (.pointer (some ⟨gG, 1, none⟩)) (exec_fieldAddr 38 (.tmp 15) 1 rfl _ _ rfl (fa_rivermarkref05_Counted_1_0 _ _)) ?_
  go_frame
  refine wpList_runG 95 rfl (by first | rfl | kernel_rfl) (.int .i64 k1) (exec_load 27 (.tmp 94) rfl _ _ rfl (run_load_cell flat_api_Errno (HG.out.cell 1))) ?_
  go_frame
  refine wpList_runG 96 rfl (by first | rfl | kernel_rfl) (.bool false) (exec_neqT _ _ _ _ rfl .i64 (k1) rfl rfl) ?_
  go_frame
  refine wpList_run 97 rfl rfl (.bool false) (exec_pickF _ _ _ rfl (.bool false) rfl rfl) ?_
  go_frame
  refine wpList_run 98 rfl rfl (.bool false) (exec_move (.tmp 97) rfl _ rfl) ?_
  go_frame
  refine wpList_runG 99 rfl (by first | rfl | kernel_rfl) (.int .i64 n2) (exec_move (.tmp 16) rfl _ rfl) ?_
  go_frame
  refine wpList_runG 100 rfl (by first | rfl | kernel_rfl) (.pointer (some ⟨gK, 0, none⟩)) (exec_fieldAddr 38 (.tmp 18) 0 rfl _ _ rfl (fa_rivermarkref05_Counted_0_0 _ _)) ?_
  go_frame
  refine wpList_runG 101 rfl (by first | rfl | kernel_rfl) (.int .i64 n2) (exec_load 3 (.tmp 100) rfl _ _ rfl (run_load_cell flat_int (HK.out.cell 0))) ?_
  go_frame
  refine wpList_runG 102 rfl (by first | rfl | kernel_rfl) (.bool false) (exec_neqT _ _ _ _ rfl .i64 (n2) rfl rfl) ?_
  go_frame
  refine wpList_run 103 rfl rfl (.bool false) (exec_pickF _ _ _ rfl (.bool false) rfl rfl) ?_
  go_frame
  refine wpList_run 104 rfl rfl (.bool false) (exec_move (.tmp 103) rfl _ rfl) ?_
  go_frame
  refine wpList_runG 105 rfl (by first | rfl | kernel_rfl) (.int .i64 k2) (exec_move (.tmp 17) rfl _ rfl) ?_
  go_frame
  refine wpList_runG 106 rfl (by first | rfl | kernel_rfl) (.pointer (some ⟨gK, 1, none⟩)) (exec_fieldAddr 38 (.tmp 18) 1 rfl _ _ rfl (fa_rivermarkref05_Counted_1_0 _ _)) ?_
  go_frame
  refine wpList_runG 107 rfl (by first | rfl | kernel_rfl) (.int .i64 k2) (exec_load 27 (.tmp 106) rfl _ _ rfl (run_load_cell flat_api_Errno (HK.out.cell 1))) ?_
  go_frame
  refine wpList_runG 108 rfl (by first | rfl | kernel_rfl) (.bool false) (exec_neqT _ _ _ _ rfl .i64 (k2) rfl rfl) ?_
  go_frame
  refine wpList_run 109 rfl rfl (.bool false) (exec_pickF _ _ _ rfl (.bool false) rfl rfl) ?_
  go_frame
  refine wpList_nil ?_
  clear HA HB HC HD HG HK
  go_wp2_with fail
  refine late_begin (S := fun _ W => Blk W w.heap.size 23 [.bool x.neg, .string x.n, .string x.d] ∧ Blk W (w.heap.size + 1) 23 [.bool y.neg, .string y.n, .string y.d] ∧ Blk W (w.heap.size + 1 + 1) 24 [.int .i64 m0, .int .i64 n0]) (by kernel_rfl) ?_
  have hX0 := HX.out.drew
  have hY0 := HY.out.drew
  have hN0 := HN.out.drew
  have hW0 := HW.out.drew
  have hE0 := HE.out.next (Below.refl _ _).drew
  generalize w16.drew = u0 at hX0 hY0 hN0 hW0 hE0 ⊢
  clear HX HY HN HW HE
  refine late_take [] (i := 0) (some 110) rfl rfl (by first | rfl | kernel_rfl) (by kernel_rfl) (by kernel_rfl) (by kernel_rfl) (by kernel_rfl) (by kernel_rfl) (fun Ls W h => h) (rv x) (fun _ _ _ h => h) (fun Ls W hl0 hW => exec_load 23 (.tmp 3) rfl _ (rv x) rfl (run_load_part W 23 _ 0 3 _ [.bool x.neg, .string x.n, .string x.d] _ hW.1 (by simp) Tryz.underlying23 rfl size_api_Rat)) ⟨hX0, hY0, hN0⟩ ⟨hX0, hY0, hN0⟩ ?_
  go_frame
  refine late_take [] (i := 2) (some 112) rfl rfl (by first | rfl | kernel_rfl) (by kernel_rfl) (by kernel_rfl) (by kernel_rfl) (by kernel_rfl) (by kernel_rfl) (fun Ls W h => h) (rv x) (fun _ _ _ h => h) (fun Ls W hl0 hW => exec_load 23 (.tmp 3) rfl _ (rv x) rfl (run_load_part W 23 _ 0 3 _ [.bool x.neg, .string x.n, .string x.d] _ hW.1 (by simp) Tryz.underlying23 rfl size_api_Rat)) ⟨hX0, hY0, hN0⟩ ⟨hX0, hY0, hN0⟩ ?_
  go_frame
  refine late_one (i := 1) (by kernel_rfl) (op_callG (some 111) rfl rfl (by first | rfl | kernel_rfl) rfl Tryz.func16 (by kernel_rfl) (by kernel_rfl) #[rv x] rfl (F111.out u0) ?_)
  rintro e u1 ⟨rfl, hb⟩
  have hX1 := hX0.next hb
  have hY1 := hY0.next hb
  have hN1 := hN0.next hb
  have hW1 := hW0.trans (hb.mono hW0.size)
  have hE1 := hE0.next hb
  refine ⟨_, rfl, ⟨hX1, hY1, hN1⟩, ?_⟩
  go_frame
  clear hX0 hY0 hN0 hW0 hE0 hb
  refine late_one (i := 3) (by kernel_rfl) (op_callG (some 113) rfl rfl (by first | rfl | kernel_rfl) rfl Tryz.func17 (by kernel_rfl) (by kernel_rfl) #[rv x] rfl (F113.out u1) ?_)
  rintro e u2 ⟨rfl, hb⟩
  have hX2 := hX1.next hb
  have hY2 := hY1.next hb
  have hN2 := hN1.next hb
  have hW2 := hW1.trans (hb.mono hW1.size)
  have hE2 := hE1.next hb
  refine ⟨_, rfl, ⟨hX2, hY2, hN2⟩, ?_⟩
  go_frame
  clear hX1 hY1 hN1 hW1 hE1 hb
  refine late_take [] (i := 4) (some 114) rfl rfl (by first | rfl | kernel_rfl) (by kernel_rfl) (by kernel_rfl) (by kernel_rfl) (by kernel_rfl) (by kernel_rfl) (fun Ls W h => h) (.bool false) (fun _ _ _ h => h) (fun Ls W hl0 hW => exec_bin .neq 4 _ _ _ rfl (.bool v) (.bool v) _ rfl rfl (bool_guard_neq _ _ _ _) (run_bsame_neq _ _)) ⟨hX2, hY2, hN2⟩ ⟨hX2, hY2, hN2⟩ ?_
  go_frame
  refine late_take [] (i := 5) (some 115) rfl rfl (by first | rfl | kernel_rfl) (by kernel_rfl) (by kernel_rfl) (by kernel_rfl) (by kernel_rfl) (by kernel_rfl) (fun Ls W h => h) (.bool false) (fun _ _ _ h => h) (fun Ls W hl0 hW => exec_move (.tmp 114) rfl _ rfl) ⟨hX2, hY2, hN2⟩ ⟨hX2, hY2, hN2⟩ ?_
  go_frame
  refine late_take [] (i := 6) (some 116) rfl rfl (by first | rfl | kernel_rfl) (by kernel_rfl) (by kernel_rfl) (by kernel_rfl) (by kernel_rfl) (by kernel_rfl) (fun Ls W h => h) (.pointer (some ⟨(w.heap.size + 1 + 1), 0, none⟩)) (fun _ _ _ h => h) (fun Ls W hl0 hW => exec_indexAddr 24 (.tmp 5) (.const (.int .i64 0)) rfl _ _ _ rfl rfl (ia__2_int_0_0 _ _)) ⟨hX2, hY2, hN2⟩ ⟨hX2, hY2, hN2⟩ ?_
  go_frame
  refine late_take [] (i := 7) (some 117) rfl rfl (by first | rfl | kernel_rfl) (by kernel_rfl) (by kernel_rfl) (by kernel_rfl) (by kernel_rfl) (by kernel_rfl) (fun Ls W h => h) (.int .i64 m0) (fun _ _ _ h => h) (fun Ls W hl0 hW => exec_load 3 (.tmp 116) rfl _ _ rfl (run_load_cell flat_int (hW.2.2.cell 0))) ⟨hX2, hY2, hN2⟩ ⟨hX2, hY2, hN2⟩ ?_
  go_frame
  refine late_take [] (i := 9) (some 119) rfl rfl (by first | rfl | kernel_rfl) (by kernel_rfl) (by kernel_rfl) (by kernel_rfl) (by kernel_rfl) (by kernel_rfl) (fun Ls W h => h) (.pointer (some ⟨(w.heap.size + 1 + 1), 0, none⟩)) (fun _ _ _ h => h) (fun Ls W hl0 hW => exec_indexAddr 24 (.tmp 5) (.const (.int .i64 0)) rfl _ _ _ rfl rfl (ia__2_int_0_0 _ _)) ⟨hX2, hY2, hN2⟩ ⟨hX2, hY2, hN2⟩ ?_
  go_frame
  refine late_take [] (i := 10) (some 120) rfl rfl (by first | rfl | kernel_rfl) (by kernel_rfl) (by kernel_rfl) (by kernel_rfl) (by kernel_rfl) (by kernel_rfl) (fun Ls W h => h) (.int .i64 m0) (fun _ _ _ h => h) (fun Ls W hl0 hW => exec_load 3 (.tmp 119) rfl _ _ rfl (run_load_cell flat_int (hW.2.2.cell 0))) ⟨hX2, hY2, hN2⟩ ⟨hX2, hY2, hN2⟩ ?_
  go_frame
  refine late_one (i := 8) (by kernel_rfl) (op_callG (some 118) rfl rfl (by first | rfl | kernel_rfl) rfl Tryz.func18 (by kernel_rfl) (by kernel_rfl) #[.int .i64 m0] rfl (F118.out u2) ?_)
  rintro e u3 ⟨rfl, hb⟩
  have hX3 := hX2.next hb
  have hY3 := hY2.next hb
  have hN3 := hN2.next hb
  have hW3 := hW2.trans (hb.mono hW2.size)
  have hE3 := hE2.next hb
  refine ⟨_, rfl, ⟨hX3, hY3, hN3⟩, ?_⟩
  go_frame
  clear hX2 hY2 hN2 hW2 hE2 hb
  refine late_one (i := 11) (by kernel_rfl) (op_callG (some 121) rfl rfl (by first | rfl | kernel_rfl) rfl Tryz.func19 (by kernel_rfl) (by kernel_rfl) #[.int .i64 m0] rfl (F121.out u3) ?_)
  rintro e u4 ⟨rfl, hb⟩
  have hX4 := hX3.next hb
  have hY4 := hY3.next hb
  have hN4 := hN3.next hb
  have hW4 := hW3.trans (hb.mono hW3.size)
  have hE4 := hE3.next hb
  refine ⟨_, rfl, ⟨hX4, hY4, hN4⟩, ?_⟩
  go_frame
  clear hX3 hY3 hN3 hW3 hE3 hb
  refine late_take [] (i := 12) (some 122) rfl rfl (by first | rfl | kernel_rfl) (by kernel_rfl) (by kernel_rfl) (by kernel_rfl) (by kernel_rfl) (by kernel_rfl) (fun Ls W h => h) (.bool false) (fun _ _ _ h => h) (fun Ls W hl0 hW => exec_bin .neq 23 _ _ _ rfl (rv r3) (rv r3) _ rfl rfl (rat_guardN _ _ _ _ _) (run_sameR r3 _)) ⟨hX4, hY4, hN4⟩ ⟨hX4, hY4, hN4⟩ ?_
  go_frame
  refine late_take [] (i := 13) (some 123) rfl rfl (by first | rfl | kernel_rfl) (by kernel_rfl) (by kernel_rfl) (by kernel_rfl) (by kernel_rfl) (by kernel_rfl) (fun Ls W h => h) (.bool false) (fun _ _ _ h => h) (fun Ls W hl0 hW => exec_pickF _ _ _ rfl (.bool false) rfl rfl) ⟨hX4, hY4, hN4⟩ ⟨hX4, hY4, hN4⟩ ?_
  go_frame
  refine late_take [] (i := 14) (some 124) rfl rfl (by first | rfl | kernel_rfl) (by kernel_rfl) (by kernel_rfl) (by kernel_rfl) (by kernel_rfl) (by kernel_rfl) (fun Ls W h => h) (.bool false) (fun _ _ _ h => h) (fun Ls W hl0 hW => exec_move (.tmp 123) rfl _ rfl) ⟨hX4, hY4, hN4⟩ ⟨hX4, hY4, hN4⟩ ?_
  go_frame
  refine late_take [] (i := 15) (some 125) rfl rfl (by first | rfl | kernel_rfl) (by kernel_rfl) (by kernel_rfl) (by kernel_rfl) (by kernel_rfl) (by kernel_rfl) (fun Ls W h => h) (rv x) (fun _ _ _ h => h) (fun Ls W hl0 hW => exec_load 23 (.tmp 3) rfl _ (rv x) rfl (run_load_part W 23 _ 0 3 _ [.bool x.neg, .string x.n, .string x.d] _ hW.1 (by simp) Tryz.underlying23 rfl size_api_Rat)) ⟨hX4, hY4, hN4⟩ ⟨hX4, hY4, hN4⟩ ?_
  go_frame
  refine late_take [] (i := 17) (some 127) rfl rfl (by first | rfl | kernel_rfl) (by kernel_rfl) (by kernel_rfl) (by kernel_rfl) (by kernel_rfl) (by kernel_rfl) (fun Ls W h => h) (rv x) (fun _ _ _ h => h) (fun Ls W hl0 hW => exec_load 23 (.tmp 3) rfl _ (rv x) rfl (run_load_part W 23 _ 0 3 _ [.bool x.neg, .string x.n, .string x.d] _ hW.1 (by simp) Tryz.underlying23 rfl size_api_Rat)) ⟨hX4, hY4, hN4⟩ ⟨hX4, hY4, hN4⟩ ?_
  go_frame
  refine late_one (i := 16) (by kernel_rfl) (op_callG (some 126) rfl rfl (by first | rfl | kernel_rfl) rfl Tryz.func20 (by kernel_rfl) (by kernel_rfl) #[rv x] rfl (F126.out u4) ?_)
  rintro e u5 ⟨rfl, hb⟩
  have hX5 := hX4.next hb
  have hY5 := hY4.next hb
  have hN5 := hN4.next hb
  have hW5 := hW4.trans (hb.mono hW4.size)
  have hE5 := hE4.next hb
  refine ⟨_, rfl, ⟨hX5, hY5, hN5⟩, ?_⟩
  go_frame
  clear hX4 hY4 hN4 hW4 hE4 hb
  refine late_one (i := 18) (by kernel_rfl) (op_callG (some 128) rfl rfl (by first | rfl | kernel_rfl) rfl Tryz.func21 (by kernel_rfl) (by kernel_rfl) #[rv x] rfl (F128.out u5) ?_)
  rintro e u6 ⟨rfl, hb⟩
  have hX6 := hX5.next hb
  have hY6 := hY5.next hb
  have hN6 := hN5.next hb
  have hW6 := hW5.trans (hb.mono hW5.size)
  have hE6 := hE5.next hb
  refine ⟨_, rfl, ⟨hX6, hY6, hN6⟩, ?_⟩
  go_frame
  clear hX5 hY5 hN5 hW5 hE5 hb
  refine late_take [] (i := 19) (some 129) rfl rfl (by first | rfl | kernel_rfl) (by kernel_rfl) (by kernel_rfl) (by kernel_rfl) (by kernel_rfl) (by kernel_rfl) (fun Ls W h => h) (.bool false) (fun _ _ _ h => h) (fun Ls W hl0 hW => exec_bin .neq 23 _ _ _ rfl (rv r4) (rv r4) _ rfl rfl (rat_guardN _ _ _ _ _) (run_sameR r4 _)) ⟨hX6, hY6, hN6⟩ ⟨hX6, hY6, hN6⟩ ?_
  go_frame
  refine late_take [] (i := 20) (some 130) rfl rfl (by first | rfl | kernel_rfl) (by kernel_rfl) (by kernel_rfl) (by kernel_rfl) (by kernel_rfl) (by kernel_rfl) (fun Ls W h => h) (.bool false) (fun _ _ _ h => h) (fun Ls W hl0 hW => exec_pickF _ _ _ rfl (.bool false) rfl rfl) ⟨hX6, hY6, hN6⟩ ⟨hX6, hY6, hN6⟩ ?_
  go_frame
  refine late_take [] (i := 21) (some 131) rfl rfl (by first | rfl | kernel_rfl) (by kernel_rfl) (by kernel_rfl) (by kernel_rfl) (by kernel_rfl) (by kernel_rfl) (fun Ls W h => h) (.bool false) (fun _ _ _ h => h) (fun Ls W hl0 hW => exec_move (.tmp 130) rfl _ rfl) ⟨hX6, hY6, hN6⟩ ⟨hX6, hY6, hN6⟩ ?_
  go_frame
  refine late_take [] (i := 22) (some 132) rfl rfl (by first | rfl | kernel_rfl) (by kernel_rfl) (by kernel_rfl) (by kernel_rfl) (by kernel_rfl) (by kernel_rfl) (fun Ls W h => h) (rv x) (fun _ _ _ h => h) (fun Ls W hl0 hW => exec_load 23 (.tmp 3) rfl _ (rv x) rfl (run_load_part W 23 _ 0 3 _ [.bool x.neg, .string x.n, .string x.d] _ hW.1 (by simp) Tryz.underlying23 rfl size_api_Rat)) ⟨hX6, hY6, hN6⟩ ⟨hX6, hY6, hN6⟩ ?_
  go_frame
  refine late_take [] (i := 23) (some 133) rfl rfl (by first | rfl | kernel_rfl) (by kernel_rfl) (by kernel_rfl) (by kernel_rfl) (by kernel_rfl) (by kernel_rfl) (fun Ls W h => h) (rv y) (fun _ _ _ h => h) (fun Ls W hl0 hW => exec_load 23 (.tmp 4) rfl _ (rv y) rfl (run_load_part W 23 _ 0 3 _ [.bool y.neg, .string y.n, .string y.d] _ hW.2.1 (by simp) Tryz.underlying23 rfl size_api_Rat)) ⟨hX6, hY6, hN6⟩ ⟨hX6, hY6, hN6⟩ ?_
  go_frame
  refine late_take [] (i := 25) (some 135) rfl rfl (by first | rfl | kernel_rfl) (by kernel_rfl) (by kernel_rfl) (by kernel_rfl) (by kernel_rfl) (by kernel_rfl) (fun Ls W h => h) (rv x) (fun _ _ _ h => h) (fun Ls W hl0 hW => exec_load 23 (.tmp 3) rfl _ (rv x) rfl (run_load_part W 23 _ 0 3 _ [.bool x.neg, .string x.n, .string x.d] _ hW.1 (by simp) Tryz.underlying23 rfl size_api_Rat)) ⟨hX6, hY6, hN6⟩ ⟨hX6, hY6, hN6⟩ ?_
  go_frame
  refine late_take [] (i := 26) (some 136) rfl rfl (by first | rfl | kernel_rfl) (by kernel_rfl) (by kernel_rfl) (by kernel_rfl) (by kernel_rfl) (by kernel_rfl) (fun Ls W h => h) (rv y) (fun _ _ _ h => h) (fun Ls W hl0 hW => exec_load 23 (.tmp 4) rfl _ (rv y) rfl (run_load_part W 23 _ 0 3 _ [.bool y.neg, .string y.n, .string y.d] _ hW.2.1 (by simp) Tryz.underlying23 rfl size_api_Rat)) ⟨hX6, hY6, hN6⟩ ⟨hX6, hY6, hN6⟩ ?_
  go_frame
  refine late_one (i := 24) (by kernel_rfl) (op_callG (some 134) rfl rfl (by first | rfl | kernel_rfl) rfl Tryz.func22 (by kernel_rfl) (by kernel_rfl) #[rv x, rv y] rfl (F134.out u6) ?_)
  rintro e u7 ⟨rfl, hb⟩
  have hX7 := hX6.next hb
  have hY7 := hY6.next hb
  have hN7 := hN6.next hb
  have hW7 := hW6.trans (hb.mono hW6.size)
  have hE7 := hE6.next hb
  refine ⟨_, rfl, ⟨hX7, hY7, hN7⟩, ?_⟩
  go_frame
  clear hX6 hY6 hN6 hW6 hE6 hb
  refine late_one (i := 27) (by kernel_rfl) (op_callG (some 137) rfl rfl (by first | rfl | kernel_rfl) rfl Tryz.func23 (by kernel_rfl) (by kernel_rfl) #[rv x, rv y] rfl (F137.out u7) ?_)
  rintro e u8 ⟨rfl, hb⟩
  have hX8 := hX7.next hb
  have hY8 := hY7.next hb
  have hN8 := hN7.next hb
  have hW8 := hW7.trans (hb.mono hW7.size)
  have hE8 := hE7.next hb
  refine ⟨_, rfl, ⟨hX8, hY8, hN8⟩, ?_⟩
  go_frame
  clear hX7 hY7 hN7 hW7 hE7 hb
  refine late_take [] (i := 28) (some 138) rfl rfl (by first | rfl | kernel_rfl) (by kernel_rfl) (by kernel_rfl) (by kernel_rfl) (by kernel_rfl) (by kernel_rfl) (fun Ls W h => h) (.bool false) (fun _ _ _ h => h) (fun Ls W hl0 hW => exec_bin .neq 23 _ _ _ rfl (rv r5) (rv r5) _ rfl rfl (rat_guardN _ _ _ _ _) (run_sameR r5 _)) ⟨hX8, hY8, hN8⟩ ⟨hX8, hY8, hN8⟩ ?_
  go_frame
  refine late_take [] (i := 29) (some 139) rfl rfl (by first | rfl | kernel_rfl) (by kernel_rfl) (by kernel_rfl) (by kernel_rfl) (by kernel_rfl) (by kernel_rfl) (fun Ls W h => h) (.bool false) (fun _ _ _ h => h) (fun Ls W hl0 hW => exec_pickF _ _ _ rfl (.bool false) rfl rfl) ⟨hX8, hY8, hN8⟩ ⟨hX8, hY8, hN8⟩ ?_
  go_frame
  refine late_take [] (i := 30) (some 140) rfl rfl (by first | rfl | kernel_rfl) (by kernel_rfl) (by kernel_rfl) (by kernel_rfl) (by kernel_rfl) (by kernel_rfl) (fun Ls W h => h) (.bool false) (fun _ _ _ h => h) (fun Ls W hl0 hW => exec_move (.tmp 139) rfl _ rfl) ⟨hX8, hY8, hN8⟩ ⟨hX8, hY8, hN8⟩ ?_
  go_frame
  refine late_take [] (i := 31) (some 141) rfl rfl (by first | rfl | kernel_rfl) (by kernel_rfl) (by kernel_rfl) (by kernel_rfl) (by kernel_rfl) (by kernel_rfl) (fun Ls W h => h) (rv x) (fun _ _ _ h => h) (fun Ls W hl0 hW => exec_load 23 (.tmp 3) rfl _ (rv x) rfl (run_load_part W 23 _ 0 3 _ [.bool x.neg, .string x.n, .string x.d] _ hW.1 (by simp) Tryz.underlying23 rfl size_api_Rat)) ⟨hX8, hY8, hN8⟩ ⟨hX8, hY8, hN8⟩ ?_
  go_frame
  refine late_take [] (i := 32) (some 142) rfl rfl (by first | rfl | kernel_rfl) (by kernel_rfl) (by kernel_rfl) (by kernel_rfl) (by kernel_rfl) (by kernel_rfl) (fun Ls W h => h) (rv y) (fun _ _ _ h => h) (fun Ls W hl0 hW => exec_load 23 (.tmp 4) rfl _ (rv y) rfl (run_load_part W 23 _ 0 3 _ [.bool y.neg, .string y.n, .string y.d] _ hW.2.1 (by simp) Tryz.underlying23 rfl size_api_Rat)) ⟨hX8, hY8, hN8⟩ ⟨hX8, hY8, hN8⟩ ?_
  go_frame
  refine late_take [] (i := 34) (some 144) rfl rfl (by first | rfl | kernel_rfl) (by kernel_rfl) (by kernel_rfl) (by kernel_rfl) (by kernel_rfl) (by kernel_rfl) (fun Ls W h => h) (rv x) (fun _ _ _ h => h) (fun Ls W hl0 hW => exec_load 23 (.tmp 3) rfl _ (rv x) rfl (run_load_part W 23 _ 0 3 _ [.bool x.neg, .string x.n, .string x.d] _ hW.1 (by simp) Tryz.underlying23 rfl size_api_Rat)) ⟨hX8, hY8, hN8⟩ ⟨hX8, hY8, hN8⟩ ?_
  go_frame
  refine late_take [] (i := 35) (some 145) rfl rfl (by first | rfl | kernel_rfl) (by kernel_rfl) (by kernel_rfl) (by kernel_rfl) (by kernel_rfl) (by kernel_rfl) (fun Ls W h => h) (rv y) (fun _ _ _ h => h) (fun Ls W hl0 hW => exec_load 23 (.tmp 4) rfl _ (rv y) rfl (run_load_part W 23 _ 0 3 _ [.bool y.neg, .string y.n, .string y.d] _ hW.2.1 (by simp) Tryz.underlying23 rfl size_api_Rat)) ⟨hX8, hY8, hN8⟩ ⟨hX8, hY8, hN8⟩ ?_
  go_frame
  refine late_one (i := 33) (by kernel_rfl) (op_callG (some 143) rfl rfl (by first | rfl | kernel_rfl) rfl Tryz.func24 (by kernel_rfl) (by kernel_rfl) #[rv x, rv y] rfl (F143.out u8) ?_)
  rintro e u9 ⟨rfl, hb⟩
  have hX9 := hX8.next hb
  have hY9 := hY8.next hb
  have hN9 := hN8.next hb
  have hW9 := hW8.trans (hb.mono hW8.size)
  have hE9 := hE8.next hb
  refine ⟨_, rfl, ⟨hX9, hY9, hN9⟩, ?_⟩
  go_frame
  clear hX8 hY8 hN8 hW8 hE8 hb
  refine late_one (i := 36) (by kernel_rfl) (op_callG (some 146) rfl rfl (by first | rfl | kernel_rfl) rfl Tryz.func25 (by kernel_rfl) (by kernel_rfl) #[rv x, rv y] rfl (F146.out u9) ?_)
  rintro e u10 ⟨rfl, hb⟩
  have hX10 := hX9.next hb
  have hY10 := hY9.next hb
  have hN10 := hN9.next hb
  have hW10 := hW9.trans (hb.mono hW9.size)
  have hE10 := hE9.next hb
  refine ⟨_, rfl, ⟨hX10, hY10, hN10⟩, ?_⟩
  go_frame
  clear hX9 hY9 hN9 hW9 hE9 hb
  refine late_take [] (i := 37) (some 147) rfl rfl (by first | rfl | kernel_rfl) (by kernel_rfl) (by kernel_rfl) (by kernel_rfl) (by kernel_rfl) (by kernel_rfl) (fun Ls W h => h) (.bool false) (fun _ _ _ h => h) (fun Ls W hl0 hW => exec_bin .neq 23 _ _ _ rfl (rv r6) (rv r6) _ rfl rfl (rat_guardN _ _ _ _ _) (run_sameR r6 _)) ⟨hX10, hY10, hN10⟩ ⟨hX10, hY10, hN10⟩ ?_
  go_frame
  refine late_take [] (i := 38) (some 148) rfl rfl (by first | rfl | kernel_rfl) (by kernel_rfl) (by kernel_rfl) (by kernel_rfl) (by kernel_rfl) (by kernel_rfl) (fun Ls W h => h) (.bool false) (fun _ _ _ h => h) (fun Ls W hl0 hW => exec_pickF _ _ _ rfl (.bool false) rfl rfl) ⟨hX10, hY10, hN10⟩ ⟨hX10, hY10, hN10⟩ ?_
  go_frame
  refine late_take [] (i := 39) (some 149) rfl rfl (by first | rfl | kernel_rfl) (by kernel_rfl) (by kernel_rfl) (by kernel_rfl) (by kernel_rfl) (by kernel_rfl) (fun Ls W h => h) (.bool false) (fun _ _ _ h => h) (fun Ls W hl0 hW => exec_move (.tmp 148) rfl _ rfl) ⟨hX10, hY10, hN10⟩ ⟨hX10, hY10, hN10⟩ ?_
  go_frame
  refine late_take [] (i := 40) (some 150) rfl rfl (by first | rfl | kernel_rfl) (by kernel_rfl) (by kernel_rfl) (by kernel_rfl) (by kernel_rfl) (by kernel_rfl) (fun Ls W h => h) (rv x) (fun _ _ _ h => h) (fun Ls W hl0 hW => exec_load 23 (.tmp 3) rfl _ (rv x) rfl (run_load_part W 23 _ 0 3 _ [.bool x.neg, .string x.n, .string x.d] _ hW.1 (by simp) Tryz.underlying23 rfl size_api_Rat)) ⟨hX10, hY10, hN10⟩ ⟨hX10, hY10, hN10⟩ ?_
  go_frame
  refine late_take [] (i := 41) (some 151) rfl rfl (by first | rfl | kernel_rfl) (by kernel_rfl) (by kernel_rfl) (by kernel_rfl) (by kernel_rfl) (by kernel_rfl) (fun Ls W h => h) (rv y) (fun _ _ _ h => h) (fun Ls W hl0 hW => exec_load 23 (.tmp 4) rfl _ (rv y) rfl (run_load_part W 23 _ 0 3 _ [.bool y.neg, .string y.n, .string y.d] _ hW.2.1 (by simp) Tryz.underlying23 rfl size_api_Rat)) ⟨hX10, hY10, hN10⟩ ⟨hX10, hY10, hN10⟩ ?_
  go_frame
  refine late_take [] (i := 43) (some 153) rfl rfl (by first | rfl | kernel_rfl) (by kernel_rfl) (by kernel_rfl) (by kernel_rfl) (by kernel_rfl) (by kernel_rfl) (fun Ls W h => h) (rv x) (fun _ _ _ h => h) (fun Ls W hl0 hW => exec_load 23 (.tmp 3) rfl _ (rv x) rfl (run_load_part W 23 _ 0 3 _ [.bool x.neg, .string x.n, .string x.d] _ hW.1 (by simp) Tryz.underlying23 rfl size_api_Rat)) ⟨hX10, hY10, hN10⟩ ⟨hX10, hY10, hN10⟩ ?_
  go_frame
  refine late_take [] (i := 44) (some 154) rfl rfl (by first | rfl | kernel_rfl) (by kernel_rfl) (by kernel_rfl) (by kernel_rfl) (by kernel_rfl) (by kernel_rfl) (fun Ls W h => h) (rv y) (fun _ _ _ h => h) (fun Ls W hl0 hW => exec_load 23 (.tmp 4) rfl _ (rv y) rfl (run_load_part W 23 _ 0 3 _ [.bool y.neg, .string y.n, .string y.d] _ hW.2.1 (by simp) Tryz.underlying23 rfl size_api_Rat)) ⟨hX10, hY10, hN10⟩ ⟨hX10, hY10, hN10⟩ ?_
  go_frame
  refine late_one (i := 42) (by kernel_rfl) (op_callG (some 152) rfl rfl (by first | rfl | kernel_rfl) rfl Tryz.func26 (by kernel_rfl) (by kernel_rfl) #[rv x, rv y] rfl (F152.out u10) ?_)
  rintro e u11 ⟨rfl, hb⟩
  have hX11 := hX10.next hb
  have hY11 := hY10.next hb
  have hN11 := hN10.next hb
  have hW11 := hW10.trans (hb.mono hW10.size)
  have hE11 := hE10.next hb
  refine ⟨_, rfl, ⟨hX11, hY11, hN11⟩, ?_⟩
  go_frame
  clear hX10 hY10 hN10 hW10 hE10 hb
  refine late_one (i := 45) (by kernel_rfl) (op_callG (some 155) rfl rfl (by first | rfl | kernel_rfl) rfl Tryz.func27 (by kernel_rfl) (by kernel_rfl) #[rv x, rv y] rfl (F155.out u11) ?_)
  rintro e u12 ⟨rfl, hb⟩
  have hX12 := hX11.next hb
  have hY12 := hY11.next hb
  have hN12 := hN11.next hb
  have hW12 := hW11.trans (hb.mono hW11.size)
  have hE12 := hE11.next hb
  refine ⟨_, rfl, ⟨hX12, hY12, hN12⟩, ?_⟩
  go_frame
  clear hX11 hY11 hN11 hW11 hE11 hb
  refine late_take [] (i := 46) (some 156) rfl rfl (by first | rfl | kernel_rfl) (by kernel_rfl) (by kernel_rfl) (by kernel_rfl) (by kernel_rfl) (by kernel_rfl) (fun Ls W h => h) (.bool false) (fun _ _ _ h => h) (fun Ls W hl0 hW => exec_bin .neq 23 _ _ _ rfl (rv r7) (rv r7) _ rfl rfl (rat_guardN _ _ _ _ _) (run_sameR r7 _)) ⟨hX12, hY12, hN12⟩ ⟨hX12, hY12, hN12⟩ ?_
  go_frame
  refine late_take [] (i := 47) (some 157) rfl rfl (by first | rfl | kernel_rfl) (by kernel_rfl) (by kernel_rfl) (by kernel_rfl) (by kernel_rfl) (by kernel_rfl) (fun Ls W h => h) (.bool false) (fun _ _ _ h => h) (fun Ls W hl0 hW => exec_pickF _ _ _ rfl (.bool false) rfl rfl) ⟨hX12, hY12, hN12⟩ ⟨hX12, hY12, hN12⟩ ?_
  refine late_done (by kernel_rfl) ?_ _
  go_frame
  have HX := Lib.hid hX12
  have HY := Lib.hid hY12
  have HN := Lib.hid hN12
  have HW := Lib.hid hW12
  have HE := Lib.hid hE12
  clear hX12 hY12 hN12 hW12 hE12
  go_wp2_with fail
  refine late_begin (S := fun _ W => Blk W w.heap.size 23 [.bool x.neg, .string x.n, .string x.d] ∧ Blk W (w.heap.size + 1) 23 [.bool y.neg, .string y.n, .string y.d] ∧ Blk W (w.heap.size + 1 + 1) 24 [.int .i64 m0, .int .i64 n0]) (by kernel_rfl) ?_
  have hX0 := HX.out.drew
  have hY0 := HY.out.drew
  have hN0 := HN.out.drew
  have hW0 := HW.out.drew
  have hE0 := HE.out.next (Below.refl _ _).drew
  generalize u12.drew = u0 at hX0 hY0 hN0 hW0 hE0 ⊢
  clear HX HY HN HW HE
  refine late_one (i := 0) (by kernel_rfl) (op_callG (some 158) rfl rfl (by first | rfl | kernel_rfl) rfl Tryz.func7 (by kernel_rfl) (by kernel_rfl) #[] rfl (qsanity_any _ hE0) ?_)
  rintro e u1 ⟨rfl, hb⟩
  have hX1 := hX0.next hb
  have hY1 := hY0.next hb
  have hN1 := hN0.next hb
  have hW1 := hW0.trans (hb.mono hW0.size)
  have hE1 := hE0.next hb
  refine ⟨_, rfl, ⟨hX1, hY1, hN1⟩, ?_⟩
  go_frame
  clear hX0 hY0 hN0 hW0 hE0 hb
  refine late_take [] (i := 1) (some 159) rfl rfl (by first | rfl | kernel_rfl) (by kernel_rfl) (by kernel_rfl) (by kernel_rfl) (by kernel_rfl) (by kernel_rfl) (fun Ls W h => h) (.bool true) (fun _ _ _ h => h) (fun Ls W hl0 hW => exec_move (.tmp 158) rfl _ rfl) ⟨hX1, hY1, hN1⟩ ⟨hX1, hY1, hN1⟩ ?_
  go_frame
  refine late_take [] (i := 2) (some 160) rfl rfl (by first | rfl | kernel_rfl) (by kernel_rfl) (by kernel_rfl) (by kernel_rfl) (by kernel_rfl) (by kernel_rfl) (fun Ls W h => h) (rv x) (fun _ _ _ h => h) (fun Ls W hl0 hW => exec_load 23 (.tmp 3) rfl _ (rv x) rfl (run_load_part W 23 _ 0 3 _ [.bool x.neg, .string x.n, .string x.d] _ hW.1 (by simp) Tryz.underlying23 rfl size_api_Rat)) ⟨hX1, hY1, hN1⟩ ⟨hX1, hY1, hN1⟩ ?_
  go_frame
  refine late_take [] (i := 3) (some 161) rfl rfl (by first | rfl | kernel_rfl) (by kernel_rfl) (by kernel_rfl) (by kernel_rfl) (by kernel_rfl) (by kernel_rfl) (fun Ls W h => h) (rv y) (fun _ _ _ h => h) (fun Ls W hl0 hW => exec_load 23 (.tmp 4) rfl _ (rv y) rfl (run_load_part W 23 _ 0 3 _ [.bool y.neg, .string y.n, .string y.d] _ hW.2.1 (by simp) Tryz.underlying23 rfl size_api_Rat)) ⟨hX1, hY1, hN1⟩ ⟨hX1, hY1, hN1⟩ ?_
  go_frame
  refine late_take [] (i := 5) (some 163) rfl rfl (by first | rfl | kernel_rfl) (by kernel_rfl) (by kernel_rfl) (by kernel_rfl) (by kernel_rfl) (by kernel_rfl) (fun Ls W h => h) (rv x) (fun _ _ _ h => h) (fun Ls W hl0 hW => exec_load 23 (.tmp 3) rfl _ (rv x) rfl (run_load_part W 23 _ 0 3 _ [.bool x.neg, .string x.n, .string x.d] _ hW.1 (by simp) Tryz.underlying23 rfl size_api_Rat)) ⟨hX1, hY1, hN1⟩ ⟨hX1, hY1, hN1⟩ ?_
  go_frame
  refine late_take [] (i := 6) (some 164) rfl rfl (by first | rfl | kernel_rfl) (by kernel_rfl) (by kernel_rfl) (by kernel_rfl) (by kernel_rfl) (by kernel_rfl) (fun Ls W h => h) (rv y) (fun _ _ _ h => h) (fun Ls W hl0 hW => exec_load 23 (.tmp 4) rfl _ (rv y) rfl (run_load_part W 23 _ 0 3 _ [.bool y.neg, .string y.n, .string y.d] _ hW.2.1 (by simp) Tryz.underlying23 rfl size_api_Rat)) ⟨hX1, hY1, hN1⟩ ⟨hX1, hY1, hN1⟩ ?_
  go_frame
  refine late_one (i := 4) (by kernel_rfl) (op_callG (some 162) rfl rfl (by first | rfl | kernel_rfl) rfl Tryz.func28 (by kernel_rfl) (by kernel_rfl) #[rv x, rv y] rfl (F162.out u1) ?_)
  rintro e u2 ⟨rfl, hb⟩
  have hX2 := hX1.next hb
  have hY2 := hY1.next hb
  have hN2 := hN1.next hb
  have hW2 := hW1.trans (hb.mono hW1.size)
  have hE2 := hE1.next hb
  refine ⟨_, rfl, ⟨hX2, hY2, hN2⟩, ?_⟩
  go_frame
  clear hX1 hY1 hN1 hW1 hE1 hb
  refine late_one (i := 7) (by kernel_rfl) (op_callG (some 165) rfl rfl (by first | rfl | kernel_rfl) rfl Tryz.func29 (by kernel_rfl) (by kernel_rfl) #[rv x, rv y] rfl (F165.out u2) ?_)
  rintro e u3 ⟨rfl, hb⟩
  have hX3 := hX2.next hb
  have hY3 := hY2.next hb
  have hN3 := hN2.next hb
  have hW3 := hW2.trans (hb.mono hW2.size)
  have hE3 := hE2.next hb
  refine ⟨_, rfl, ⟨hX3, hY3, hN3⟩, ?_⟩
  go_frame
  clear hX2 hY2 hN2 hW2 hE2 hb
  refine late_take [] (i := 8) (some 166) rfl rfl (by first | rfl | kernel_rfl) (by kernel_rfl) (by kernel_rfl) (by kernel_rfl) (by kernel_rfl) (by kernel_rfl) (fun Ls W h => h) (.bool true) (fun _ _ _ h => h) (fun Ls W hl0 hW => exec_eqT _ _ _ _ rfl .i64 (c) rfl rfl) ⟨hX3, hY3, hN3⟩ ⟨hX3, hY3, hN3⟩ ?_
  go_frame
  refine late_take [] (i := 9) (some 167) rfl rfl (by first | rfl | kernel_rfl) (by kernel_rfl) (by kernel_rfl) (by kernel_rfl) (by kernel_rfl) (by kernel_rfl) (fun Ls W h => h) (.bool true) (fun _ _ _ h => h) (fun Ls W hl0 hW => exec_pickT _ _ _ rfl (.bool true) rfl rfl) ⟨hX3, hY3, hN3⟩ ⟨hX3, hY3, hN3⟩ ?_
  go_frame
  refine late_take [] (i := 10) (some 168) rfl rfl (by first | rfl | kernel_rfl) (by kernel_rfl) (by kernel_rfl) (by kernel_rfl) (by kernel_rfl) (by kernel_rfl) (fun Ls W h => h) (.bool true) (fun _ _ _ h => h) (fun Ls W hl0 hW => exec_move (.tmp 167) rfl _ rfl) ⟨hX3, hY3, hN3⟩ ⟨hX3, hY3, hN3⟩ ?_
  go_frame
  refine late_take [] (i := 11) (some 169) rfl rfl (by first | rfl | kernel_rfl) (by kernel_rfl) (by kernel_rfl) (by kernel_rfl) (by kernel_rfl) (by kernel_rfl) (fun Ls W h => h) (rv x) (fun _ _ _ h => h) (fun Ls W hl0 hW => exec_load 23 (.tmp 3) rfl _ (rv x) rfl (run_load_part W 23 _ 0 3 _ [.bool x.neg, .string x.n, .string x.d] _ hW.1 (by simp) Tryz.underlying23 rfl size_api_Rat)) ⟨hX3, hY3, hN3⟩ ⟨hX3, hY3, hN3⟩ ?_
  go_frame
  refine late_take [] (i := 12) (some 170) rfl rfl (by first | rfl | kernel_rfl) (by kernel_rfl) (by kernel_rfl) (by kernel_rfl) (by kernel_rfl) (by kernel_rfl) (fun Ls W h => h) (rv y) (fun _ _ _ h => h) (fun Ls W hl0 hW => exec_load 23 (.tmp 4) rfl _ (rv y) rfl (run_load_part W 23 _ 0 3 _ [.bool y.neg, .string y.n, .string y.d] _ hW.2.1 (by simp) Tryz.underlying23 rfl size_api_Rat)) ⟨hX3, hY3, hN3⟩ ⟨hX3, hY3, hN3⟩ ?_
  go_frame
  refine late_take [] (i := 14) (some 172) rfl rfl (by first | rfl | kernel_rfl) (by kernel_rfl) (by kernel_rfl) (by kernel_rfl) (by kernel_rfl) (by kernel_rfl) (fun Ls W h => h) (rv x) (fun _ _ _ h => h) (fun Ls W hl0 hW => exec_load 23 (.tmp 3) rfl _ (rv x) rfl (run_load_part W 23 _ 0 3 _ [.bool x.neg, .string x.n, .string x.d] _ hW.1 (by simp) Tryz.underlying23 rfl size_api_Rat)) ⟨hX3, hY3, hN3⟩ ⟨hX3, hY3, hN3⟩ ?_
  go_frame
  refine late_take [] (i := 15) (some 173) rfl rfl (by first | rfl | kernel_rfl) (by kernel_rfl) (by kernel_rfl) (by kernel_rfl) (by kernel_rfl) (by kernel_rfl) (fun Ls W h => h) (rv y) (fun _ _ _ h => h) (fun Ls W hl0 hW => exec_load 23 (.tmp 4) rfl _ (rv y) rfl (run_load_part W 23 _ 0 3 _ [.bool y.neg, .string y.n, .string y.d] _ hW.2.1 (by simp) Tryz.underlying23 rfl size_api_Rat)) ⟨hX3, hY3, hN3⟩ ⟨hX3, hY3, hN3⟩ ?_
  go_frame
  refine late_one (i := 13) (by kernel_rfl) (op_callG (some 171) rfl rfl (by first | rfl | kernel_rfl) rfl Tryz.func30 (by kernel_rfl) (by kernel_rfl) #[rv x, rv y] rfl (F171.out u3) ?_)
  rintro e u4 ⟨rfl, hb⟩
  have hX4 := hX3.next hb
  have hY4 := hY3.next hb
  have hN4 := hN3.next hb
  have hW4 := hW3.trans (hb.mono hW3.size)
  have hE4 := hE3.next hb
  refine ⟨_, rfl, ⟨hX4, hY4, hN4⟩, ?_⟩
  go_frame
  clear hX3 hY3 hN3 hW3 hE3 hb
  refine late_one (i := 16) (by kernel_rfl) (op_callG (some 174) rfl rfl (by first | rfl | kernel_rfl) rfl Tryz.func31 (by kernel_rfl) (by kernel_rfl) #[rv x, rv y] rfl (F174.out u4) ?_)
  rintro e u5 ⟨rfl, hb⟩
  have hX5 := hX4.next hb
  have hY5 := hY4.next hb
  have hN5 := hN4.next hb
  have hW5 := hW4.trans (hb.mono hW4.size)
  have hE5 := hE4.next hb
  refine ⟨_, rfl, ⟨hX5, hY5, hN5⟩, ?_⟩
  go_frame
  clear hX4 hY4 hN4 hW4 hE4 hb
  refine late_take [] (i := 17) (some 175) rfl rfl (by first | rfl | kernel_rfl) (by kernel_rfl) (by kernel_rfl) (by kernel_rfl) (by kernel_rfl) (by kernel_rfl) (fun Ls W h => h) (.bool true) (fun _ _ _ h => h) (fun Ls W hl0 hW => exec_bin .eql 23 _ _ _ rfl (rv r8) (rv r8) _ rfl rfl (rat_guard _ _ _ _ _) (run_eqRs _ _ _ _)) ⟨hX5, hY5, hN5⟩ ⟨hX5, hY5, hN5⟩ ?_
  go_frame
  refine late_take [] (i := 18) (some 176) rfl rfl (by first | rfl | kernel_rfl) (by kernel_rfl) (by kernel_rfl) (by kernel_rfl) (by kernel_rfl) (by kernel_rfl) (fun Ls W h => h) (.bool true) (fun _ _ _ h => h) (fun Ls W hl0 hW => exec_pickT _ _ _ rfl (.bool true) rfl rfl) ⟨hX5, hY5, hN5⟩ ⟨hX5, hY5, hN5⟩ ?_
  go_frame
  refine late_take [] (i := 19) (some 177) rfl rfl (by first | rfl | kernel_rfl) (by kernel_rfl) (by kernel_rfl) (by kernel_rfl) (by kernel_rfl) (by kernel_rfl) (fun Ls W h => h) (.bool true) (fun _ _ _ h => h) (fun Ls W hl0 hW => exec_move (.tmp 176) rfl _ rfl) ⟨hX5, hY5, hN5⟩ ⟨hX5, hY5, hN5⟩ ?_
  go_frame
  refine late_take [] (i := 20) (some 178) rfl rfl (by first | rfl | kernel_rfl) (by kernel_rfl) (by kernel_rfl) (by kernel_rfl) (by kernel_rfl) (by kernel_rfl) (fun Ls W h => h) (rv x) (fun _ _ _ h => h) (fun Ls W hl0 hW => exec_load 23 (.tmp 3) rfl _ (rv x) rfl (run_load_part W 23 _ 0 3 _ [.bool x.neg, .string x.n, .string x.d] _ hW.1 (by simp) Tryz.underlying23 rfl size_api_Rat)) ⟨hX5, hY5, hN5⟩ ⟨hX5, hY5, hN5⟩ ?_
  go_frame
  refine late_take [] (i := 21) (some 179) rfl rfl (by first | rfl | kernel_rfl) (by kernel_rfl) (by kernel_rfl) (by kernel_rfl) (by kernel_rfl) (by kernel_rfl) (fun Ls W h => h) (rv y) (fun _ _ _ h => h) (fun Ls W hl0 hW => exec_load 23 (.tmp 4) rfl _ (rv y) rfl (run_load_part W 23 _ 0 3 _ [.bool y.neg, .string y.n, .string y.d] _ hW.2.1 (by simp) Tryz.underlying23 rfl size_api_Rat)) ⟨hX5, hY5, hN5⟩ ⟨hX5, hY5, hN5⟩ ?_
  go_frame
  refine late_take [] (i := 23) (some 181) rfl rfl (by first | rfl | kernel_rfl) (by kernel_rfl) (by kernel_rfl) (by kernel_rfl) (by kernel_rfl) (by kernel_rfl) (fun Ls W h => h) (rv x) (fun _ _ _ h => h) (fun Ls W hl0 hW => exec_load 23 (.tmp 3) rfl _ (rv x) rfl (run_load_part W 23 _ 0 3 _ [.bool x.neg, .string x.n, .string x.d] _ hW.1 (by simp) Tryz.underlying23 rfl size_api_Rat)) ⟨hX5, hY5, hN5⟩ ⟨hX5, hY5, hN5⟩ ?_
  go_frame
  refine late_take [] (i := 24) (some 182) rfl rfl (by first | rfl | kernel_rfl) (by kernel_rfl) (by kernel_rfl) (by kernel_rfl) (by kernel_rfl) (by kernel_rfl) (fun Ls W h => h) (rv y) (fun _ _ _ h => h) (fun Ls W hl0 hW => exec_load 23 (.tmp 4) rfl _ (rv y) rfl (run_load_part W 23 _ 0 3 _ [.bool y.neg, .string y.n, .string y.d] _ hW.2.1 (by simp) Tryz.underlying23 rfl size_api_Rat)) ⟨hX5, hY5, hN5⟩ ⟨hX5, hY5, hN5⟩ ?_
  go_frame
  refine late_one (i := 22) (by kernel_rfl) (op_callG (some 180) rfl rfl (by first | rfl | kernel_rfl) rfl Tryz.func32 (by kernel_rfl) (by kernel_rfl) #[rv x, rv y] rfl (F180.out u5) ?_)
  rintro e u6 ⟨rfl, hb⟩
  have hX6 := hX5.next hb
  have hY6 := hY5.next hb
  have hN6 := hN5.next hb
  have hW6 := hW5.trans (hb.mono hW5.size)
  have hE6 := hE5.next hb
  refine ⟨_, rfl, ⟨hX6, hY6, hN6⟩, ?_⟩
  go_frame
  clear hX5 hY5 hN5 hW5 hE5 hb
  refine late_one (i := 25) (by kernel_rfl) (op_callG (some 183) rfl rfl (by first | rfl | kernel_rfl) rfl Tryz.func33 (by kernel_rfl) (by kernel_rfl) #[rv x, rv y] rfl (F183.out u6) ?_)
  rintro e u7 ⟨rfl, hb⟩
  have hX7 := hX6.next hb
  have hY7 := hY6.next hb
  have hN7 := hN6.next hb
  have hW7 := hW6.trans (hb.mono hW6.size)
  have hE7 := hE6.next hb
  refine ⟨_, rfl, ⟨hX7, hY7, hN7⟩, ?_⟩
  go_frame
  clear hX6 hY6 hN6 hW6 hE6 hb
  refine late_take [] (i := 26) (some 184) rfl rfl (by first | rfl | kernel_rfl) (by kernel_rfl) (by kernel_rfl) (by kernel_rfl) (by kernel_rfl) (by kernel_rfl) (fun Ls W h => h) (.bool true) (fun _ _ _ h => h) (fun Ls W hl0 hW => exec_bin .eql 23 _ _ _ rfl (rv r9) (rv r9) _ rfl rfl (rat_guard _ _ _ _ _) (run_eqRs _ _ _ _)) ⟨hX7, hY7, hN7⟩ ⟨hX7, hY7, hN7⟩ ?_
  go_frame
  refine late_take [] (i := 27) (some 185) rfl rfl (by first | rfl | kernel_rfl) (by kernel_rfl) (by kernel_rfl) (by kernel_rfl) (by kernel_rfl) (by kernel_rfl) (fun Ls W h => h) (.bool true) (fun _ _ _ h => h) (fun Ls W hl0 hW => exec_pickT _ _ _ rfl (.bool true) rfl rfl) ⟨hX7, hY7, hN7⟩ ⟨hX7, hY7, hN7⟩ ?_
  go_frame
  refine late_take [] (i := 28) (some 6) rfl rfl (by first | rfl | kernel_rfl) (by kernel_rfl) (by kernel_rfl) (by kernel_rfl) (by kernel_rfl) (by kernel_rfl) (fun Ls W h => h) (.bool true) (fun _ _ _ h => h) (fun Ls W hl0 hW => exec_assign (.tmp 185) rfl _ rfl) ⟨hX7, hY7, hN7⟩ ⟨hX7, hY7, hN7⟩ ?_
  refine late_done (by kernel_rfl) ?_ _
  go_frame
  have HX := Lib.hid hX7
  have HY := Lib.hid hY7
  have HN := Lib.hid hN7
  have HW := Lib.hid hW7
  have HE := Lib.hid hE7
  clear hX7 hY7 hN7 hW7 hE7
  go_wp2
  go_ret
  exact ⟨rfl, HW.out⟩
end Go.Proofs.YtibfmcohodhkbaaGreatDoor
