/- The reference: Floor and Ceil. -/
import Derived.Test.YtibfmcohodhkbaaGreatDoorS7
import Derived.Deep.DeepCutAuto
namespace Go.Proofs.YtibfmcohodhkbaaGreatDoor
open Go.RowKit Hm Wm Wn

theorem size_rivermarkref05_Counted : (Tryz.prog.info? 38).map (·.size) = some 2 := by kernel_rfl
theorem zero_rivermarkref04_Divided : (Tryz.prog.info? 68).map (·.zero) = some (some (.agg #[.string ByteArray.empty, .string ByteArray.empty, .int .i64 0])) := by kernel_rfl
theorem size_rivermarkref04_Divided : (Tryz.prog.info? 68).map (·.size) = some 3 := by kernel_rfl
theorem fa_rivermarkref04_Divided_0_0 (g : Nat) (W : World) : (Instr.fieldAt 68 (.pointer (some ⟨g, 0, none⟩)) 0).run Tryz.prog W = .ok (.pointer (some ⟨g, 0, none⟩)) W := by kernel_rfl
theorem fa_rivermarkref04_Divided_1_0 (g : Nat) (W : World) : (Instr.fieldAt 68 (.pointer (some ⟨g, 0, none⟩)) 1).run Tryz.prog W = .ok (.pointer (some ⟨g, 1, none⟩)) W := by kernel_rfl
theorem zero_rivermarkref05_Counted : (Tryz.prog.info? 38).map (·.zero) = some (some (.agg #[.int .i64 0, .int .i64 0])) := by kernel_rfl
theorem fa_rivermarkref05_Counted_0_0 (g : Nat) (W : World) : (Instr.fieldAt 38 (.pointer (some ⟨g, 0, none⟩)) 0).run Tryz.prog W = .ok (.pointer (some ⟨g, 0, none⟩)) W := by kernel_rfl
theorem flat_int (W : World) : (isAgg 3).run Tryz.prog W = .ok false W := by kernel_rfl
theorem fa_rivermarkref05_Counted_1_0 (g : Nat) (W : World) : (Instr.fieldAt 38 (.pointer (some ⟨g, 0, none⟩)) 1).run Tryz.prog W = .ok (.pointer (some ⟨g, 1, none⟩)) W := by kernel_rfl
theorem flat_api_Errno (W : World) : (isAgg 27).run Tryz.prog W = .ok false W := by kernel_rfl
theorem c5_err (k : Int) (W : World) : (Instr.build 38 #[(1, .int .i64 k)]).run Tryz.prog W = .ok (.agg #[.int .i64 0, .int .i64 k]) W := by kernel_rfl
theorem c5_ok (n : Int) (W : World) : (Instr.build 38 #[(0, .int .i64 n)]).run Tryz.prog W = .ok (.agg #[.int .i64 n, .int .i64 0]) W := by kernel_rfl
theorem c5_two (n k : Int) (W : World) : (Instr.build 38 #[(0, .int .i64 n), (1, .int .i64 k)]).run Tryz.prog W = .ok (.agg #[.int .i64 n, .int .i64 k]) W := by kernel_rfl
theorem run_fldC (n k : Int) (W : World) : (Instr.field 72 (.agg #[.int .i64 n, .int .i64 k]) 0).run Tryz.prog W = .ok (.int .i64 n) W := by kernel_rfl
theorem exec_build2 {P : Program} {oi : Oper} {a : Act} {w : World} (ty : TypeId) (x y : Operand) (ho : oi.op = .build ty #[(0, x), (1, y)]) (p q v : Value) (hx : a.eval x = p) (hy : a.eval y = q) (hl : (Instr.build ty #[(0, p), (1, q)]).run P w = .ok v w) : (execOp a.eval oi).run P w = .ok (.value v) w := by
  subst hx; subst hy
  simp [execOp, ho, hl]
set_option maxRecDepth 100000 in
set_option maxHeartbeats 2000000 in
theorem floor5_p_big (x : Rv) (n d p q Q r M : ByteArray) (c : Int) (w : World) (hc0 : decide (0 < c) = true) (h10 : (∀ W, Calls Tryz.prog 50 #[.agg #[.bool x.neg, .string x.n, .string x.d]] W fun e w' => e = .returned (.agg #[.bool false, .string n, .string d]) ∧ Below W.heap.size W w')) (h13 : (∀ W, Calls Tryz.prog 52 #[.agg #[.bool false, .string n, .string d]] W fun e w' => e = .returned (.tuple #[.string p, .string q]) ∧ Below W.heap.size W w')) (h18 : (∀ W, Calls Tryz.prog 53 #[.string p, .string q] W fun e w' => e = .returned (.agg #[.string Q, .string r, .int .i64 0]) ∧ Below W.heap.size W w')) (h31 : (∀ W, Calls Tryz.prog 45 #[.int .i64 999999999999999] W fun e w' => e = .returned (.string M) ∧ Below W.heap.size W w')) (h32 : (∀ W, Calls Tryz.prog 55 #[.string Q, .string M] W fun e w' => e = .returned (.int .i64 c) ∧ Below W.heap.size W w')) : Calls Tryz.prog 13 #[.agg #[.bool x.neg, .string x.n, .string x.d]] w fun e w' => e = .returned (.agg #[.int .i64 0, .int .i64 3]) ∧ Below w.heap.size w w' := by
  have HK := two_vars w 23 38 [.bool x.neg, .string x.n, .string x.d] [.int .i64 0, .int .i64 0]
  have HZ := Lib.hid HK.2.1
  have HW := Lib.hid HK.2.2
  have hc := Lib.hid hc0
  have F10 := Lib.hid h10
  have F13 := Lib.hid h13
  have F18 := Lib.hid h18
  have F31 := Lib.hid h31
  have F32 := Lib.hid h32
  clear HK hc0 h10 h13 h18 h31 h32
  go_enter Tryz.func13, Tryz.ntmps13
  go_wp2_with fail
  refine (F10.out _).mono ?_
  rintro e w1 ⟨rfl, hb⟩
  replace HZ := Lib.hid (HZ.out.next hb)
  replace HW := Lib.hid (HW.out.trans (hb.mono HW.out.size))
  clear hb
  go_wp2_with (first | (refine wpList_var rfl rfl 23 3 rfl rfl rfl (.tmp 10) rfl [.bool false, .string ByteArray.empty, .string ByteArray.empty] [.bool false, .string n, .string d] zero_api_Rat rfl rfl rfl size_api_Rat (List.forall_mem_cons.2 ⟨rfl, (List.forall_mem_cons.2 ⟨rfl, (List.forall_mem_cons.2 ⟨rfl, fun _ h => nomatch h⟩)⟩)⟩) ?_; intro w2 HA HBw; replace HZ := Lib.hid (HZ.out.next HBw.out); replace HW := Lib.hid (HW.out.trans (HBw.out.mono HW.out.size)); clear HBw) | (refine wpList_dst 12 rfl ?_; refine wpList_run 12 rfl rfl _ (exec_load 23 (.tmp 3) rfl _ (.agg #[.bool false, .string n, .string d]) rfl (run_load_part _ 23 _ 0 3 _ [.bool false, .string n, .string d] _ HA.out (by simp) Tryz.underlying23 rfl size_api_Rat)) ?_; go_frame))
  refine (F13.out _).mono ?_
  rintro e w3 ⟨rfl, hb⟩
  replace HZ := Lib.hid (HZ.out.next hb)
  replace HW := Lib.hid (HW.out.trans (hb.mono HW.out.size))
  replace HA := Lib.hid (HA.out.next hb)
  clear hb
  go_wp2_with fail
  refine (F18.out _).mono ?_
  rintro e w4 ⟨rfl, hb⟩
  replace HZ := Lib.hid (HZ.out.next hb)
  replace HW := Lib.hid (HW.out.trans (hb.mono HW.out.size))
  replace HA := Lib.hid (HA.out.next hb)
  clear hb
  go_upto_region 5 with (first | (refine wpList_var rfl rfl 68 6 rfl rfl rfl (.tmp 18) rfl [.string ByteArray.empty, .string ByteArray.empty, .int .i64 0] [.string Q, .string r, .int .i64 0] zero_rivermarkref04_Divided rfl rfl rfl size_rivermarkref04_Divided (List.forall_mem_cons.2 ⟨rfl, (List.forall_mem_cons.2 ⟨rfl, (List.forall_mem_cons.2 ⟨rfl, fun _ h => nomatch h⟩)⟩)⟩) ?_; intro w5 HD HBw; replace HZ := Lib.hid (HZ.out.next HBw.out); replace HW := Lib.hid (HW.out.trans (HBw.out.mono HW.out.size)); replace HA := Lib.hid (HA.out.next HBw.out); clear HBw) | (refine wpList_dst 19 rfl ?_; refine wpList_run 19 rfl rfl _ (exec_fieldAddr 68 (.tmp 6) 0 rfl _ _ rfl (fa_rivermarkref04_Divided_0_0 _ _)) ?_; go_frame) | (refine wpList_dst 20 rfl ?_; refine wpList_run 20 rfl rfl _ (exec_load 9 (.tmp 19) rfl _ (.string Q) rfl (run_load_cell flat_string (HD.out.cell 0))) ?_; go_frame))
  refine wp_region_lit ?_
  refine wpList_run 21 rfl rfl (.pointer (some ⟨w1.heap.size, 0, none⟩)) (exec_fieldAddr 23 (.tmp 3) 0 rfl _ _ rfl (fa_api_Rat_0_0 _ _)) ?_
  go_frame
  refine wpList_run 22 rfl rfl (.bool false) (exec_load 4 (.tmp 21) rfl _ _ rfl (run_load_cell flat_bool (HA.out.cell 0))) ?_
  go_frame
  refine wpList_runSkip 23 rfl (by first | rfl | kernel_rfl) (.bool false) (exec_move (.tmp 22) rfl _ rfl) 3 [24, 25, 26] (by kernel_rfl) ?_
  simp only [List.drop_succ_cons, List.drop_zero, List.foldl_cons, List.foldl_nil]
  go_frame
  refine wpList_run 27 rfl rfl (.bool false) (exec_pickF _ _ _ rfl (.bool false) rfl rfl) ?_
  go_frame
  refine wpList_nil ?_
  go_wp2_with fail
  refine (F31.out _).mono ?_
  rintro e w6 ⟨rfl, hb⟩
  replace HZ := Lib.hid (HZ.out.next hb)
  replace HW := Lib.hid (HW.out.trans (hb.mono HW.out.size))
  replace HA := Lib.hid (HA.out.next hb)
  replace HD := Lib.hid (HD.out.next hb)
  clear hb
  go_wp2_with fail
  refine (F32.out _).mono ?_
  rintro e w7 ⟨rfl, hb⟩
  replace HZ := Lib.hid (HZ.out.next hb)
  replace HW := Lib.hid (HW.out.trans (hb.mono HW.out.size))
  replace HA := Lib.hid (HA.out.next hb)
  replace HD := Lib.hid (HD.out.next hb)
  clear hb
  go_wp2_with (first | (refine wpList_dst 33 rfl ?_; refine wpList_run 33 rfl rfl _ (exec_gtrI _ _ _ _ rfl .i64 c 0 true hc.out rfl rfl) ?_; go_frame) | (refine wpList_dst 34 rfl ?_; refine wpList_run 34 rfl rfl _ (exec_build1 38 1 (.const (.int .i64 3)) rfl _ _ rfl (c5_err 3 _)) ?_; go_frame) | (refine wpList_store_all rfl 38 (.tmp 2) (.tmp 34) rfl (w.heap.size + 1) _ [.int .i64 0, .int .i64 0] [.int .i64 0, .int .i64 3] rfl rfl HZ.out rfl size_rivermarkref05_Counted (List.forall_mem_cons.2 ⟨rfl, (List.forall_mem_cons.2 ⟨rfl, fun _ h => nomatch h⟩)⟩) ?_; intro w9 HK9 ho9; have HO9 := Lib.hid ho9; clear ho9))
  exact bodyPost_ret (results_blk rfl _ _ (w.heap.size + 1) _ [.int .i64 0, .int .i64 3] _ rfl HK9.out Tryz.underlying38 rfl size_rivermarkref05_Counted) rfl ⟨rfl, HW.out.trans (HO9.out.below (by omega))⟩
set_option maxRecDepth 100000 in
set_option maxHeartbeats 2000000 in
theorem floor5_p_ok (x : Rv) (n d p q Q r M : ByteArray) (c v : Int) (w : World) (hc0 : decide (0 < c) = false) (h10 : (∀ W, Calls Tryz.prog 50 #[.agg #[.bool x.neg, .string x.n, .string x.d]] W fun e w' => e = .returned (.agg #[.bool false, .string n, .string d]) ∧ Below W.heap.size W w')) (h13 : (∀ W, Calls Tryz.prog 52 #[.agg #[.bool false, .string n, .string d]] W fun e w' => e = .returned (.tuple #[.string p, .string q]) ∧ Below W.heap.size W w')) (h18 : (∀ W, Calls Tryz.prog 53 #[.string p, .string q] W fun e w' => e = .returned (.agg #[.string Q, .string r, .int .i64 0]) ∧ Below W.heap.size W w')) (h31 : (∀ W, Calls Tryz.prog 45 #[.int .i64 999999999999999] W fun e w' => e = .returned (.string M) ∧ Below W.heap.size W w')) (h32 : (∀ W, Calls Tryz.prog 55 #[.string Q, .string M] W fun e w' => e = .returned (.int .i64 c) ∧ Below W.heap.size W w')) (h36 : (∀ W, Calls Tryz.prog 56 #[.string Q] W fun e w' => e = .returned (.agg #[.int .i64 v, .int .i64 0]) ∧ Below W.heap.size W w')) : Calls Tryz.prog 13 #[.agg #[.bool x.neg, .string x.n, .string x.d]] w fun e w' => e = .returned (.agg #[.int .i64 (v), .int .i64 0]) ∧ Below w.heap.size w w' := by
  have HK := two_vars w 23 38 [.bool x.neg, .string x.n, .string x.d] [.int .i64 0, .int .i64 0]
  have HZ := Lib.hid HK.2.1
  have HW := Lib.hid HK.2.2
  have hc := Lib.hid hc0
  have F10 := Lib.hid h10
  have F13 := Lib.hid h13
  have F18 := Lib.hid h18
  have F31 := Lib.hid h31
  have F32 := Lib.hid h32
  have F36 := Lib.hid h36
  clear HK hc0 h10 h13 h18 h31 h32 h36
  go_enter Tryz.func13, Tryz.ntmps13
  go_wp2_with fail
  refine (F10.out _).mono ?_
  rintro e w1 ⟨rfl, hb⟩
  replace HZ := Lib.hid (HZ.out.next hb)
  replace HW := Lib.hid (HW.out.trans (hb.mono HW.out.size))
  clear hb
  go_wp2_with (first | (refine wpList_var rfl rfl 23 3 rfl rfl rfl (.tmp 10) rfl [.bool false, .string ByteArray.empty, .string ByteArray.empty] [.bool false, .string n, .string d] zero_api_Rat rfl rfl rfl size_api_Rat (List.forall_mem_cons.2 ⟨rfl, (List.forall_mem_cons.2 ⟨rfl, (List.forall_mem_cons.2 ⟨rfl, fun _ h => nomatch h⟩)⟩)⟩) ?_; intro w2 HA HBw; replace HZ := Lib.hid (HZ.out.next HBw.out); replace HW := Lib.hid (HW.out.trans (HBw.out.mono HW.out.size)); clear HBw) | (refine wpList_dst 12 rfl ?_; refine wpList_run 12 rfl rfl _ (exec_load 23 (.tmp 3) rfl _ (.agg #[.bool false, .string n, .string d]) rfl (run_load_part _ 23 _ 0 3 _ [.bool false, .string n, .string d] _ HA.out (by simp) Tryz.underlying23 rfl size_api_Rat)) ?_; go_frame))
  refine (F13.out _).mono ?_
  rintro e w3 ⟨rfl, hb⟩
  replace HZ := Lib.hid (HZ.out.next hb)
  replace HW := Lib.hid (HW.out.trans (hb.mono HW.out.size))
  replace HA := Lib.hid (HA.out.next hb)
  clear hb
  go_wp2_with fail
  refine (F18.out _).mono ?_
  rintro e w4 ⟨rfl, hb⟩
  replace HZ := Lib.hid (HZ.out.next hb)
  replace HW := Lib.hid (HW.out.trans (hb.mono HW.out.size))
  replace HA := Lib.hid (HA.out.next hb)
  clear hb
  go_upto_region 5 with (first | (refine wpList_var rfl rfl 68 6 rfl rfl rfl (.tmp 18) rfl [.string ByteArray.empty, .string ByteArray.empty, .int .i64 0] [.string Q, .string r, .int .i64 0] zero_rivermarkref04_Divided rfl rfl rfl size_rivermarkref04_Divided (List.forall_mem_cons.2 ⟨rfl, (List.forall_mem_cons.2 ⟨rfl, (List.forall_mem_cons.2 ⟨rfl, fun _ h => nomatch h⟩)⟩)⟩) ?_; intro w5 HD HBw; replace HZ := Lib.hid (HZ.out.next HBw.out); replace HW := Lib.hid (HW.out.trans (HBw.out.mono HW.out.size)); replace HA := Lib.hid (HA.out.next HBw.out); clear HBw) | (refine wpList_dst 19 rfl ?_; refine wpList_run 19 rfl rfl _ (exec_fieldAddr 68 (.tmp 6) 0 rfl _ _ rfl (fa_rivermarkref04_Divided_0_0 _ _)) ?_; go_frame) | (refine wpList_dst 20 rfl ?_; refine wpList_run 20 rfl rfl _ (exec_load 9 (.tmp 19) rfl _ (.string Q) rfl (run_load_cell flat_string (HD.out.cell 0))) ?_; go_frame))
  refine wp_region_lit ?_
  refine wpList_run 21 rfl rfl (.pointer (some ⟨w1.heap.size, 0, none⟩)) (exec_fieldAddr 23 (.tmp 3) 0 rfl _ _ rfl (fa_api_Rat_0_0 _ _)) ?_
  go_frame
  refine wpList_run 22 rfl rfl (.bool false) (exec_load 4 (.tmp 21) rfl _ _ rfl (run_load_cell flat_bool (HA.out.cell 0))) ?_
  go_frame
  refine wpList_runSkip 23 rfl (by first | rfl | kernel_rfl) (.bool false) (exec_move (.tmp 22) rfl _ rfl) 3 [24, 25, 26] (by kernel_rfl) ?_
  simp only [List.drop_succ_cons, List.drop_zero, List.foldl_cons, List.foldl_nil]
  go_frame
  refine wpList_run 27 rfl rfl (.bool false) (exec_pickF _ _ _ rfl (.bool false) rfl rfl) ?_
  go_frame
  refine wpList_nil ?_
  go_wp2_with fail
  refine (F31.out _).mono ?_
  rintro e w6 ⟨rfl, hb⟩
  replace HZ := Lib.hid (HZ.out.next hb)
  replace HW := Lib.hid (HW.out.trans (hb.mono HW.out.size))
  replace HA := Lib.hid (HA.out.next hb)
  replace HD := Lib.hid (HD.out.next hb)
  clear hb
  go_wp2_with fail
  refine (F32.out _).mono ?_
  rintro e w7 ⟨rfl, hb⟩
  replace HZ := Lib.hid (HZ.out.next hb)
  replace HW := Lib.hid (HW.out.trans (hb.mono HW.out.size))
  replace HA := Lib.hid (HA.out.next hb)
  replace HD := Lib.hid (HD.out.next hb)
  clear hb
  go_wp2_with (first | (refine wpList_dst 33 rfl ?_; refine wpList_run 33 rfl rfl _ (exec_gtrI _ _ _ _ rfl .i64 c 0 false hc.out rfl rfl) ?_; go_frame))
  refine (F36.out _).mono ?_
  rintro e w8 ⟨rfl, hb⟩
  replace HZ := Lib.hid (HZ.out.next hb)
  replace HW := Lib.hid (HW.out.trans (hb.mono HW.out.size))
  replace HA := Lib.hid (HA.out.next hb)
  replace HD := Lib.hid (HD.out.next hb)
  clear hb
  go_wp2_with (first | (refine wpList_dst 37 rfl ?_; refine wpList_run 37 rfl rfl _ (exec_field 72 (.tmp 36) 0 rfl _ _ rfl (run_fldC _ _ _)) ?_; go_frame) | (refine wpList_dst 41 rfl ?_; refine wpList_run 41 rfl rfl _ (exec_negZ (.tmp 40) rfl v hv.out rfl) ?_; go_frame) | (refine wpList_dst 43 rfl ?_; refine wpList_run 43 rfl rfl _ (exec_build1 38 0 (.tmp 42) rfl _ _ rfl (c5_ok _ _)) ?_; go_frame) | (refine wpList_store_all rfl 38 (.tmp 2) (.tmp 43) rfl (w.heap.size + 1) _ [.int .i64 0, .int .i64 0] [.int .i64 (v), .int .i64 0] rfl rfl HZ.out rfl size_rivermarkref05_Counted (List.forall_mem_cons.2 ⟨rfl, (List.forall_mem_cons.2 ⟨rfl, fun _ h => nomatch h⟩)⟩) ?_; intro w9 HK9 ho9; have HO9 := Lib.hid ho9; clear ho9) | (refine wpList_dst 38 rfl ?_; refine wpList_run 38 rfl rfl _ (exec_fieldAddr 23 (.tmp 3) 0 rfl _ _ rfl (fa_api_Rat_0_0 _ _)) ?_; go_frame) | (refine wpList_dst 39 rfl ?_; refine wpList_run 39 rfl rfl _ (exec_load 4 (.tmp 38) rfl _ (.bool false) rfl (run_load_cell flat_bool (HA.out.cell 0))) ?_; go_frame))
  exact bodyPost_ret (results_blk rfl _ _ (w.heap.size + 1) _ [.int .i64 (v), .int .i64 0] _ rfl HK9.out Tryz.underlying38 rfl size_rivermarkref05_Counted) rfl ⟨rfl, HW.out.trans (HO9.out.below (by omega))⟩
set_option maxRecDepth 100000 in
set_option maxHeartbeats 2000000 in
theorem floor5_n_big (x : Rv) (n d p q Q r M : ByteArray) (c : Int) (w : World) (h26 : decide (r ≠ ⟨#[]⟩) = false) (hc0 : decide (0 < c) = true) (h10 : (∀ W, Calls Tryz.prog 50 #[.agg #[.bool x.neg, .string x.n, .string x.d]] W fun e w' => e = .returned (.agg #[.bool true, .string n, .string d]) ∧ Below W.heap.size W w')) (h13 : (∀ W, Calls Tryz.prog 52 #[.agg #[.bool true, .string n, .string d]] W fun e w' => e = .returned (.tuple #[.string p, .string q]) ∧ Below W.heap.size W w')) (h18 : (∀ W, Calls Tryz.prog 53 #[.string p, .string q] W fun e w' => e = .returned (.agg #[.string Q, .string r, .int .i64 0]) ∧ Below W.heap.size W w')) (h31 : (∀ W, Calls Tryz.prog 45 #[.int .i64 999999999999999] W fun e w' => e = .returned (.string M) ∧ Below W.heap.size W w')) (h32 : (∀ W, Calls Tryz.prog 55 #[.string Q, .string M] W fun e w' => e = .returned (.int .i64 c) ∧ Below W.heap.size W w')) : Calls Tryz.prog 13 #[.agg #[.bool x.neg, .string x.n, .string x.d]] w fun e w' => e = .returned (.agg #[.int .i64 0, .int .i64 3]) ∧ Below w.heap.size w w' := by
  have HK := two_vars w 23 38 [.bool x.neg, .string x.n, .string x.d] [.int .i64 0, .int .i64 0]
  have HZ := Lib.hid HK.2.1
  have HW := Lib.hid HK.2.2
  have hc := Lib.hid hc0
  have H26 := Lib.hid (fun W => run_neqS r ⟨#[]⟩ false h26 W)
  have F10 := Lib.hid h10
  have F13 := Lib.hid h13
  have F18 := Lib.hid h18
  have F31 := Lib.hid h31
  have F32 := Lib.hid h32
  clear HK hc0 h26 h10 h13 h18 h31 h32
  go_enter Tryz.func13, Tryz.ntmps13
  go_wp2_with fail
  refine (F10.out _).mono ?_
  rintro e w1 ⟨rfl, hb⟩
  replace HZ := Lib.hid (HZ.out.next hb)
  replace HW := Lib.hid (HW.out.trans (hb.mono HW.out.size))
  clear hb
  go_wp2_with (first | (refine wpList_var rfl rfl 23 3 rfl rfl rfl (.tmp 10) rfl [.bool false, .string ByteArray.empty, .string ByteArray.empty] [.bool true, .string n, .string d] zero_api_Rat rfl rfl rfl size_api_Rat (List.forall_mem_cons.2 ⟨rfl, (List.forall_mem_cons.2 ⟨rfl, (List.forall_mem_cons.2 ⟨rfl, fun _ h => nomatch h⟩)⟩)⟩) ?_; intro w2 HA HBw; replace HZ := Lib.hid (HZ.out.next HBw.out); replace HW := Lib.hid (HW.out.trans (HBw.out.mono HW.out.size)); clear HBw) | (refine wpList_dst 12 rfl ?_; refine wpList_run 12 rfl rfl _ (exec_load 23 (.tmp 3) rfl _ (.agg #[.bool true, .string n, .string d]) rfl (run_load_part _ 23 _ 0 3 _ [.bool true, .string n, .string d] _ HA.out (by simp) Tryz.underlying23 rfl size_api_Rat)) ?_; go_frame))
  refine (F13.out _).mono ?_
  rintro e w3 ⟨rfl, hb⟩
  replace HZ := Lib.hid (HZ.out.next hb)
  replace HW := Lib.hid (HW.out.trans (hb.mono HW.out.size))
  replace HA := Lib.hid (HA.out.next hb)
  clear hb
  go_wp2_with fail
  refine (F18.out _).mono ?_
  rintro e w4 ⟨rfl, hb⟩
  replace HZ := Lib.hid (HZ.out.next hb)
  replace HW := Lib.hid (HW.out.trans (hb.mono HW.out.size))
  replace HA := Lib.hid (HA.out.next hb)
  clear hb
  go_upto_region 5 with (first | (refine wpList_var rfl rfl 68 6 rfl rfl rfl (.tmp 18) rfl [.string ByteArray.empty, .string ByteArray.empty, .int .i64 0] [.string Q, .string r, .int .i64 0] zero_rivermarkref04_Divided rfl rfl rfl size_rivermarkref04_Divided (List.forall_mem_cons.2 ⟨rfl, (List.forall_mem_cons.2 ⟨rfl, (List.forall_mem_cons.2 ⟨rfl, fun _ h => nomatch h⟩)⟩)⟩) ?_; intro w5 HD HBw; replace HZ := Lib.hid (HZ.out.next HBw.out); replace HW := Lib.hid (HW.out.trans (HBw.out.mono HW.out.size)); replace HA := Lib.hid (HA.out.next HBw.out); clear HBw) | (refine wpList_dst 19 rfl ?_; refine wpList_run 19 rfl rfl _ (exec_fieldAddr 68 (.tmp 6) 0 rfl _ _ rfl (fa_rivermarkref04_Divided_0_0 _ _)) ?_; go_frame) | (refine wpList_dst 20 rfl ?_; refine wpList_run 20 rfl rfl _ (exec_load 9 (.tmp 19) rfl _ (.string Q) rfl (run_load_cell flat_string (HD.out.cell 0))) ?_; go_frame))
  refine wp_region_lit ?_
  refine wpList_run 21 rfl rfl (.pointer (some ⟨w1.heap.size, 0, none⟩)) (exec_fieldAddr 23 (.tmp 3) 0 rfl _ _ rfl (fa_api_Rat_0_0 _ _)) ?_
  go_frame
  refine wpList_run 22 rfl rfl (.bool true) (exec_load 4 (.tmp 21) rfl _ _ rfl (run_load_cell flat_bool (HA.out.cell 0))) ?_
  go_frame
  refine wpList_run 23 rfl rfl (.bool true) (exec_move (.tmp 22) rfl _ rfl) ?_
  go_frame
  refine wpList_runG 24 rfl (by first | rfl | kernel_rfl) (.pointer (some ⟨w4.heap.size, 1, none⟩)) (exec_fieldAddr 68 (.tmp 6) 1 rfl _ _ rfl (fa_rivermarkref04_Divided_1_0 _ _)) ?_
  go_frame
  refine wpList_runG 25 rfl (by first | rfl | kernel_rfl) (.string r) (exec_load 9 (.tmp 24) rfl _ _ rfl (run_load_cell flat_string (HD.out.cell 1))) ?_
  go_frame
  refine wpList_runG 26 rfl (by first | rfl | kernel_rfl) (.bool false) (exec_bin .neq 9 _ (.tmp 25) (.const (.string ⟨#[]⟩)) rfl _ _ _ rfl rfl rfl (H26.out _)) ?_
  go_frame
  refine wpList_run 27 rfl rfl (.bool false) (exec_pickT _ _ _ rfl (.bool false) rfl rfl) ?_
  go_frame
  refine wpList_nil ?_
  go_wp2_with fail
  refine (F31.out _).mono ?_
  rintro e w6 ⟨rfl, hb⟩
  replace HZ := Lib.hid (HZ.out.next hb)
  replace HW := Lib.hid (HW.out.trans (hb.mono HW.out.size))
  replace HA := Lib.hid (HA.out.next hb)
  replace HD := Lib.hid (HD.out.next hb)
  clear hb
  go_wp2_with fail
  refine (F32.out _).mono ?_
  rintro e w7 ⟨rfl, hb⟩
  replace HZ := Lib.hid (HZ.out.next hb)
  replace HW := Lib.hid (HW.out.trans (hb.mono HW.out.size))
  replace HA := Lib.hid (HA.out.next hb)
  replace HD := Lib.hid (HD.out.next hb)
  clear hb
  go_wp2_with (first | (refine wpList_dst 33 rfl ?_; refine wpList_run 33 rfl rfl _ (exec_gtrI _ _ _ _ rfl .i64 c 0 true hc.out rfl rfl) ?_; go_frame) | (refine wpList_dst 34 rfl ?_; refine wpList_run 34 rfl rfl _ (exec_build1 38 1 (.const (.int .i64 3)) rfl _ _ rfl (c5_err 3 _)) ?_; go_frame) | (refine wpList_store_all rfl 38 (.tmp 2) (.tmp 34) rfl (w.heap.size + 1) _ [.int .i64 0, .int .i64 0] [.int .i64 0, .int .i64 3] rfl rfl HZ.out rfl size_rivermarkref05_Counted (List.forall_mem_cons.2 ⟨rfl, (List.forall_mem_cons.2 ⟨rfl, fun _ h => nomatch h⟩)⟩) ?_; intro w9 HK9 ho9; have HO9 := Lib.hid ho9; clear ho9))
  exact bodyPost_ret (results_blk rfl _ _ (w.heap.size + 1) _ [.int .i64 0, .int .i64 3] _ rfl HK9.out Tryz.underlying38 rfl size_rivermarkref05_Counted) rfl ⟨rfl, HW.out.trans (HO9.out.below (by omega))⟩
set_option maxRecDepth 100000 in
set_option maxHeartbeats 2000000 in
theorem floor5_n_ok (x : Rv) (n d p q Q r M : ByteArray) (c v : Int) (w : World) (h26 : decide (r ≠ ⟨#[]⟩) = false) (hc0 : decide (0 < c) = false) (hv0 : -9000000000000000000 ≤ v ∧ v ≤ 9000000000000000000) (h10 : (∀ W, Calls Tryz.prog 50 #[.agg #[.bool x.neg, .string x.n, .string x.d]] W fun e w' => e = .returned (.agg #[.bool true, .string n, .string d]) ∧ Below W.heap.size W w')) (h13 : (∀ W, Calls Tryz.prog 52 #[.agg #[.bool true, .string n, .string d]] W fun e w' => e = .returned (.tuple #[.string p, .string q]) ∧ Below W.heap.size W w')) (h18 : (∀ W, Calls Tryz.prog 53 #[.string p, .string q] W fun e w' => e = .returned (.agg #[.string Q, .string r, .int .i64 0]) ∧ Below W.heap.size W w')) (h31 : (∀ W, Calls Tryz.prog 45 #[.int .i64 999999999999999] W fun e w' => e = .returned (.string M) ∧ Below W.heap.size W w')) (h32 : (∀ W, Calls Tryz.prog 55 #[.string Q, .string M] W fun e w' => e = .returned (.int .i64 c) ∧ Below W.heap.size W w')) (h36 : (∀ W, Calls Tryz.prog 56 #[.string Q] W fun e w' => e = .returned (.agg #[.int .i64 v, .int .i64 0]) ∧ Below W.heap.size W w')) : Calls Tryz.prog 13 #[.agg #[.bool x.neg, .string x.n, .string x.d]] w fun e w' => e = .returned (.agg #[.int .i64 (-v), .int .i64 0]) ∧ Below w.heap.size w w' := by
  have HK := two_vars w 23 38 [.bool x.neg, .string x.n, .string x.d] [.int .i64 0, .int .i64 0]
  have HZ := Lib.hid HK.2.1
  have HW := Lib.hid HK.2.2
  have hc := Lib.hid hc0
  have H26 := Lib.hid (fun W => run_neqS r ⟨#[]⟩ false h26 W)
  have hv := Lib.hid hv0
  have F10 := Lib.hid h10
  have F13 := Lib.hid h13
  have F18 := Lib.hid h18
  have F31 := Lib.hid h31
  have F32 := Lib.hid h32
  have F36 := Lib.hid h36
  clear HK hc0 h26 hv0 h10 h13 h18 h31 h32 h36
  go_enter Tryz.func13, Tryz.ntmps13
  go_wp2_with fail
  refine (F10.out _).mono ?_
  rintro e w1 ⟨rfl, hb⟩
  replace HZ := Lib.hid (HZ.out.next hb)
  replace HW := Lib.hid (HW.out.trans (hb.mono HW.out.size))
  clear hb
  go_wp2_with (first | (refine wpList_var rfl rfl 23 3 rfl rfl rfl (.tmp 10) rfl [.bool false, .string ByteArray.empty, .string ByteArray.empty] [.bool true, .string n, .string d] zero_api_Rat rfl rfl rfl size_api_Rat (List.forall_mem_cons.2 ⟨rfl, (List.forall_mem_cons.2 ⟨rfl, (List.forall_mem_cons.2 ⟨rfl, fun _ h => nomatch h⟩)⟩)⟩) ?_; intro w2 HA HBw; replace HZ := Lib.hid (HZ.out.next HBw.out); replace HW := Lib.hid (HW.out.trans (HBw.out.mono HW.out.size)); clear HBw) | (refine wpList_dst 12 rfl ?_; refine wpList_run 12 rfl rfl _ (exec_load 23 (.tmp 3) rfl _ (.agg #[.bool true, .string n, .string d]) rfl (run_load_part _ 23 _ 0 3 _ [.bool true, .string n, .string d] _ HA.out (by simp) Tryz.underlying23 rfl size_api_Rat)) ?_; go_frame))
  refine (F13.out _).mono ?_
  rintro e w3 ⟨rfl, hb⟩
  replace HZ := Lib.hid (HZ.out.next hb)
  replace HW := Lib.hid (HW.out.trans (hb.mono HW.out.size))
  replace HA := Lib.hid (HA.out.next hb)
  clear hb
  go_wp2_with fail
  refine (F18.out _).mono ?_
  rintro e w4 ⟨rfl, hb⟩
  replace HZ := Lib.hid (HZ.out.next hb)
  replace HW := Lib.hid (HW.out.trans (hb.mono HW.out.size))
  replace HA := Lib.hid (HA.out.next hb)
  clear hb
  go_upto_region 5 with (first | (refine wpList_var rfl rfl 68 6 rfl rfl rfl (.tmp 18) rfl [.string ByteArray.empty, .string ByteArray.empty, .int .i64 0] [.string Q, .string r, .int .i64 0] zero_rivermarkref04_Divided rfl rfl rfl size_rivermarkref04_Divided (List.forall_mem_cons.2 ⟨rfl, (List.forall_mem_cons.2 ⟨rfl, (List.forall_mem_cons.2 ⟨rfl, fun _ h => nomatch h⟩)⟩)⟩) ?_; intro w5 HD HBw; replace HZ := Lib.hid (HZ.out.next HBw.out); replace HW := Lib.hid (HW.out.trans (HBw.out.mono HW.out.size)); replace HA := Lib.hid (HA.out.next HBw.out); clear HBw) | (refine wpList_dst 19 rfl ?_; refine wpList_run 19 rfl rfl _ (exec_fieldAddr 68 (.tmp 6) 0 rfl _ _ rfl (fa_rivermarkref04_Divided_0_0 _ _)) ?_; go_frame) | (refine wpList_dst 20 rfl ?_; refine wpList_run 20 rfl rfl _ (exec_load 9 (.tmp 19) rfl _ (.string Q) rfl (run_load_cell flat_string (HD.out.cell 0))) ?_; go_frame))
  refine wp_region_lit ?_
  refine wpList_run 21 rfl rfl (.pointer (some ⟨w1.heap.size, 0, none⟩)) (exec_fieldAddr 23 (.tmp 3) 0 rfl _ _ rfl (fa_api_Rat_0_0 _ _)) ?_
  go_frame
  refine wpList_run 22 rfl rfl (.bool true) (exec_load 4 (.tmp 21) rfl _ _ rfl (run_load_cell flat_bool (HA.out.cell 0))) ?_
  go_frame
  refine wpList_run 23 rfl rfl (.bool true) (exec_move (.tmp 22) rfl _ rfl) ?_
  go_frame
  refine wpList_runG 24 rfl (by first | rfl | kernel_rfl) (.pointer (some ⟨w4.heap.size, 1, none⟩)) (exec_fieldAddr 68 (.tmp 6) 1 rfl _ _ rfl (fa_rivermarkref04_Divided_1_0 _ _)) ?_
  go_frame
  refine wpList_runG 25 rfl (by first | rfl | kernel_rfl) (.string r) (exec_load 9 (.tmp 24) rfl _ _ rfl (run_load_cell flat_string (HD.out.cell 1))) ?_
  go_frame
  refine wpList_runG 26 rfl (by first | rfl | kernel_rfl) (.bool false) (exec_bin .neq 9 _ (.tmp 25) (.const (.string ⟨#[]⟩)) rfl _ _ _ rfl rfl rfl (H26.out _)) ?_
  go_frame
  refine wpList_run 27 rfl rfl (.bool false) (exec_pickT _ _ _ rfl (.bool false) rfl rfl) ?_
  go_frame
  refine wpList_nil ?_
  go_wp2_with fail
  refine (F31.out _).mono ?_
  rintro e w6 ⟨rfl, hb⟩
  replace HZ := Lib.hid (HZ.out.next hb)
  replace HW := Lib.hid (HW.out.trans (hb.mono HW.out.size))
  replace HA := Lib.hid (HA.out.next hb)
  replace HD := Lib.hid (HD.out.next hb)
  clear hb
  go_wp2_with fail
  refine (F32.out _).mono ?_
  rintro e w7 ⟨rfl, hb⟩
  replace HZ := Lib.hid (HZ.out.next hb)
  replace HW := Lib.hid (HW.out.trans (hb.mono HW.out.size))
  replace HA := Lib.hid (HA.out.next hb)
  replace HD := Lib.hid (HD.out.next hb)
  clear hb
  go_wp2_with (first | (refine wpList_dst 33 rfl ?_; refine wpList_run 33 rfl rfl _ (exec_gtrI _ _ _ _ rfl .i64 c 0 false hc.out rfl rfl) ?_; go_frame))
  refine (F36.out _).mono ?_
  rintro e w8 ⟨rfl, hb⟩
  replace HZ := Lib.hid (HZ.out.next hb)
  replace HW := Lib.hid (HW.out.trans (hb.mono HW.out.size))
  replace HA := Lib.hid (HA.out.next hb)
  replace HD := Lib.hid (HD.out.next hb)
  clear hb
  go_wp2_with (first | (refine wpList_dst 37 rfl ?_; refine wpList_run 37 rfl rfl _ (exec_field 72 (.tmp 36) 0 rfl _ _ rfl (run_fldC _ _ _)) ?_; go_frame) | (refine wpList_dst 41 rfl ?_; refine wpList_run 41 rfl rfl _ (exec_negZ (.tmp 40) rfl v hv.out rfl) ?_; go_frame) | (refine wpList_dst 43 rfl ?_; refine wpList_run 43 rfl rfl _ (exec_build1 38 0 (.tmp 42) rfl _ _ rfl (c5_ok _ _)) ?_; go_frame) | (refine wpList_store_all rfl 38 (.tmp 2) (.tmp 43) rfl (w.heap.size + 1) _ [.int .i64 0, .int .i64 0] [.int .i64 (-v), .int .i64 0] rfl rfl HZ.out rfl size_rivermarkref05_Counted (List.forall_mem_cons.2 ⟨rfl, (List.forall_mem_cons.2 ⟨rfl, fun _ h => nomatch h⟩)⟩) ?_; intro w9 HK9 ho9; have HO9 := Lib.hid ho9; clear ho9) | (refine wpList_dst 38 rfl ?_; refine wpList_run 38 rfl rfl _ (exec_fieldAddr 23 (.tmp 3) 0 rfl _ _ rfl (fa_api_Rat_0_0 _ _)) ?_; go_frame) | (refine wpList_dst 39 rfl ?_; refine wpList_run 39 rfl rfl _ (exec_load 4 (.tmp 38) rfl _ (.bool true) rfl (run_load_cell flat_bool (HA.out.cell 0))) ?_; go_frame))
  exact bodyPost_ret (results_blk rfl _ _ (w.heap.size + 1) _ [.int .i64 (-v), .int .i64 0] _ rfl HK9.out Tryz.underlying38 rfl size_rivermarkref05_Counted) rfl ⟨rfl, HW.out.trans (HO9.out.below (by omega))⟩
set_option maxRecDepth 100000 in
set_option maxHeartbeats 2000000 in
theorem floor5_r_big (x : Rv) (n d p q Q r M Q2 : ByteArray) (c : Int) (w : World) (h26 : decide (r ≠ ⟨#[]⟩) = true) (hc0 : decide (0 < c) = true) (h10 : (∀ W, Calls Tryz.prog 50 #[.agg #[.bool x.neg, .string x.n, .string x.d]] W fun e w' => e = .returned (.agg #[.bool true, .string n, .string d]) ∧ Below W.heap.size W w')) (h13 : (∀ W, Calls Tryz.prog 52 #[.agg #[.bool true, .string n, .string d]] W fun e w' => e = .returned (.tuple #[.string p, .string q]) ∧ Below W.heap.size W w')) (h18 : (∀ W, Calls Tryz.prog 53 #[.string p, .string q] W fun e w' => e = .returned (.agg #[.string Q, .string r, .int .i64 0]) ∧ Below W.heap.size W w')) (h29 : (∀ W, Calls Tryz.prog 54 #[.string Q, .string ⟨#[1]⟩] W fun e w' => e = .returned (.string Q2) ∧ Below W.heap.size W w')) (h31 : (∀ W, Calls Tryz.prog 45 #[.int .i64 999999999999999] W fun e w' => e = .returned (.string M) ∧ Below W.heap.size W w')) (h32 : (∀ W, Calls Tryz.prog 55 #[.string Q2, .string M] W fun e w' => e = .returned (.int .i64 c) ∧ Below W.heap.size W w')) : Calls Tryz.prog 13 #[.agg #[.bool x.neg, .string x.n, .string x.d]] w fun e w' => e = .returned (.agg #[.int .i64 0, .int .i64 3]) ∧ Below w.heap.size w w' := by
  have HK := two_vars w 23 38 [.bool x.neg, .string x.n, .string x.d] [.int .i64 0, .int .i64 0]
  have HZ := Lib.hid HK.2.1
  have HW := Lib.hid HK.2.2
  have hc := Lib.hid hc0
  have H26 := Lib.hid (fun W => run_neqS r ⟨#[]⟩ true h26 W)
  have F10 := Lib.hid h10
  have F13 := Lib.hid h13
  have F18 := Lib.hid h18
  have F29 := Lib.hid h29
  have F31 := Lib.hid h31
  have F32 := Lib.hid h32
  clear HK hc0 h26 h10 h13 h18 h29 h31 h32
  go_enter Tryz.func13, Tryz.ntmps13
  go_wp2_with fail
  refine (F10.out _).mono ?_
  rintro e w1 ⟨rfl, hb⟩
  replace HZ := Lib.hid (HZ.out.next hb)
  replace HW := Lib.hid (HW.out.trans (hb.mono HW.out.size))
  clear hb
  go_wp2_with (first | (refine wpList_var rfl rfl 23 3 rfl rfl rfl (.tmp 10) rfl [.bool false, .string ByteArray.empty, .string ByteArray.empty] [.bool true, .string n, .string d] zero_api_Rat rfl rfl rfl size_api_Rat (List.forall_mem_cons.2 ⟨rfl, (List.forall_mem_cons.2 ⟨rfl, (List.forall_mem_cons.2 ⟨rfl, fun _ h => nomatch h⟩)⟩)⟩) ?_; intro w2 HA HBw; replace HZ := Lib.hid (HZ.out.next HBw.out); replace HW := Lib.hid (HW.out.trans (HBw.out.mono HW.out.size)); clear HBw) | (refine wpList_dst 12 rfl ?_; refine wpList_run 12 rfl rfl _ (exec_load 23 (.tmp 3) rfl _ (.agg #[.bool true, .string n, .string d]) rfl (run_load_part _ 23 _ 0 3 _ [.bool true, .string n, .string d] _ HA.out (by simp) Tryz.underlying23 rfl size_api_Rat)) ?_; go_frame))
  refine (F13.out _).mono ?_
  rintro e w3 ⟨rfl, hb⟩
  replace HZ := Lib.hid (HZ.out.next hb)
  replace HW := Lib.hid (HW.out.trans (hb.mono HW.out.size))
  replace HA := Lib.hid (HA.out.next hb)
  clear hb
  go_wp2_with fail
  refine (F18.out _).mono ?_
  rintro e w4 ⟨rfl, hb⟩
  replace HZ := Lib.hid (HZ.out.next hb)
  replace HW := Lib.hid (HW.out.trans (hb.mono HW.out.size))
  replace HA := Lib.hid (HA.out.next hb)
  clear hb
  go_upto_region 5 with (first | (refine wpList_var rfl rfl 68 6 rfl rfl rfl (.tmp 18) rfl [.string ByteArray.empty, .string ByteArray.empty, .int .i64 0] [.string Q, .string r, .int .i64 0] zero_rivermarkref04_Divided rfl rfl rfl size_rivermarkref04_Divided (List.forall_mem_cons.2 ⟨rfl, (List.forall_mem_cons.2 ⟨rfl, (List.forall_mem_cons.2 ⟨rfl, fun _ h => nomatch h⟩)⟩)⟩) ?_; intro w5 HD HBw; replace HZ := Lib.hid (HZ.out.next HBw.out); replace HW := Lib.hid (HW.out.trans (HBw.out.mono HW.out.size)); replace HA := Lib.hid (HA.out.next HBw.out); clear HBw) | (refine wpList_dst 19 rfl ?_; refine wpList_run 19 rfl rfl _ (exec_fieldAddr 68 (.tmp 6) 0 rfl _ _ rfl (fa_rivermarkref04_Divided_0_0 _ _)) ?_; go_frame) | (refine wpList_dst 20 rfl ?_; refine wpList_run 20 rfl rfl _ (exec_load 9 (.tmp 19) rfl _ (.string Q) rfl (run_load_cell flat_string (HD.out.cell 0))) ?_; go_frame))
  refine wp_region_lit ?_
  refine wpList_run 21 rfl rfl (.pointer (some ⟨w1.heap.size, 0, none⟩)) (exec_fieldAddr 23 (.tmp 3) 0 rfl _ _ rfl (fa_api_Rat_0_0 _ _)) ?_
  go_frame
  refine wpList_run 22 rfl rfl (.bool true) (exec_load 4 (.tmp 21) rfl _ _ rfl (run_load_cell flat_bool (HA.out.cell 0))) ?_
  go_frame
  refine wpList_run 23 rfl rfl (.bool true) (exec_move (.tmp 22) rfl _ rfl) ?_
  go_frame
  refine wpList_runG 24 rfl (by first | rfl | kernel_rfl) (.pointer (some ⟨w4.heap.size, 1, none⟩)) (exec_fieldAddr 68 (.tmp 6) 1 rfl _ _ rfl (fa_rivermarkref04_Divided_1_0 _ _)) ?_
  go_frame
  refine wpList_runG 25 rfl (by first | rfl | kernel_rfl) (.string r) (exec_load 9 (.tmp 24) rfl _ _ rfl (run_load_cell flat_string (HD.out.cell 1))) ?_
  go_frame
  refine wpList_runG 26 rfl (by first | rfl | kernel_rfl) (.bool true) (exec_bin .neq 9 _ (.tmp 25) (.const (.string ⟨#[]⟩)) rfl _ _ _ rfl rfl rfl (H26.out _)) ?_
  go_frame
  refine wpList_run 27 rfl rfl (.bool true) (exec_pickT _ _ _ rfl (.bool true) rfl rfl) ?_
  go_frame
  refine wpList_nil ?_
  go_wp2_with fail
  refine (F29.out _).mono ?_
  rintro e w6 ⟨rfl, hb⟩
  replace HZ := Lib.hid (HZ.out.next hb)
  replace HW := Lib.hid (HW.out.trans (hb.mono HW.out.size))
  replace HA := Lib.hid (HA.out.next hb)
  replace HD := Lib.hid (HD.out.next hb)
  clear hb
  go_wp2_with fail
  refine (F31.out _).mono ?_
  rintro e w7 ⟨rfl, hb⟩
  replace HZ := Lib.hid (HZ.out.next hb)
  replace HW := Lib.hid (HW.out.trans (hb.mono HW.out.size))
  replace HA := Lib.hid (HA.out.next hb)
  replace HD := Lib.hid (HD.out.next hb)
  clear hb
  go_wp2_with fail
  refine (F32.out _).mono ?_
  rintro e w8 ⟨rfl, hb⟩
  replace HZ := Lib.hid (HZ.out.next hb)
  replace HW := Lib.hid (HW.out.trans (hb.mono HW.out.size))
  replace HA := Lib.hid (HA.out.next hb)
  replace HD := Lib.hid (HD.out.next hb)
  clear hb
  go_wp2_with (first | (refine wpList_dst 33 rfl ?_; refine wpList_run 33 rfl rfl _ (exec_gtrI _ _ _ _ rfl .i64 c 0 true hc.out rfl rfl) ?_; go_frame) | (refine wpList_dst 34 rfl ?_; refine wpList_run 34 rfl rfl _ (exec_build1 38 1 (.const (.int .i64 3)) rfl _ _ rfl (c5_err 3 _)) ?_; go_frame) | (refine wpList_store_all rfl 38 (.tmp 2) (.tmp 34) rfl (w.heap.size + 1) _ [.int .i64 0, .int .i64 0] [.int .i64 0, .int .i64 3] rfl rfl HZ.out rfl size_rivermarkref05_Counted (List.forall_mem_cons.2 ⟨rfl, (List.forall_mem_cons.2 ⟨rfl, fun _ h => nomatch h⟩)⟩) ?_; intro w9 HK9 ho9; have HO9 := Lib.hid ho9; clear ho9))
  exact bodyPost_ret (results_blk rfl _ _ (w.heap.size + 1) _ [.int .i64 0, .int .i64 3] _ rfl HK9.out Tryz.underlying38 rfl size_rivermarkref05_Counted) rfl ⟨rfl, HW.out.trans (HO9.out.below (by omega))⟩
set_option maxRecDepth 100000 in
set_option maxHeartbeats 2000000 in
theorem floor5_r_ok (x : Rv) (n d p q Q r M Q2 : ByteArray) (c v : Int) (w : World) (h26 : decide (r ≠ ⟨#[]⟩) = true) (hc0 : decide (0 < c) = false) (hv0 : -9000000000000000000 ≤ v ∧ v ≤ 9000000000000000000) (h10 : (∀ W, Calls Tryz.prog 50 #[.agg #[.bool x.neg, .string x.n, .string x.d]] W fun e w' => e = .returned (.agg #[.bool true, .string n, .string d]) ∧ Below W.heap.size W w')) (h13 : (∀ W, Calls Tryz.prog 52 #[.agg #[.bool true, .string n, .string d]] W fun e w' => e = .returned (.tuple #[.string p, .string q]) ∧ Below W.heap.size W w')) (h18 : (∀ W, Calls Tryz.prog 53 #[.string p, .string q] W fun e w' => e = .returned (.agg #[.string Q, .string r, .int .i64 0]) ∧ Below W.heap.size W w')) (h29 : (∀ W, Calls Tryz.prog 54 #[.string Q, .string ⟨#[1]⟩] W fun e w' => e = .returned (.string Q2) ∧ Below W.heap.size W w')) (h31 : (∀ W, Calls Tryz.prog 45 #[.int .i64 999999999999999] W fun e w' => e = .returned (.string M) ∧ Below W.heap.size W w')) (h32 : (∀ W, Calls Tryz.prog 55 #[.string Q2, .string M] W fun e w' => e = .returned (.int .i64 c) ∧ Below W.heap.size W w')) (h36 : (∀ W, Calls Tryz.prog 56 #[.string Q2] W fun e w' => e = .returned (.agg #[.int .i64 v, .int .i64 0]) ∧ Below W.heap.size W w')) : Calls Tryz.prog 13 #[.agg #[.bool x.neg, .string x.n, .string x.d]] w fun e w' => e = .returned (.agg #[.int .i64 (-v), .int .i64 0]) ∧ Below w.heap.size w w' := by
  have HK := two_vars w 23 38 [.bool x.neg, .string x.n, .string x.d] [.int .i64 0, .int .i64 0]
  have HZ := Lib.hid HK.2.1
  have HW := Lib.hid HK.2.2
  have hc := Lib.hid hc0
  have H26 := Lib.hid (fun W => run_neqS r ⟨#[]⟩ true h26 W)
  have hv := Lib.hid hv0
  have F10 := Lib.hid h10
  have F13 := Lib.hid h13
  have F18 := Lib.hid h18
  have F29 := Lib.hid h29
  have F31 := Lib.hid h31
  have F32 := Lib.hid h32
  have F36 := Lib.hid h36
  clear HK hc0 h26 hv0 h10 h13 h18 h29 h31 h32 h36
  go_enter Tryz.func13, Tryz.ntmps13
  go_wp2_with fail
  refine (F10.out _).mono ?_
  rintro e w1 ⟨rfl, hb⟩
  replace HZ := Lib.hid (HZ.out.next hb)
  replace HW := Lib.hid (HW.out.trans (hb.mono HW.out.size))
  clear hb
  go_wp2_with (first | (refine wpList_var rfl rfl 23 3 rfl rfl rfl (.tmp 10) rfl [.bool false, .string ByteArray.empty, .string ByteArray.empty] [.bool true, .string n, .string d] zero_api_Rat rfl rfl rfl size_api_Rat (List.forall_mem_cons.2 ⟨rfl, (List.forall_mem_cons.2 ⟨rfl, (List.forall_mem_cons.2 ⟨rfl, fun _ h => nomatch h⟩)⟩)⟩) ?_; intro w2 HA HBw; replace HZ := Lib.hid (HZ.out.next HBw.out); replace HW := Lib.hid (HW.out.trans (HBw.out.mono HW.out.size)); clear HBw) | (refine wpList_dst 12 rfl ?_; refine wpList_run 12 rfl rfl _ (exec_load 23 (.tmp 3) rfl _ (.agg #[.bool true, .string n, .string d]) rfl (run_load_part _ 23 _ 0 3 _ [.bool true, .string n, .string d] _ HA.out (by simp) Tryz.underlying23 rfl size_api_Rat)) ?_; go_frame))
  refine (F13.out _).mono ?_
  rintro e w3 ⟨rfl, hb⟩
  replace HZ := Lib.hid (HZ.out.next hb)
  replace HW := Lib.hid (HW.out.trans (hb.mono HW.out.size))
  replace HA := Lib.hid (HA.out.next hb)
  clear hb
  go_wp2_with fail
  refine (F18.out _).mono ?_
  rintro e w4 ⟨rfl, hb⟩
  replace HZ := Lib.hid (HZ.out.next hb)
  replace HW := Lib.hid (HW.out.trans (hb.mono HW.out.size))
  replace HA := Lib.hid (HA.out.next hb)
  clear hb
  go_upto_region 5 with (first | (refine wpList_var rfl rfl 68 6 rfl rfl rfl (.tmp 18) rfl [.string ByteArray.empty, .string ByteArray.empty, .int .i64 0] [.string Q, .string r, .int .i64 0] zero_rivermarkref04_Divided rfl rfl rfl size_rivermarkref04_Divided (List.forall_mem_cons.2 ⟨rfl, (List.forall_mem_cons.2 ⟨rfl, (List.forall_mem_cons.2 ⟨rfl, fun _ h => nomatch h⟩)⟩)⟩) ?_; intro w5 HD HBw; replace HZ := Lib.hid (HZ.out.next HBw.out); replace HW := Lib.hid (HW.out.trans (HBw.out.mono HW.out.size)); replace HA := Lib.hid (HA.out.next HBw.out); clear HBw) | (refine wpList_dst 19 rfl ?_; refine wpList_run 19 rfl rfl _ (exec_fieldAddr 68 (.tmp 6) 0 rfl _ _ rfl (fa_rivermarkref04_Divided_0_0 _ _)) ?_; go_frame) | (refine wpList_dst 20 rfl ?_; refine wpList_run 20 rfl rfl _ (exec_load 9 (.tmp 19) rfl _ (.string Q) rfl (run_load_cell flat_string (HD.out.cell 0))) ?_; go_frame))
  refine wp_region_lit ?_
  refine wpList_run 21 rfl rfl (.pointer (some ⟨w1.heap.size, 0, none⟩)) (exec_fieldAddr 23 (.tmp 3) 0 rfl _ _ rfl (fa_api_Rat_0_0 _ _)) ?_
  go_frame
  refine wpList_run 22 rfl rfl (.bool true) (exec_load 4 (.tmp 21) rfl _ _ rfl (run_load_cell flat_bool (HA.out.cell 0))) ?_
  go_frame
  refine wpList_run 23 rfl rfl (.bool true) (exec_move (.tmp 22) rfl _ rfl) ?_
  go_frame
  refine wpList_runG 24 rfl (by first | rfl | kernel_rfl) (.pointer (some ⟨w4.heap.size, 1, none⟩)) (exec_fieldAddr 68 (.tmp 6) 1 rfl _ _ rfl (fa_rivermarkref04_Divided_1_0 _ _)) ?_
  go_frame
  refine wpList_runG 25 rfl (by first | rfl | kernel_rfl) (.string r) (exec_load 9 (.tmp 24) rfl _ _ rfl (run_load_cell flat_string (HD.out.cell 1))) ?_
  go_frame
  refine wpList_runG 26 rfl (by first | rfl | kernel_rfl) (.bool true) (exec_bin .neq 9 _ (.tmp 25) (.const (.string ⟨#[]⟩)) rfl _ _ _ rfl rfl rfl (H26.out _)) ?_
  go_frame
  refine wpList_run 27 rfl rfl (.bool true) (exec_pickT _ _ _ rfl (.bool true) rfl rfl) ?_
  go_frame
  refine wpList_nil ?_
  go_wp2_with fail
  refine (F29.out _).mono ?_
  rintro e w6 ⟨rfl, hb⟩
  replace HZ := Lib.hid (HZ.out.next hb)
  replace HW := Lib.hid (HW.out.trans (hb.mono HW.out.size))
  replace HA := Lib.hid (HA.out.next hb)
  replace HD := Lib.hid (HD.out.next hb)
  clear hb
  go_wp2_with fail
  refine (F31.out _).mono ?_
  rintro e w7 ⟨rfl, hb⟩
  replace HZ := Lib.hid (HZ.out.next hb)
  replace HW := Lib.hid (HW.out.trans (hb.mono HW.out.size))
  replace HA := Lib.hid (HA.out.next hb)
  replace HD := Lib.hid (HD.out.next hb)
  clear hb
  go_wp2_with fail
  refine (F32.out _).mono ?_
  rintro e w8 ⟨rfl, hb⟩
  replace HZ := Lib.hid (HZ.out.next hb)
  replace HW := Lib.hid (HW.out.trans (hb.mono HW.out.size))
  replace HA := Lib.hid (HA.out.next hb)
  replace HD := Lib.hid (HD.out.next hb)
  clear hb
  go_wp2_with (first | (refine wpList_dst 33 rfl ?_; refine wpList_run 33 rfl rfl _ (exec_gtrI _ _ _ _ rfl .i64 c 0 false hc.out rfl rfl) ?_; go_frame))
  refine (F36.out _).mono ?_
  rintro e w9 ⟨rfl, hb⟩
  replace HZ := Lib.hid (HZ.out.next hb)
  replace HW := Lib.hid (HW.out.trans (hb.mono HW.out.size))
  replace HA := Lib.hid (HA.out.next hb)
  replace HD := Lib.hid (HD.out.next hb)
  clear hb
  go_wp2_with (first | (refine wpList_dst 37 rfl ?_; refine wpList_run 37 rfl rfl _ (exec_field 72 (.tmp 36) 0 rfl _ _ rfl (run_fldC _ _ _)) ?_; go_frame) | (refine wpList_dst 41 rfl ?_; refine wpList_run 41 rfl rfl _ (exec_negZ (.tmp 40) rfl v hv.out rfl) ?_; go_frame) | (refine wpList_dst 43 rfl ?_; refine wpList_run 43 rfl rfl _ (exec_build1 38 0 (.tmp 42) rfl _ _ rfl (c5_ok _ _)) ?_; go_frame) | (refine wpList_store_all rfl 38 (.tmp 2) (.tmp 43) rfl (w.heap.size + 1) _ [.int .i64 0, .int .i64 0] [.int .i64 (-v), .int .i64 0] rfl rfl HZ.out rfl size_rivermarkref05_Counted (List.forall_mem_cons.2 ⟨rfl, (List.forall_mem_cons.2 ⟨rfl, fun _ h => nomatch h⟩)⟩) ?_; intro w9 HK9 ho9; have HO9 := Lib.hid ho9; clear ho9) | (refine wpList_dst 38 rfl ?_; refine wpList_run 38 rfl rfl _ (exec_fieldAddr 23 (.tmp 3) 0 rfl _ _ rfl (fa_api_Rat_0_0 _ _)) ?_; go_frame) | (refine wpList_dst 39 rfl ?_; refine wpList_run 39 rfl rfl _ (exec_load 4 (.tmp 38) rfl _ (.bool true) rfl (run_load_cell flat_bool (HA.out.cell 0))) ?_; go_frame))
  exact bodyPost_ret (results_blk rfl _ _ (w.heap.size + 1) _ [.int .i64 (-v), .int .i64 0] _ rfl HK9.out Tryz.underlying38 rfl size_rivermarkref05_Counted) rfl ⟨rfl, HW.out.trans (HO9.out.below (by omega))⟩
set_option maxRecDepth 100000 in
set_option maxHeartbeats 800000 in
theorem ceil5_raw (x a : Rv) (n k : Int) (w : World) (hv0 : -9000000000000000000 ≤ n ∧ n ≤ 9000000000000000000) (h5 : (∀ W, Calls Tryz.prog 21 #[.agg #[.bool x.neg, .string x.n, .string x.d]] W fun e w' => e = .returned (.agg #[.bool a.neg, .string a.n, .string a.d]) ∧ Below W.heap.size W w')) (h6 : (∀ W, Calls Tryz.prog 13 #[.agg #[.bool a.neg, .string a.n, .string a.d]] W fun e w' => e = .returned (.agg #[.int .i64 n, .int .i64 k]) ∧ Below W.heap.size W w')) : Calls Tryz.prog 15 #[.agg #[.bool x.neg, .string x.n, .string x.d]] w fun e w' => e = .returned (.agg #[.int .i64 (-n), .int .i64 k]) ∧ Below w.heap.size w w' := by
  have HK := two_vars w 23 38 [.bool x.neg, .string x.n, .string x.d] [.int .i64 0, .int .i64 0]
  have HZ := Lib.hid HK.2.1
  have HW := Lib.hid HK.2.2
  have hv := Lib.hid hv0
  have F5 := Lib.hid h5
  have F6 := Lib.hid h6
  clear HK hv0 h5 h6
  go_enter Tryz.func15, Tryz.ntmps15
  go_wp2_with fail
  refine (F5.out _).mono ?_
  rintro e w1 ⟨rfl, hb⟩
  replace HZ := Lib.hid (HZ.out.next hb)
  replace HW := Lib.hid (HW.out.trans (hb.mono HW.out.size))
  clear hb
  go_wp2_with fail
  refine (F6.out _).mono ?_
  rintro e w2 ⟨rfl, hb⟩
  replace HZ := Lib.hid (HZ.out.next hb)
  replace HW := Lib.hid (HW.out.trans (hb.mono HW.out.size))
  clear hb
  go_wp2_with (first | (refine wpList_var rfl rfl 38 3 rfl rfl rfl (.tmp 6) rfl [.int .i64 0, .int .i64 0] [.int .i64 n, .int .i64 k] zero_rivermarkref05_Counted rfl rfl rfl size_rivermarkref05_Counted (List.forall_mem_cons.2 ⟨rfl, (List.forall_mem_cons.2 ⟨rfl, fun _ h => nomatch h⟩)⟩) ?_; intro w3 HA HBw; replace HZ := Lib.hid (HZ.out.next HBw.out); replace HW := Lib.hid (HW.out.trans (HBw.out.mono HW.out.size)); clear HBw) | (refine wpList_dst 9 rfl ?_; refine wpList_run 9 rfl rfl _ (exec_negZ (.tmp 8) rfl n hv.out rfl) ?_; go_frame) | (refine wpList_dst 12 rfl ?_; refine wpList_run 12 rfl rfl _ (exec_build2 38 (.tmp 9) (.tmp 11) rfl _ _ _ rfl rfl (c5_two _ _ _)) ?_; go_frame) | (refine wpList_store_all rfl 38 (.tmp 2) (.tmp 12) rfl (w.heap.size + 1) _ [.int .i64 0, .int .i64 0] [.int .i64 (-n), .int .i64 k] rfl rfl HZ.out rfl size_rivermarkref05_Counted (List.forall_mem_cons.2 ⟨rfl, (List.forall_mem_cons.2 ⟨rfl, fun _ h => nomatch h⟩)⟩) ?_; intro w9 HK9 ho9; have HO9 := Lib.hid ho9; clear ho9) | (refine wpList_dst 7 rfl ?_; refine wpList_run 7 rfl rfl _ (exec_fieldAddr 38 (.tmp 3) 0 rfl _ _ rfl (fa_rivermarkref05_Counted_0_0 _ _)) ?_; go_frame) | (refine wpList_dst 8 rfl ?_; refine wpList_run 8 rfl rfl _ (exec_load 3 (.tmp 7) rfl _ (.int .i64 n) rfl (run_load_cell flat_int (HA.out.cell 0))) ?_; go_frame) | (refine wpList_dst 10 rfl ?_; refine wpList_run 10 rfl rfl _ (exec_fieldAddr 38 (.tmp 3) 1 rfl _ _ rfl (fa_rivermarkref05_Counted_1_0 _ _)) ?_; go_frame) | (refine wpList_dst 11 rfl ?_; refine wpList_run 11 rfl rfl _ (exec_load 27 (.tmp 10) rfl _ (.int .i64 k) rfl (run_load_cell flat_api_Errno (HA.out.cell 1))) ?_; go_frame))
  exact bodyPost_ret (results_blk rfl _ _ (w.heap.size + 1) _ [.int .i64 (-n), .int .i64 k] _ rfl HK9.out Tryz.underlying38 rfl size_rivermarkref05_Counted) rfl ⟨rfl, HW.out.trans (HO9.out.below (by omega))⟩
/-- What Floor hands out. -/
def fl5 (q : Rat) : Value := if -999999999999999 ≤ q.floor ∧ q.floor ≤ 999999999999999 then .agg #[.int .i64 q.floor, .int .i64 0] else .agg #[.int .i64 0, .int .i64 3]
theorem fl5_in {q : Rat} {z : Int} (hz : q.floor = z) (h : -999999999999999 ≤ z ∧ z ≤ 999999999999999) : fl5 q = .agg #[.int .i64 z, .int .i64 0] := by unfold fl5; rw [hz, if_pos h]
theorem fl5_out {q : Rat} {z : Int} (hz : q.floor = z) (h : ¬ (-999999999999999 ≤ z ∧ z ≤ 999999999999999)) : fl5 q = .agg #[.int .i64 0, .int .i64 3] := by unfold fl5; rw [hz, if_neg h]
theorem rt_parts (q : Rat) (b : Bool) (h : decide (q.num < 0) = b) : ∃ n d, rt q = ⟨b, n, d⟩ := ⟨(rt q).n, (rt q).d, by rw [← h, ← rt_negb]⟩
theorem cmp_big (u v : Nat) (h : v < u) : decide (0 < cmpN u v) = true := by unfold cmpN; rw [if_neg (by omega), if_pos h]; rfl
theorem cmp_small (u v : Nat) (h : u ≤ v) : decide (0 < cmpN u v) = false := by unfold cmpN; rw [if_neg (show ¬ v < u by omega)]; split <;> rfl
theorem rfloor5_any (x : Rv) (w : World) (hx : szR 900 x) : Calls Tryz.prog 13 #[rv x] w fun e w' => e = .returned (fl5 (valR x)) ∧ Below w.heap.size w w' := by
  have sx := Sz_val x 900 (by decide) hx.1 hx.2
  have cx := fun W => rcl_any x W (sz_big hx (by decide))
  generalize valR x = A at sx cx ⊢
  have px := fun W => parts_any A W
  have dv := fun W => rdiv_any (cS A.num.natAbs) (cS A.den) W (Nat.le_trans sx.1 (by decide)) (Nat.le_trans sx.2 (by decide)) (by rw [nB_cS]; exact A.den_nz)
  rw [nB_cS, nB_cS] at dv
  have nt := fun W => natl_any 999999999999999 W (by decide)
  have zQ : (cS (A.num.natAbs / A.den)).size ≤ 900 := cS_le (Nat.div_le_self _ _) sx.1
  have zQ1 : (cS (A.num.natAbs / A.den + 1)).size ≤ 901 := cS_addS zQ (show (cS 1).size ≤ 900 by rw [c1]; decide)
  have zM : (cS 999999999999999).size ≤ 900 := Nat.le_trans (cS_len (n := 999999999999999) (k := 8) (by decide)) (by decide)
  have cm := fun (u : Nat) (hu : (cS u).size ≤ 901) W => (rcmp_any (cS u) (cS 999999999999999) W (Nat.le_trans hu (by decide)) (Nat.le_trans zM (by decide))).mono (fun e w' h => (⟨by rw [h.1, nB_cS, nB_cS], by rw [h.2]; exact Below.refl _ _⟩ : e = .returned (.int .i64 (cmpN u 999999999999999)) ∧ Below W.heap.size W w'))
  have vl := fun (u : Nat) (hu : (cS u).size ≤ 901) (h : u ≤ 999999999999999) W => (rvalue_any (cS u) W (Nat.le_trans hu (by decide)) (by rw [nB_cS]; omega)).mono (fun e w' h => (⟨by rw [h.1, nB_cS]; rfl, h.2⟩ : e = .returned (.agg #[.int .i64 (u : Int), .int .i64 0]) ∧ Below W.heap.size W w'))
  have ad := fun W => radd_any (cS (A.num.natAbs / A.den)) (cS 1) W (Nat.le_trans zQ (by decide)) (by rw [c1]; decide)
  rw [nB_cS, nB_cS, c1] at ad
  by_cases h0 : A.num < 0
  · obtain ⟨n, d, e0⟩ := rt_parts A true (decide_eq_true h0)
    rw [e0] at cx px
    by_cases hr : A.num.natAbs % A.den = 0
    · have hf := floor_negZ h0 hr
      generalize A.num.natAbs / A.den = u at dv zQ hf
      by_cases hb : u ≤ 999999999999999
      · rw [fl5_in hf (by omega)]
        exact floor5_n_ok x n d _ _ _ _ _ _ _ w (decide_eq_false (fun h => h ((nil_iff _).2 hr))) (cmp_small _ _ hb) (by omega) cx px dv nt (cm u (Nat.le_trans zQ (by decide))) (vl u (Nat.le_trans zQ (by decide)) hb)
      · rw [fl5_out hf (by omega)]
        exact floor5_n_big x n d _ _ _ _ _ _ w (decide_eq_false (fun h => h ((nil_iff _).2 hr))) (cmp_big _ _ (by omega)) cx px dv nt (cm u (Nat.le_trans zQ (by decide)))
    · have hf := floor_negR h0 hr
      generalize A.num.natAbs / A.den = u at dv zQ hf zQ1 ad
      by_cases hb : u + 1 ≤ 999999999999999
      · rw [fl5_in hf (by omega)]
        exact floor5_r_ok x n d _ _ _ _ _ _ _ _ w (decide_eq_true (fun h => hr ((nil_iff _).1 h))) (cmp_small _ _ hb) (by omega) cx px dv ad nt (cm (u + 1) zQ1) (vl (u + 1) zQ1 hb)
      · rw [fl5_out hf (by omega)]
        exact floor5_r_big x n d _ _ _ _ _ _ _ w (decide_eq_true (fun h => hr ((nil_iff _).1 h))) (cmp_big _ _ (by omega)) cx px dv ad nt (cm (u + 1) zQ1)
  · obtain ⟨n, d, e0⟩ := rt_parts A false (decide_eq_false h0)
    rw [e0] at cx px
    have hf := floor_pos (q := A) (by omega)
    generalize A.num.natAbs / A.den = u at dv zQ hf
    by_cases hb : u ≤ 999999999999999
    · rw [fl5_in hf (by omega)]
      exact floor5_p_ok x n d _ _ _ _ _ _ _ w (cmp_small _ _ hb) cx px dv nt (cm u (Nat.le_trans zQ (by decide))) (vl u (Nat.le_trans zQ (by decide)) hb)
    · rw [fl5_out hf (by omega)]
      exact floor5_p_big x n d _ _ _ _ _ _ w (cmp_big _ _ (by omega)) cx px dv nt (cm u (Nat.le_trans zQ (by decide)))
/-- Floor and Ceil of both sides agree. -/
theorem fl_both (q : Rat) : ∃ n k : Int, floorV q = .tuple #[.int .i64 n, .int .i64 k] ∧ fl5 q = .agg #[.int .i64 n, .int .i64 k] ∧ -999999999999999 ≤ n ∧ n ≤ 999999999999999 := by
  by_cases h : -999999999999999 ≤ q.floor ∧ q.floor ≤ 999999999999999
  · exact ⟨_, _, floorV_in h, fl5_in rfl h, h.1, h.2⟩
  · exact ⟨0, 3, floorV_out h, fl5_out rfl h, by decide, by decide⟩
theorem rceil5_any (x : Rv) (n k : Int) (w : World) (hx : szR 800 x) (hf : fl5 (-valR x) = .agg #[.int .i64 n, .int .i64 k]) (hn : -999999999999999 ≤ n ∧ n ≤ 999999999999999) : Calls Tryz.prog 15 #[rv x] w fun e w' => e = .returned (.agg #[.int .i64 (-n), .int .i64 k]) ∧ Below w.heap.size w w' := by
  have sx := Sz_val x 800 (by decide) hx.1 hx.2
  refine ceil5_raw x (rt (-valR x)) n k w (by omega) (fun W => rneg_any x W (sz_big hx (by decide))) (fun W => ?_)
  have h := rfloor5_any (rt (-valR x)) W (sz_big (sz_rt (Sz_neg sx)) (by decide))
  rw [val_rt, hf] at h
  exact h
end Go.Proofs.YtibfmcohodhkbaaGreatDoor
