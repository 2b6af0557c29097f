/- The reference: Div, Make and Int. -/
import Derived.Test.YtibfmcohodhkbaaGreatDoorS5
namespace Go.Proofs.YtibfmcohodhkbaaGreatDoor
open Go.RowKit Hm Wm Wn

theorem size_rivermarkref05_Made : (Tryz.prog.info? 31).map (·.size) = some 4 := by kernel_rfl
theorem zero_rivermarkref05_Made : (Tryz.prog.info? 31).map (·.zero) = some (some (.agg #[.bool false, .string ByteArray.empty, .string ByteArray.empty, .int .i64 0])) := by kernel_rfl
theorem fa_rivermarkref05_Made_0_0 (g : Nat) (W : World) : (Instr.fieldAt 31 (.pointer (some ⟨g, 0, none⟩)) 0).run Tryz.prog W = .ok (.pointer (some ⟨g, 0, none⟩)) W := by kernel_rfl
theorem exec_eqlI {P : Program} {oi : Oper} {a : Act} {w : World} (t : TypeId) (x y : Operand) (rt : TypeId) (ho : oi.op = .binOp .eql t x y rt) (k : IntKind) (m n : Int) (r : Bool) (hr : (m == n) = r) (hx : a.eval x = .int k m) (hy : a.eval y = .int k n) : (execOp a.eval oi).run P w = .ok (.value (.bool r)) w := by
  subst hr
  exact exec_eqI (P := P) (w := w) t x y rt ho k m n hx hy
theorem exec_lssI' {P : Program} {oi : Oper} {a : Act} {w : World} (t : TypeId) (x y : Operand) (rt : TypeId) (ho : oi.op = .binOp .lss t x y rt) (k : IntKind) (m n : Int) (r : Bool) (hr : decide (m < n) = r) (hx : a.eval x = .int k m) (hy : a.eval y = .int k n) : (execOp a.eval oi).run P w = .ok (.value (.bool r)) w := by
  subst hr
  exact exec_bin .lss t rt x y ho _ _ _ hx hy (by simp [go_sem]) (by simp [go_sem])
/-- What Make and Div hand out. -/
def mk5 (x : Rv) (k : Int) : Value := .agg #[.bool x.neg, .string x.n, .string x.d, .int .i64 k]
theorem m5_err (k : Int) (W : World) : (Instr.build 31 #[(1, .int .i64 k)]).run Tryz.prog W = .ok (.agg #[.bool false, .string ⟨#[]⟩, .string ⟨#[]⟩, .int .i64 k]) W := by kernel_rfl
theorem m5_ok (b : Bool) (n d : ByteArray) (W : World) : (Instr.build 31 #[(0, .agg #[.bool b, .string n, .string d])]).run Tryz.prog W = .ok (.agg #[.bool b, .string n, .string d, .int .i64 0]) W := by kernel_rfl
set_option maxRecDepth 100000 in
set_option maxHeartbeats 800000 in
theorem div5_zero (x y b : Rv) (w : World) (h10 : decide (b.n = ⟨#[]⟩) = true) (h7 : (∀ W, Calls Tryz.prog 50 #[.agg #[.bool y.neg, .string y.n, .string y.d]] W fun e w' => e = .returned (.agg #[.bool b.neg, .string b.n, .string b.d]) ∧ Below W.heap.size W w')) : Calls Tryz.prog 11 #[.agg #[.bool x.neg, .string x.n, .string x.d], .agg #[.bool y.neg, .string y.n, .string y.d]] w fun e w' => e = .returned (.agg #[.bool false, .string ⟨#[]⟩, .string ⟨#[]⟩, .int .i64 1]) ∧ Below w.heap.size w w' := by
  obtain ⟨W0, hW0, kx, ky, kz, kw⟩ := three_vars w 23 23 31 [.bool x.neg, .string x.n, .string x.d] [.bool y.neg, .string y.n, .string y.d] [.bool false, .string ⟨#[]⟩, .string ⟨#[]⟩, .int .i64 0]
  have HX := Lib.hid kx
  have HY := Lib.hid ky
  have HZ := Lib.hid kz
  have HW := Lib.hid kw
  have F7 := Lib.hid h7
  have H10 := Lib.hid (fun W => run_eqS b.n ⟨#[]⟩ true h10 W)
  clear kx ky kz kw h7 h10
  go_enter Tryz.func11, Tryz.ntmps11
  go_wp2_with fail
  rw [← hW0]
  clear hW0
  refine (F7.out _).mono ?_
  rintro e w1 ⟨rfl, hb⟩
  replace HX := Lib.hid (HX.out.next hb)
  replace HY := Lib.hid (HY.out.next hb)
  replace HZ := Lib.hid (HZ.out.next hb)
  replace HW := Lib.hid (HW.out.trans (hb.mono HW.out.size))
  clear hb
  clear HY
  go_wp2_with (first | (refine wpList_var rfl rfl 23 5 rfl rfl rfl (.tmp 7) rfl [.bool false, .string ByteArray.empty, .string ByteArray.empty] [.bool b.neg, .string b.n, .string b.d] zero_api_Rat rfl rfl rfl size_api_Rat (List.forall_mem_cons.2 ⟨rfl, (List.forall_mem_cons.2 ⟨rfl, (List.forall_mem_cons.2 ⟨rfl, fun _ h => nomatch h⟩)⟩)⟩) ?_; intro w2 HB HBw; replace HX := Lib.hid (HX.out.next HBw.out); replace HZ := Lib.hid (HZ.out.next HBw.out); replace HW := Lib.hid (HW.out.trans (HBw.out.mono HW.out.size)); clear HBw) | (refine wpList_dst 10 rfl ?_; refine wpList_run 10 rfl rfl _ (exec_bin .eql 9 _ (.tmp 9) (.const (.string ⟨#[]⟩)) rfl _ _ _ rfl rfl rfl (H10.out _)) ?_; go_frame) | (refine wpList_dst 11 rfl ?_; refine wpList_run 11 rfl rfl _ (exec_build1 31 1 (.const (.int .i64 1)) rfl _ _ rfl (m5_err 1 _)) ?_; go_frame) | (refine wpList_store_all rfl 31 (.tmp 4) (.tmp 11) rfl (w.heap.size + 1 + 1) _ [.bool false, .string ⟨#[]⟩, .string ⟨#[]⟩, .int .i64 0] [.bool false, .string ⟨#[]⟩, .string ⟨#[]⟩, .int .i64 1] rfl rfl HZ.out rfl size_rivermarkref05_Made (List.forall_mem_cons.2 ⟨rfl, (List.forall_mem_cons.2 ⟨rfl, (List.forall_mem_cons.2 ⟨rfl, (List.forall_mem_cons.2 ⟨rfl, fun _ h => nomatch h⟩)⟩)⟩)⟩) ?_; intro w9 HK9 ho9; have HO9 := Lib.hid ho9; clear ho9) | (refine wpList_dst 8 rfl ?_; refine wpList_run 8 rfl rfl _ (exec_fieldAddr 23 (.tmp 5) 1 rfl _ _ rfl (fa_api_Rat_1_0 _ _)) ?_; go_frame) | (refine wpList_dst 9 rfl ?_; refine wpList_run 9 rfl rfl _ (exec_load 9 (.tmp 8) rfl _ (.string b.n) rfl (run_load_cell flat_string (HB.out.cell 1))) ?_; go_frame))
  exact bodyPost_ret (results_blk rfl _ _ (w.heap.size + 1 + 1) _ [.bool false, .string ⟨#[]⟩, .string ⟨#[]⟩, .int .i64 1] _ rfl HK9.out Tryz.underlying31 rfl size_rivermarkref05_Made) rfl ⟨rfl, HW.out.trans (HO9.out.below (by omega))⟩
set_option maxRecDepth 100000 in
set_option maxHeartbeats 800000 in
theorem div5_pos (x y b R : Rv) (w : World) (h10 : decide (b.n = ⟨#[]⟩) = false) (h7 : (∀ W, Calls Tryz.prog 50 #[.agg #[.bool y.neg, .string y.n, .string y.d]] W fun e w' => e = .returned (.agg #[.bool b.neg, .string b.n, .string b.d]) ∧ Below W.heap.size W w')) (h20 : (∀ W, Calls Tryz.prog 27 #[.agg #[.bool x.neg, .string x.n, .string x.d], .agg #[.bool b.neg, .string b.d, .string b.n]] W fun e w' => e = .returned (.agg #[.bool R.neg, .string R.n, .string R.d]) ∧ Below W.heap.size W w')) : Calls Tryz.prog 11 #[.agg #[.bool x.neg, .string x.n, .string x.d], .agg #[.bool y.neg, .string y.n, .string y.d]] w fun e w' => e = .returned (.agg #[.bool R.neg, .string R.n, .string R.d, .int .i64 0]) ∧ Below w.heap.size w w' := by
  obtain ⟨W0, hW0, kx, ky, kz, kw⟩ := three_vars w 23 23 31 [.bool x.neg, .string x.n, .string x.d] [.bool y.neg, .string y.n, .string y.d] [.bool false, .string ⟨#[]⟩, .string ⟨#[]⟩, .int .i64 0]
  have HX := Lib.hid kx
  have HY := Lib.hid ky
  have HZ := Lib.hid kz
  have HW := Lib.hid kw
  have F7 := Lib.hid h7
  have H10 := Lib.hid (fun W => run_eqS b.n ⟨#[]⟩ false h10 W)
  have F20 := Lib.hid h20
  clear kx ky kz kw h7 h10 h20
  go_enter Tryz.func11, Tryz.ntmps11
  go_wp2_with fail
  rw [← hW0]
  clear hW0
  refine (F7.out _).mono ?_
  rintro e w1 ⟨rfl, hb⟩
  replace HX := Lib.hid (HX.out.next hb)
  replace HY := Lib.hid (HY.out.next hb)
  replace HZ := Lib.hid (HZ.out.next hb)
  replace HW := Lib.hid (HW.out.trans (hb.mono HW.out.size))
  clear hb
  clear HY
  go_wp2_with (first | (refine wpList_var rfl rfl 23 5 rfl rfl rfl (.tmp 7) rfl [.bool false, .string ByteArray.empty, .string ByteArray.empty] [.bool b.neg, .string b.n, .string b.d] zero_api_Rat rfl rfl rfl size_api_Rat (List.forall_mem_cons.2 ⟨rfl, (List.forall_mem_cons.2 ⟨rfl, (List.forall_mem_cons.2 ⟨rfl, fun _ h => nomatch h⟩)⟩)⟩) ?_; intro w2 HB HBw; replace HX := Lib.hid (HX.out.next HBw.out); replace HZ := Lib.hid (HZ.out.next HBw.out); replace HW := Lib.hid (HW.out.trans (HBw.out.mono HW.out.size)); clear HBw) | (refine wpList_dst 10 rfl ?_; refine wpList_run 10 rfl rfl _ (exec_bin .eql 9 _ (.tmp 9) (.const (.string ⟨#[]⟩)) rfl _ _ _ rfl rfl rfl (H10.out _)) ?_; go_frame) | (refine wpList_dst 19 rfl ?_; refine wpList_run 19 rfl rfl _ (exec_build3 23 (.tmp 14) (.tmp 16) (.tmp 18) rfl _ _ _ _ rfl rfl rfl (qr_build _ _ _ _)) ?_; go_frame) | (refine wpList_dst 8 rfl ?_; refine wpList_run 8 rfl rfl _ (exec_fieldAddr 23 (.tmp 5) 1 rfl _ _ rfl (fa_api_Rat_1_0 _ _)) ?_; go_frame) | (refine wpList_dst 9 rfl ?_; refine wpList_run 9 rfl rfl _ (exec_load 9 (.tmp 8) rfl _ (.string b.n) rfl (run_load_cell flat_string (HB.out.cell 1))) ?_; go_frame) | (refine wpList_dst 12 rfl ?_; refine wpList_run 12 rfl rfl _ (exec_load 23 (.tmp 2) rfl _ (.agg #[.bool x.neg, .string x.n, .string x.d]) rfl (run_load_part _ 23 _ 0 3 _ [.bool x.neg, .string x.n, .string x.d] _ HX.out (by simp) Tryz.underlying23 rfl size_api_Rat)) ?_; go_frame) | (refine wpList_dst 13 rfl ?_; refine wpList_run 13 rfl rfl _ (exec_fieldAddr 23 (.tmp 5) 0 rfl _ _ rfl (fa_api_Rat_0_0 _ _)) ?_; go_frame) | (refine wpList_dst 14 rfl ?_; refine wpList_run 14 rfl rfl _ (exec_load 4 (.tmp 13) rfl _ (.bool b.neg) rfl (run_load_cell flat_bool (HB.out.cell 0))) ?_; go_frame) | (refine wpList_dst 15 rfl ?_; refine wpList_run 15 rfl rfl _ (exec_fieldAddr 23 (.tmp 5) 2 rfl _ _ rfl (fa_api_Rat_2_0 _ _)) ?_; go_frame) | (refine wpList_dst 16 rfl ?_; refine wpList_run 16 rfl rfl _ (exec_load 9 (.tmp 15) rfl _ (.string b.d) rfl (run_load_cell flat_string (HB.out.cell 2))) ?_; go_frame) | (refine wpList_dst 17 rfl ?_; refine wpList_run 17 rfl rfl _ (exec_fieldAddr 23 (.tmp 5) 1 rfl _ _ rfl (fa_api_Rat_1_0 _ _)) ?_; go_frame) | (refine wpList_dst 18 rfl ?_; refine wpList_run 18 rfl rfl _ (exec_load 9 (.tmp 17) rfl _ (.string b.n) rfl (run_load_cell flat_string (HB.out.cell 1))) ?_; go_frame))
  refine (F20.out _).mono ?_
  rintro e w3 ⟨rfl, hb⟩
  replace HX := Lib.hid (HX.out.next hb)
  replace HZ := Lib.hid (HZ.out.next hb)
  replace HW := Lib.hid (HW.out.trans (hb.mono HW.out.size))
  replace HB := Lib.hid (HB.out.next hb)
  clear hb
  go_wp2_with (first | (refine wpList_dst 21 rfl ?_; refine wpList_run 21 rfl rfl _ (exec_build1 31 0 (.tmp 20) rfl _ _ rfl (m5_ok _ _ _ _)) ?_; go_frame) | (refine wpList_store_all rfl 31 (.tmp 4) (.tmp 21) rfl (w.heap.size + 1 + 1) _ [.bool false, .string ⟨#[]⟩, .string ⟨#[]⟩, .int .i64 0] [.bool R.neg, .string R.n, .string R.d, .int .i64 0] rfl rfl HZ.out rfl size_rivermarkref05_Made (List.forall_mem_cons.2 ⟨rfl, (List.forall_mem_cons.2 ⟨rfl, (List.forall_mem_cons.2 ⟨rfl, (List.forall_mem_cons.2 ⟨rfl, fun _ h => nomatch h⟩)⟩)⟩)⟩) ?_; intro w9 HK9 ho9; have HO9 := Lib.hid ho9; clear ho9))
  exact bodyPost_ret (results_blk rfl _ _ (w.heap.size + 1 + 1) _ [.bool R.neg, .string R.n, .string R.d, .int .i64 0] _ rfl HK9.out Tryz.underlying31 rfl size_rivermarkref05_Made) rfl ⟨rfl, HW.out.trans (HO9.out.below (by omega))⟩
theorem inv_fr {q : Rat} (h : q ≠ 0) : fr q⁻¹ = ⟨decide (q.num < 0), cS q.den, cS q.num.natAbs⟩ := by
  have h0 : q.num ≠ 0 := fun e => h (Rat.num_eq_zero.1 e)
  refine fr_of ?_ ?_ ?_ ?_
  · rw [Rat.num_inv, Int.natAbs_mul, Int.natAbs_sign_of_ne_zero h0, Nat.one_mul, Int.natAbs_natCast]
  · rw [Rat.den_inv, if_neg h0]
  · intro _
    refine sign_neg ?_
    rw [Rat.num_inv, Int.sign_mul, Int.sign_sign, Int.sign_eq_one_of_pos (show (0 : Int) < (q.den : Int) from Int.ofNat_lt.2 q.den_pos), Int.mul_one]
  · intro e; exact absurd e q.den_nz
theorem rdiv5_zero (x y : Rv) (w : World) (hy : szR 900 y) (h0 : valR y = 0) : Calls Tryz.prog 11 #[rv x, rv y] w fun e w' => e = .returned (mk5 (rt 0) 1) ∧ Below w.heap.size w w' := by
  have h1 := div5_zero x y (rt (valR y)) w (by rw [h0, rt_zero]; rfl) (fun W => rcl_any y W (sz_big hy (by decide)))
  rw [rt_zero]
  exact h1
theorem rdiv5_any (x y : Rv) (w : World) (hx : szR 900 x) (hy : szR 900 y) (h0 : valR y ≠ 0) : Calls Tryz.prog 11 #[rv x, rv y] w fun e w' => e = .returned (mk5 (rt (valR x / valR y)) 0) ∧ Below w.heap.size w w' := by
  have sy := Sz_val y 900 (by decide) hy.1 hy.2
  have e0 : rt (valR y) = fr (valR y) := by unfold rt; rw [if_neg h0]
  have hz : szR 1000 (fr (valR y)⁻¹) := by
    rw [inv_fr h0]
    exact ⟨Nat.le_trans sy.2 (by decide), Nat.le_trans sy.1 (by decide)⟩
  refine div5_pos x y (rt (valR y)) (rt (valR x / valR y)) w (by rw [e0]; exact decide_eq_false (num_nil h0)) (fun W => rcl_any y W (sz_big hy (by decide))) (fun W => ?_)
  have h := rmul5_any x (fr (valR y)⁻¹) W (sz_big hx (by decide)) hz
  rw [val_fr, ← Rat.div_def, inv_fr h0] at h
  rw [e0]
  exact h
set_option maxRecDepth 100000 in
set_option maxHeartbeats 800000 in
theorem make5_far1 (m n : Int) (b2 : Bool) (w : World) (h8 : (∀ W, Calls Tryz.prog 43 #[.int .i64 m] W fun e w' => e = .returned (.bool false) ∧ Below W.heap.size W w')) (h10 : (∀ W, Calls Tryz.prog 43 #[.int .i64 n] W fun e w' => e = .returned (.bool b2) ∧ Below W.heap.size W w')) : Calls Tryz.prog 9 #[.int .i64 m, .int .i64 n] w fun e w' => e = .returned (.agg #[.bool false, .string ⟨#[]⟩, .string ⟨#[]⟩, .int .i64 3]) ∧ Below w.heap.size w w' := by
  obtain ⟨W1, hW1⟩ : ∃ W, W = w.alloc (.cells #[.bool false, .string ⟨#[]⟩, .string ⟨#[]⟩, .int .i64 0] 31) := ⟨_, rfl⟩
  have HZ : Hid (Blk W1 w.heap.size 31 [.bool false, .string ⟨#[]⟩, .string ⟨#[]⟩, .int .i64 0]) := Lib.hid (by rw [hW1]; exact Blk.new w 31 [.bool false, .string ⟨#[]⟩, .string ⟨#[]⟩, .int .i64 0])
  have HW : Hid (Below w.heap.size w W1) := Lib.hid (by rw [hW1]; exact (Below.refl w.heap.size w).alloc (Nat.le_refl _) _)
  have F8 := Lib.hid h8
  have F10 := Lib.hid h10
  clear h8 h10
  go_enter Tryz.func9, Tryz.ntmps9
  go_wp2_with fail
  rw [← hW1]
  clear hW1
  refine (F8.out _).mono ?_
  rintro e w1 ⟨rfl, hb⟩
  replace HZ := Lib.hid (HZ.out.next hb)
  replace HW := Lib.hid (HW.out.trans (hb.mono HW.out.size))
  clear hb
  go_wp2_with fail
  refine (F10.out _).mono ?_
  rintro e w2 ⟨rfl, hb⟩
  replace HZ := Lib.hid (HZ.out.next hb)
  replace HW := Lib.hid (HW.out.trans (hb.mono HW.out.size))
  clear hb
  go_wp2_with (first | (refine wpList_dst 17 rfl ?_; refine wpList_run 17 rfl rfl _ (exec_build1 31 1 (.const (.int .i64 3)) rfl _ _ rfl (m5_err 3 _)) ?_; go_frame) | (refine wpList_store_all rfl 31 (.tmp 4) (.tmp 17) rfl (w.heap.size) _ [.bool false, .string ⟨#[]⟩, .string ⟨#[]⟩, .int .i64 0] [.bool false, .string ⟨#[]⟩, .string ⟨#[]⟩, .int .i64 3] rfl rfl HZ.out rfl size_rivermarkref05_Made (List.forall_mem_cons.2 ⟨rfl, (List.forall_mem_cons.2 ⟨rfl, (List.forall_mem_cons.2 ⟨rfl, (List.forall_mem_cons.2 ⟨rfl, fun _ h => nomatch h⟩)⟩)⟩)⟩) ?_; intro w9 HK9 ho9; have HO9 := Lib.hid ho9; clear ho9))
  exact bodyPost_ret (results_blk rfl _ _ (w.heap.size) _ [.bool false, .string ⟨#[]⟩, .string ⟨#[]⟩, .int .i64 3] _ rfl HK9.out Tryz.underlying31 rfl size_rivermarkref05_Made) rfl ⟨rfl, HW.out.trans (HO9.out.below (by omega))⟩
set_option maxRecDepth 100000 in
set_option maxHeartbeats 800000 in
theorem make5_far2 (m n : Int) (w : World) (h8 : (∀ W, Calls Tryz.prog 43 #[.int .i64 m] W fun e w' => e = .returned (.bool true) ∧ Below W.heap.size W w')) (h10 : (∀ W, Calls Tryz.prog 43 #[.int .i64 n] W fun e w' => e = .returned (.bool false) ∧ Below W.heap.size W w')) : Calls Tryz.prog 9 #[.int .i64 m, .int .i64 n] w fun e w' => e = .returned (.agg #[.bool false, .string ⟨#[]⟩, .string ⟨#[]⟩, .int .i64 3]) ∧ Below w.heap.size w w' := by
  obtain ⟨W1, hW1⟩ : ∃ W, W = w.alloc (.cells #[.bool false, .string ⟨#[]⟩, .string ⟨#[]⟩, .int .i64 0] 31) := ⟨_, rfl⟩
  have HZ : Hid (Blk W1 w.heap.size 31 [.bool false, .string ⟨#[]⟩, .string ⟨#[]⟩, .int .i64 0]) := Lib.hid (by rw [hW1]; exact Blk.new w 31 [.bool false, .string ⟨#[]⟩, .string ⟨#[]⟩, .int .i64 0])
  have HW : Hid (Below w.heap.size w W1) := Lib.hid (by rw [hW1]; exact (Below.refl w.heap.size w).alloc (Nat.le_refl _) _)
  have F8 := Lib.hid h8
  have F10 := Lib.hid h10
  clear h8 h10
  go_enter Tryz.func9, Tryz.ntmps9
  go_wp2_with fail
  rw [← hW1]
  clear hW1
  refine (F8.out _).mono ?_
  rintro e w1 ⟨rfl, hb⟩
  replace HZ := Lib.hid (HZ.out.next hb)
  replace HW := Lib.hid (HW.out.trans (hb.mono HW.out.size))
  clear hb
  go_wp2_with fail
  refine (F10.out _).mono ?_
  rintro e w2 ⟨rfl, hb⟩
  replace HZ := Lib.hid (HZ.out.next hb)
  replace HW := Lib.hid (HW.out.trans (hb.mono HW.out.size))
  clear hb
  go_wp2_with (first | (refine wpList_dst 17 rfl ?_; refine wpList_run 17 rfl rfl _ (exec_build1 31 1 (.const (.int .i64 3)) rfl _ _ rfl (m5_err 3 _)) ?_; go_frame) | (refine wpList_store_all rfl 31 (.tmp 4) (.tmp 17) rfl (w.heap.size) _ [.bool false, .string ⟨#[]⟩, .string ⟨#[]⟩, .int .i64 0] [.bool false, .string ⟨#[]⟩, .string ⟨#[]⟩, .int .i64 3] rfl rfl HZ.out rfl size_rivermarkref05_Made (List.forall_mem_cons.2 ⟨rfl, (List.forall_mem_cons.2 ⟨rfl, (List.forall_mem_cons.2 ⟨rfl, (List.forall_mem_cons.2 ⟨rfl, fun _ h => nomatch h⟩)⟩)⟩)⟩) ?_; intro w9 HK9 ho9; have HO9 := Lib.hid ho9; clear ho9))
  exact bodyPost_ret (results_blk rfl _ _ (w.heap.size) _ [.bool false, .string ⟨#[]⟩, .string ⟨#[]⟩, .int .i64 3] _ rfl HK9.out Tryz.underlying31 rfl size_rivermarkref05_Made) rfl ⟨rfl, HW.out.trans (HO9.out.below (by omega))⟩
set_option maxRecDepth 100000 in
set_option maxHeartbeats 800000 in
theorem make5_zero (m n : Int) (w : World) (h8 : (∀ W, Calls Tryz.prog 43 #[.int .i64 m] W fun e w' => e = .returned (.bool true) ∧ Below W.heap.size W w')) (h10 : (∀ W, Calls Tryz.prog 43 #[.int .i64 n] W fun e w' => e = .returned (.bool true) ∧ Below W.heap.size W w')) (hz0 : (n == 0) = true) : Calls Tryz.prog 9 #[.int .i64 m, .int .i64 n] w fun e w' => e = .returned (.agg #[.bool false, .string ⟨#[]⟩, .string ⟨#[]⟩, .int .i64 1]) ∧ Below w.heap.size w w' := by
  obtain ⟨W1, hW1⟩ : ∃ W, W = w.alloc (.cells #[.bool false, .string ⟨#[]⟩, .string ⟨#[]⟩, .int .i64 0] 31) := ⟨_, rfl⟩
  have HZ : Hid (Blk W1 w.heap.size 31 [.bool false, .string ⟨#[]⟩, .string ⟨#[]⟩, .int .i64 0]) := Lib.hid (by rw [hW1]; exact Blk.new w 31 [.bool false, .string ⟨#[]⟩, .string ⟨#[]⟩, .int .i64 0])
  have HW : Hid (Below w.heap.size w W1) := Lib.hid (by rw [hW1]; exact (Below.refl w.heap.size w).alloc (Nat.le_refl _) _)
  have F8 := Lib.hid h8
  have F10 := Lib.hid h10
  clear h8 h10
  have hz := Lib.hid hz0
  clear hz0
  go_enter Tryz.func9, Tryz.ntmps9
  go_wp2_with fail
  rw [← hW1]
  clear hW1
  refine (F8.out _).mono ?_
  rintro e w1 ⟨rfl, hb⟩
  replace HZ := Lib.hid (HZ.out.next hb)
  replace HW := Lib.hid (HW.out.trans (hb.mono HW.out.size))
  clear hb
  go_wp2_with fail
  refine (F10.out _).mono ?_
  rintro e w2 ⟨rfl, hb⟩
  replace HZ := Lib.hid (HZ.out.next hb)
  replace HW := Lib.hid (HW.out.trans (hb.mono HW.out.size))
  clear hb
  go_wp2_with (first | (refine wpList_dst 19 rfl ?_; refine wpList_run 19 rfl rfl _ (exec_eqlI _ _ _ _ rfl .i64 n 0 true hz.out rfl rfl) ?_; go_frame) | (refine wpList_dst 20 rfl ?_; refine wpList_run 20 rfl rfl _ (exec_build1 31 1 (.const (.int .i64 1)) rfl _ _ rfl (m5_err 1 _)) ?_; go_frame) | (refine wpList_store_all rfl 31 (.tmp 4) (.tmp 20) rfl (w.heap.size) _ [.bool false, .string ⟨#[]⟩, .string ⟨#[]⟩, .int .i64 0] [.bool false, .string ⟨#[]⟩, .string ⟨#[]⟩, .int .i64 1] rfl rfl HZ.out rfl size_rivermarkref05_Made (List.forall_mem_cons.2 ⟨rfl, (List.forall_mem_cons.2 ⟨rfl, (List.forall_mem_cons.2 ⟨rfl, (List.forall_mem_cons.2 ⟨rfl, fun _ h => nomatch h⟩)⟩)⟩)⟩) ?_; intro w9 HK9 ho9; have HO9 := Lib.hid ho9; clear ho9))
  exact bodyPost_ret (results_blk rfl _ _ (w.heap.size) _ [.bool false, .string ⟨#[]⟩, .string ⟨#[]⟩, .int .i64 1] _ rfl HK9.out Tryz.underlying31 rfl size_rivermarkref05_Made) rfl ⟨rfl, HW.out.trans (HO9.out.below (by omega))⟩
set_option maxRecDepth 100000 in
set_option maxHeartbeats 800000 in
theorem make5_ok (m n : Int) (s t e : Bool) (p q : ByteArray) (R : Rv) (w : World) (h8 : (∀ W, Calls Tryz.prog 43 #[.int .i64 m] W fun e w' => e = .returned (.bool true) ∧ Below W.heap.size W w')) (h10 : (∀ W, Calls Tryz.prog 43 #[.int .i64 n] W fun e w' => e = .returned (.bool true) ∧ Below W.heap.size W w')) (hz0 : (n == 0) = false) (hs0 : decide (m < 0) = s) (ht0 : decide (n < 0) = t) (he0 : (s != t) = e) (h27 : (∀ W, Calls Tryz.prog 45 #[.int .i64 m] W fun e w' => e = .returned (.string p) ∧ Below W.heap.size W w')) (h29 : (∀ W, Calls Tryz.prog 45 #[.int .i64 n] W fun e w' => e = .returned (.string q) ∧ Below W.heap.size W w')) (h30 : (∀ W, Calls Tryz.prog 44 #[.bool e, .string p, .string q] W fun e w' => e = .returned (.agg #[.bool R.neg, .string R.n, .string R.d]) ∧ Below W.heap.size W w')) : Calls Tryz.prog 9 #[.int .i64 m, .int .i64 n] w fun e w' => e = .returned (.agg #[.bool R.neg, .string R.n, .string R.d, .int .i64 0]) ∧ Below w.heap.size w w' := by
  obtain ⟨W1, hW1⟩ : ∃ W, W = w.alloc (.cells #[.bool false, .string ⟨#[]⟩, .string ⟨#[]⟩, .int .i64 0] 31) := ⟨_, rfl⟩
  have HZ : Hid (Blk W1 w.heap.size 31 [.bool false, .string ⟨#[]⟩, .string ⟨#[]⟩, .int .i64 0]) := Lib.hid (by rw [hW1]; exact Blk.new w 31 [.bool false, .string ⟨#[]⟩, .string ⟨#[]⟩, .int .i64 0])
  have HW : Hid (Below w.heap.size w W1) := Lib.hid (by rw [hW1]; exact (Below.refl w.heap.size w).alloc (Nat.le_refl _) _)
  have F8 := Lib.hid h8
  have F10 := Lib.hid h10
  clear h8 h10
  have hz := Lib.hid hz0
  have hs := Lib.hid hs0
  have ht := Lib.hid ht0
  have H25 := Lib.hid (fun W => run_neqb s t e he0 W)
  have F27 := Lib.hid h27
  have F29 := Lib.hid h29
  have F30 := Lib.hid h30
  clear hs0 ht0 he0 h27 h29 h30
  clear hz0
  go_enter Tryz.func9, Tryz.ntmps9
  go_wp2_with fail
  rw [← hW1]
  clear hW1
  refine (F8.out _).mono ?_
  rintro e w1 ⟨rfl, hb⟩
  replace HZ := Lib.hid (HZ.out.next hb)
  replace HW := Lib.hid (HW.out.trans (hb.mono HW.out.size))
  clear hb
  go_wp2_with fail
  refine (F10.out _).mono ?_
  rintro e w2 ⟨rfl, hb⟩
  replace HZ := Lib.hid (HZ.out.next hb)
  replace HW := Lib.hid (HW.out.trans (hb.mono HW.out.size))
  clear hb
  go_wp2_with (first | (refine wpList_dst 19 rfl ?_; refine wpList_run 19 rfl rfl _ (exec_eqlI _ _ _ _ rfl .i64 n 0 false hz.out rfl rfl) ?_; go_frame) | (refine wpList_dst 22 rfl ?_; refine wpList_run 22 rfl rfl _ (exec_lssI' _ _ _ _ rfl .i64 m 0 s hs.out rfl rfl) ?_; go_frame) | (refine wpList_dst 24 rfl ?_; refine wpList_run 24 rfl rfl _ (exec_lssI' _ _ _ _ rfl .i64 n 0 t ht.out rfl rfl) ?_; go_frame) | (refine wpList_dst 25 rfl ?_; refine wpList_run 25 rfl rfl _ (exec_bin .neq 4 _ (.tmp 22) (.tmp 24) rfl _ _ _ rfl rfl rfl (H25.out _)) ?_; go_frame))
  refine (F27.out _).mono ?_
  rintro e w3 ⟨rfl, hb⟩
  replace HZ := Lib.hid (HZ.out.next hb)
  replace HW := Lib.hid (HW.out.trans (hb.mono HW.out.size))
  clear hb
  go_wp2_with fail
  refine (F29.out _).mono ?_
  rintro e w4 ⟨rfl, hb⟩
  replace HZ := Lib.hid (HZ.out.next hb)
  replace HW := Lib.hid (HW.out.trans (hb.mono HW.out.size))
  clear hb
  go_wp2_with fail
  refine (F30.out _).mono ?_
  rintro e w5 ⟨rfl, hb⟩
  replace HZ := Lib.hid (HZ.out.next hb)
  replace HW := Lib.hid (HW.out.trans (hb.mono HW.out.size))
  clear hb
  go_wp2_with (first | (refine wpList_dst 31 rfl ?_; refine wpList_run 31 rfl rfl _ (exec_build1 31 0 (.tmp 30) rfl _ _ rfl (m5_ok _ _ _ _)) ?_; go_frame) | (refine wpList_store_all rfl 31 (.tmp 4) (.tmp 31) rfl (w.heap.size) _ [.bool false, .string ⟨#[]⟩, .string ⟨#[]⟩, .int .i64 0] [.bool R.neg, .string R.n, .string R.d, .int .i64 0] rfl rfl HZ.out rfl size_rivermarkref05_Made (List.forall_mem_cons.2 ⟨rfl, (List.forall_mem_cons.2 ⟨rfl, (List.forall_mem_cons.2 ⟨rfl, (List.forall_mem_cons.2 ⟨rfl, fun _ h => nomatch h⟩)⟩)⟩)⟩) ?_; intro w9 HK9 ho9; have HO9 := Lib.hid ho9; clear ho9))
  exact bodyPost_ret (results_blk rfl _ _ (w.heap.size) _ [.bool R.neg, .string R.n, .string R.d, .int .i64 0] _ rfl HK9.out Tryz.underlying31 rfl size_rivermarkref05_Made) rfl ⟨rfl, HW.out.trans (HO9.out.below (by omega))⟩
theorem make_val (m n : Int) : mkRat (sg (decide (m < 0) != decide (n < 0)) m.natAbs) n.natAbs = (m : Rat) / (n : Rat) := by
  rw [← Rat.divInt_eq_div]
  by_cases hn : n < 0
  · have e1 : sg (decide (m < 0) != decide (n < 0)) m.natAbs = -m := by
      rw [decide_eq_true hn]
      by_cases hm : m < 0
      · rw [decide_eq_true hm]; show ((m.natAbs : Nat) : Int) = -m; omega
      · rw [decide_eq_false hm]; show -((m.natAbs : Nat) : Int) = -m; omega
    rw [e1, ← Rat.neg_divInt_neg m n, show -n = ((n.natAbs : Nat) : Int) by omega]
    rfl
  · have e1 : sg (decide (m < 0) != decide (n < 0)) m.natAbs = m := by
      rw [decide_eq_false hn]
      by_cases hm : m < 0
      · rw [decide_eq_true hm]; show -((m.natAbs : Nat) : Int) = m; omega
      · rw [decide_eq_false hm]; show ((m.natAbs : Nat) : Int) = m; omega
    have e2 : Rat.divInt m n = Rat.divInt m ((n.natAbs : Nat) : Int) := congrArg (Rat.divInt m) (by omega)
    rw [e1, e2]
    rfl
theorem nat_sz {n : Int} (h : inB n = true) : (cS n.natAbs).size ≤ 20000 := by
  have hn : -999999999999999 ≤ n ∧ n ≤ 999999999999999 := of_decide_eq_true h
  exact Nat.le_trans (cS_len (n := n.natAbs) (k := 8) (by omega)) (by decide)
theorem rmake5_any (m n : Int) (w : World) (h1 : inB m = true) (h2 : inB n = true) (h0 : n ≠ 0) : Calls Tryz.prog 9 #[.int .i64 m, .int .i64 n] w fun e w' => e = .returned (mk5 (rt ((m : Rat) / (n : Rat))) 0) ∧ Below w.heap.size w w' := by
  rw [← make_val]
  refine make5_ok m n _ _ _ _ _ _ w (fun W => ?_) (fun W => ?_) (beq_eq_false_iff_ne.2 h0) rfl rfl rfl (fun W => natl_any m W (of_decide_eq_true h1)) (fun W => natl_any n W (of_decide_eq_true h2)) (fun W => low_any _ _ _ W (nat_sz h1) (nat_sz h2) (by omega))
  · have h := inside_any m W
    rwa [show decide (-999999999999999 ≤ m ∧ m ≤ 999999999999999) = true from h1] at h
  · have h := inside_any n W
    rwa [show decide (-999999999999999 ≤ n ∧ n ≤ 999999999999999) = true from h2] at h
theorem rmake5_zero (m : Int) (w : World) (h1 : inB m = true) : Calls Tryz.prog 9 #[.int .i64 m, .int .i64 0] w fun e w' => e = .returned (mk5 (rt 0) 1) ∧ Below w.heap.size w w' := by
  rw [rt_zero]
  refine make5_zero m 0 w (fun W => ?_) (fun W => inside_any 0 W) rfl
  have h := inside_any m W
  rwa [show decide (-999999999999999 ≤ m ∧ m ≤ 999999999999999) = true from h1] at h
theorem rmake5_far (m n : Int) (w : World) (h : (inB m && inB n) = false) : Calls Tryz.prog 9 #[.int .i64 m, .int .i64 n] w fun e w' => e = .returned (mk5 (rt 0) 3) ∧ Below w.heap.size w w' := by
  rw [rt_zero]
  have i1 := fun W => inside_any m W
  have i2 := fun W => inside_any n W
  by_cases h1 : inB m = true
  · rw [show decide (-999999999999999 ≤ m ∧ m ≤ 999999999999999) = true from h1] at i1
    rw [show decide (-999999999999999 ≤ n ∧ n ≤ 999999999999999) = false from by rw [h1, Bool.true_and] at h; exact h] at i2
    exact make5_far2 m n w i1 i2
  · rw [Bool.not_eq_true] at h1
    rw [show decide (-999999999999999 ≤ m ∧ m ≤ 999999999999999) = false from h1] at i1
    exact make5_far1 m n _ w i1 i2
set_option maxRecDepth 100000 in
set_option maxHeartbeats 800000 in
theorem int5_raw (n k : Int) (R : Rv) (w : World) (h5 : (∀ W, Calls Tryz.prog 9 #[.int .i64 n, .int .i64 1] W fun e w' => e = .returned (.agg #[.bool R.neg, .string R.n, .string R.d, .int .i64 k]) ∧ Below W.heap.size W w')) : Calls Tryz.prog 19 #[.int .i64 n] w fun e w' => e = .returned (.agg #[.bool R.neg, .string R.n, .string R.d]) ∧ Below w.heap.size w w' := by
  obtain ⟨W1, hW1⟩ : ∃ W, W = w.alloc (.cells #[.bool false, .string ⟨#[]⟩, .string ⟨#[]⟩] 23) := ⟨_, rfl⟩
  have HZ : Hid (Blk W1 w.heap.size 23 [.bool false, .string ⟨#[]⟩, .string ⟨#[]⟩]) := Lib.hid (by rw [hW1]; exact Blk.new w 23 [.bool false, .string ⟨#[]⟩, .string ⟨#[]⟩])
  have HW : Hid (Below w.heap.size w W1) := Lib.hid (by rw [hW1]; exact (Below.refl w.heap.size w).alloc (Nat.le_refl _) _)
  have F5 := Lib.hid h5
  clear h5
  go_enter Tryz.func19, Tryz.ntmps19
  go_wp2_with fail
  rw [← hW1]
  clear hW1
  refine (F5.out _).mono ?_
  rintro e w1 ⟨rfl, hb⟩
  replace HZ := Lib.hid (HZ.out.next hb)
  replace HW := Lib.hid (HW.out.trans (hb.mono HW.out.size))
  clear hb
  go_wp2_with (first | (refine wpList_var rfl rfl 31 3 rfl rfl rfl (.tmp 5) rfl [.bool false, .string ByteArray.empty, .string ByteArray.empty, .int .i64 0] [.bool R.neg, .string R.n, .string R.d, .int .i64 k] zero_rivermarkref05_Made rfl rfl rfl size_rivermarkref05_Made (List.forall_mem_cons.2 ⟨rfl, (List.forall_mem_cons.2 ⟨rfl, (List.forall_mem_cons.2 ⟨rfl, (List.forall_mem_cons.2 ⟨rfl, fun _ h => nomatch h⟩)⟩)⟩)⟩) ?_; intro w2 HB HBw; replace HZ := Lib.hid (HZ.out.next HBw.out); replace HW := Lib.hid (HW.out.trans (HBw.out.mono HW.out.size)); clear HBw) | (refine wpList_store_all rfl 23 (.tmp 2) (.tmp 7) rfl (w.heap.size) _ [.bool false, .string ⟨#[]⟩, .string ⟨#[]⟩] [.bool R.neg, .string R.n, .string R.d] rfl rfl HZ.out rfl qr_size (List.forall_mem_cons.2 ⟨rfl, (List.forall_mem_cons.2 ⟨rfl, (List.forall_mem_cons.2 ⟨rfl, fun _ h => nomatch h⟩)⟩)⟩) ?_; intro w9 HK9 ho9; have HO9 := Lib.hid ho9; clear ho9) | (refine wpList_dst 6 rfl ?_; refine wpList_run 6 rfl rfl _ (exec_fieldAddr 31 (.tmp 3) 0 rfl _ _ rfl (fa_rivermarkref05_Made_0_0 _ _)) ?_; go_frame) | (refine wpList_dst 7 rfl ?_; refine wpList_run 7 rfl rfl _ (exec_load 23 (.tmp 6) rfl _ (.agg #[.bool R.neg, .string R.n, .string R.d]) rfl (run_load_part _ 23 _ 0 3 _ [.bool R.neg, .string R.n, .string R.d, .int .i64 k] _ HB.out (by simp) Tryz.underlying23 rfl size_api_Rat)) ?_; go_frame))
  exact bodyPost_ret (results_blk rfl _ _ (w.heap.size) _ [.bool R.neg, .string R.n, .string R.d] _ rfl HK9.out Tryz.underlying23 rfl qr_size) rfl ⟨rfl, HW.out.trans (HO9.out.below (by omega))⟩
theorem rint5_any (n : Int) (w : World) (h : inB n = true) : Calls Tryz.prog 19 #[.int .i64 n] w fun e w' => e = .returned (rv (rt (n : Rat))) ∧ Below w.heap.size w w' := by
  refine int5_raw n 0 _ w (fun W => ?_)
  have h1 := rmake5_any n 1 W h rfl (by decide)
  rwa [show ((n : Rat) / ((1 : Int) : Rat)) = (n : Rat) by rw [Rat.div_def]; show (n : Rat) * (1 : Rat)⁻¹ = n; rw [show (1 : Rat)⁻¹ = 1 by have h := Rat.mul_inv_cancel (1 : Rat) (by decide); rwa [Rat.one_mul] at h, Rat.mul_one]] at h1
theorem rint5_far (n : Int) (w : World) (h : inB n = false) : Calls Tryz.prog 19 #[.int .i64 n] w fun e w' => e = .returned (rv (rt 0)) ∧ Below w.heap.size w w' :=
  int5_raw n 3 _ w (fun W => rmake5_far n 1 W (by rw [h]; rfl))
end Go.Proofs.YtibfmcohodhkbaaGreatDoor
