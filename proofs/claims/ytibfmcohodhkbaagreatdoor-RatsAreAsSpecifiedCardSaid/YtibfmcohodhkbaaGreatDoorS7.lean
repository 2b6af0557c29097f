/- The reference: Cmp, Min and Max. -/
import Derived.Test.YtibfmcohodhkbaaGreatDoorS6
namespace Go.Proofs.YtibfmcohodhkbaaGreatDoor
open Go.RowKit Hm Wm Wn

set_option maxRecDepth 100000 in
set_option maxHeartbeats 800000 in
theorem cmp5_zero (x y : Rv) (b : Bool) (n d : ByteArray) (w : World) (h11 : decide (n = ⟨#[]⟩) = true) (h8 : (∀ W, Calls Tryz.prog 25 #[.agg #[.bool x.neg, .string x.n, .string x.d], .agg #[.bool y.neg, .string y.n, .string y.d]] W fun e w' => e = .returned (.agg #[.bool b, .string n, .string d]) ∧ Below W.heap.size W w')) : Calls Tryz.prog 29 #[.agg #[.bool x.neg, .string x.n, .string x.d], .agg #[.bool y.neg, .string y.n, .string y.d]] w fun e w' => e = .returned (.int .i64 0) ∧ Below w.heap.size w w' := by
  have HW := Lib.hid (two_vars w 23 23 [.bool x.neg, .string x.n, .string x.d] [.bool y.neg, .string y.n, .string y.d]).2.2
  have F8 := Lib.hid h8
  have H11 := Lib.hid (fun W => run_eqS n ⟨#[]⟩ true h11 W)
  clear h8 h11
  go_enter Tryz.func29, Tryz.ntmps29
  go_wp2_with fail
  refine (F8.out _).mono ?_
  rintro e w1 ⟨rfl, hb⟩
  replace HW := Lib.hid (HW.out.trans (hb.mono HW.out.size))
  clear hb
  go_wp2_with (first | (refine wpList_var rfl rfl 23 5 rfl rfl rfl (.tmp 8) rfl [.bool false, .string ByteArray.empty, .string ByteArray.empty] [.bool b, .string n, .string d] zero_api_Rat rfl rfl rfl size_api_Rat (List.forall_mem_cons.2 ⟨rfl, (List.forall_mem_cons.2 ⟨rfl, (List.forall_mem_cons.2 ⟨rfl, fun _ h => nomatch h⟩)⟩)⟩) ?_; intro w2 HB HBw; replace HW := Lib.hid (HW.out.trans (HBw.out.mono HW.out.size)); clear HBw) | (refine wpList_dst 11 rfl ?_; refine wpList_run 11 rfl rfl _ (exec_bin .eql 9 _ (.tmp 10) (.const (.string ⟨#[]⟩)) rfl _ _ _ rfl rfl rfl (H11.out _)) ?_; go_frame) | (refine wpList_dst 9 rfl ?_; refine wpList_run 9 rfl rfl _ (exec_fieldAddr 23 (.tmp 5) 1 rfl _ _ rfl (fa_api_Rat_1_0 _ _)) ?_; go_frame) | (refine wpList_dst 10 rfl ?_; refine wpList_run 10 rfl rfl _ (exec_load 9 (.tmp 9) rfl _ (.string n) rfl (run_load_cell flat_string (HB.out.cell 1))) ?_; go_frame) | (refine wpList_dst 12 rfl ?_; refine wpList_run 12 rfl rfl _ (exec_fieldAddr 23 (.tmp 5) 0 rfl _ _ rfl (fa_api_Rat_0_0 _ _)) ?_; go_frame) | (refine wpList_dst 13 rfl ?_; refine wpList_run 13 rfl rfl _ (exec_load 4 (.tmp 12) rfl _ (.bool b) rfl (run_load_cell flat_bool (HB.out.cell 0))) ?_; go_frame))
  go_ret
  exact ⟨rfl, HW.out⟩
set_option maxRecDepth 100000 in
set_option maxHeartbeats 800000 in
theorem cmp5_neg (x y : Rv) (n d : ByteArray) (w : World) (h11 : decide (n = ⟨#[]⟩) = false) (h8 : (∀ W, Calls Tryz.prog 25 #[.agg #[.bool x.neg, .string x.n, .string x.d], .agg #[.bool y.neg, .string y.n, .string y.d]] W fun e w' => e = .returned (.agg #[.bool true, .string n, .string d]) ∧ Below W.heap.size W w')) : Calls Tryz.prog 29 #[.agg #[.bool x.neg, .string x.n, .string x.d], .agg #[.bool y.neg, .string y.n, .string y.d]] w fun e w' => e = .returned (.int .i64 (-1)) ∧ Below w.heap.size w w' := by
  have HW := Lib.hid (two_vars w 23 23 [.bool x.neg, .string x.n, .string x.d] [.bool y.neg, .string y.n, .string y.d]).2.2
  have F8 := Lib.hid h8
  have H11 := Lib.hid (fun W => run_eqS n ⟨#[]⟩ false h11 W)
  clear h8 h11
  go_enter Tryz.func29, Tryz.ntmps29
  go_wp2_with fail
  refine (F8.out _).mono ?_
  rintro e w1 ⟨rfl, hb⟩
  replace HW := Lib.hid (HW.out.trans (hb.mono HW.out.size))
  clear hb
  go_wp2_with (first | (refine wpList_var rfl rfl 23 5 rfl rfl rfl (.tmp 8) rfl [.bool false, .string ByteArray.empty, .string ByteArray.empty] [.bool true, .string n, .string d] zero_api_Rat rfl rfl rfl size_api_Rat (List.forall_mem_cons.2 ⟨rfl, (List.forall_mem_cons.2 ⟨rfl, (List.forall_mem_cons.2 ⟨rfl, fun _ h => nomatch h⟩)⟩)⟩) ?_; intro w2 HB HBw; replace HW := Lib.hid (HW.out.trans (HBw.out.mono HW.out.size)); clear HBw) | (refine wpList_dst 11 rfl ?_; refine wpList_run 11 rfl rfl _ (exec_bin .eql 9 _ (.tmp 10) (.const (.string ⟨#[]⟩)) rfl _ _ _ rfl rfl rfl (H11.out _)) ?_; go_frame) | (refine wpList_dst 9 rfl ?_; refine wpList_run 9 rfl rfl _ (exec_fieldAddr 23 (.tmp 5) 1 rfl _ _ rfl (fa_api_Rat_1_0 _ _)) ?_; go_frame) | (refine wpList_dst 10 rfl ?_; refine wpList_run 10 rfl rfl _ (exec_load 9 (.tmp 9) rfl _ (.string n) rfl (run_load_cell flat_string (HB.out.cell 1))) ?_; go_frame) | (refine wpList_dst 12 rfl ?_; refine wpList_run 12 rfl rfl _ (exec_fieldAddr 23 (.tmp 5) 0 rfl _ _ rfl (fa_api_Rat_0_0 _ _)) ?_; go_frame) | (refine wpList_dst 13 rfl ?_; refine wpList_run 13 rfl rfl _ (exec_load 4 (.tmp 12) rfl _ (.bool true) rfl (run_load_cell flat_bool (HB.out.cell 0))) ?_; go_frame))
  go_ret
  exact ⟨rfl, HW.out⟩
set_option maxRecDepth 100000 in
set_option maxHeartbeats 800000 in
theorem cmp5_pos (x y : Rv) (n d : ByteArray) (w : World) (h11 : decide (n = ⟨#[]⟩) = false) (h8 : (∀ W, Calls Tryz.prog 25 #[.agg #[.bool x.neg, .string x.n, .string x.d], .agg #[.bool y.neg, .string y.n, .string y.d]] W fun e w' => e = .returned (.agg #[.bool false, .string n, .string d]) ∧ Below W.heap.size W w')) : Calls Tryz.prog 29 #[.agg #[.bool x.neg, .string x.n, .string x.d], .agg #[.bool y.neg, .string y.n, .string y.d]] w fun e w' => e = .returned (.int .i64 1) ∧ Below w.heap.size w w' := by
  have HW := Lib.hid (two_vars w 23 23 [.bool x.neg, .string x.n, .string x.d] [.bool y.neg, .string y.n, .string y.d]).2.2
  have F8 := Lib.hid h8
  have H11 := Lib.hid (fun W => run_eqS n ⟨#[]⟩ false h11 W)
  clear h8 h11
  go_enter Tryz.func29, Tryz.ntmps29
  go_wp2_with fail
  refine (F8.out _).mono ?_
  rintro e w1 ⟨rfl, hb⟩
  replace HW := Lib.hid (HW.out.trans (hb.mono HW.out.size))
  clear hb
  go_wp2_with (first | (refine wpList_var rfl rfl 23 5 rfl rfl rfl (.tmp 8) rfl [.bool false, .string ByteArray.empty, .string ByteArray.empty] [.bool false, .string n, .string d] zero_api_Rat rfl rfl rfl size_api_Rat (List.forall_mem_cons.2 ⟨rfl, (List.forall_mem_cons.2 ⟨rfl, (List.forall_mem_cons.2 ⟨rfl, fun _ h => nomatch h⟩)⟩)⟩) ?_; intro w2 HB HBw; replace HW := Lib.hid (HW.out.trans (HBw.out.mono HW.out.size)); clear HBw) | (refine wpList_dst 11 rfl ?_; refine wpList_run 11 rfl rfl _ (exec_bin .eql 9 _ (.tmp 10) (.const (.string ⟨#[]⟩)) rfl _ _ _ rfl rfl rfl (H11.out _)) ?_; go_frame) | (refine wpList_dst 9 rfl ?_; refine wpList_run 9 rfl rfl _ (exec_fieldAddr 23 (.tmp 5) 1 rfl _ _ rfl (fa_api_Rat_1_0 _ _)) ?_; go_frame) | (refine wpList_dst 10 rfl ?_; refine wpList_run 10 rfl rfl _ (exec_load 9 (.tmp 9) rfl _ (.string n) rfl (run_load_cell flat_string (HB.out.cell 1))) ?_; go_frame) | (refine wpList_dst 12 rfl ?_; refine wpList_run 12 rfl rfl _ (exec_fieldAddr 23 (.tmp 5) 0 rfl _ _ rfl (fa_api_Rat_0_0 _ _)) ?_; go_frame) | (refine wpList_dst 13 rfl ?_; refine wpList_run 13 rfl rfl _ (exec_load 4 (.tmp 12) rfl _ (.bool false) rfl (run_load_cell flat_bool (HB.out.cell 0))) ?_; go_frame))
  go_ret
  exact ⟨rfl, HW.out⟩
theorem sub_lt0 {a b : Rat} (h : a < b) : (a - b).num < 0 := by
  have h1 : a - b < 0 := Rat.sub_lt_iff.2 (by rwa [Rat.zero_add])
  have h2 := (Rat.lt_iff (a - b) 0).1 h1
  simpa using h2
theorem sub_gt0 {a b : Rat} (h : b < a) : 0 < (a - b).num := by
  have h1 := sub_lt0 h
  have e : b - a = -(a - b) := by rw [Rat.neg_sub]
  rw [e, show (-(a - b)).num = -(a - b).num from rfl] at h1
  omega
theorem rcmp5_any (x y : Rv) (w : World) (hx : szR 900 x) (hy : szR 900 y) : Calls Tryz.prog 29 #[rv x, rv y] w fun e w' => e = .returned (.int .i64 (cmpQ (valR x) (valR y))) ∧ Below w.heap.size w w' := by
  have h8 := fun W => rsub5_any x y W (sz_big hx (by decide)) hy
  generalize valR x = A at h8 ⊢
  generalize valR y = B at h8 ⊢
  rcases q_tri A B with h | h | h
  · have h0 := sub_lt0 h
    have hne : A - B ≠ 0 := fun e => by rw [e] at h0; exact absurd h0 (by decide)
    rw [cmp_lt h]
    have e0 : rt (A - B) = ⟨true, (fr (A - B)).n, (fr (A - B)).d⟩ := by
      unfold rt; rw [if_neg hne]; unfold fr; rw [decide_eq_true h0]
    rw [e0] at h8
    exact cmp5_neg x y _ _ w (decide_eq_false (num_nil hne)) h8
  · subst h
    rw [Rat.sub_self, rt_zero] at h8
    rw [cmp_eq]
    exact cmp5_zero x y false _ _ w rfl h8
  · have h0 := sub_gt0 h
    have hne : A - B ≠ 0 := fun e => by rw [e] at h0; exact absurd h0 (by decide)
    rw [cmp_gt h]
    have e0 : rt (A - B) = ⟨false, (fr (A - B)).n, (fr (A - B)).d⟩ := by
      unfold rt; rw [if_neg hne]; unfold fr; rw [decide_eq_false (by omega)]
    rw [e0] at h8
    exact cmp5_pos x y _ _ w (decide_eq_false (num_nil hne)) h8
set_option maxRecDepth 100000 in
set_option maxHeartbeats 800000 in
theorem min5_fst (x y R : Rv) (c : Int) (w : World) (hc0 : decide (c ≤ 0) = true) (h7 : (∀ W, Calls Tryz.prog 29 #[.agg #[.bool x.neg, .string x.n, .string x.d], .agg #[.bool y.neg, .string y.n, .string y.d]] W fun e w' => e = .returned (.int .i64 c) ∧ Below W.heap.size W w')) (h10 : (∀ W, Calls Tryz.prog 50 #[.agg #[.bool x.neg, .string x.n, .string x.d]] W fun e w' => e = .returned (.agg #[.bool R.neg, .string R.n, .string R.d]) ∧ Below W.heap.size W w')) : Calls Tryz.prog 31 #[.agg #[.bool x.neg, .string x.n, .string x.d], .agg #[.bool y.neg, .string y.n, .string y.d]] w fun e w' => e = .returned (.agg #[.bool R.neg, .string R.n, .string R.d]) ∧ Below w.heap.size w w' := by
  obtain ⟨W0, hW0, kx, ky, kz, kw⟩ := three_vars w 23 23 23 [.bool x.neg, .string x.n, .string x.d] [.bool y.neg, .string y.n, .string y.d] [.bool false, .string ⟨#[]⟩, .string ⟨#[]⟩]
  have HX := Lib.hid kx
  have HY := Lib.hid ky
  have HZ := Lib.hid kz
  have HW := Lib.hid kw
  have hc := Lib.hid hc0
  have F7 := Lib.hid h7
  have F10 := Lib.hid h10
  clear kx ky kz kw hc0 h7 h10
  go_enter Tryz.func31, Tryz.ntmps31
  go_wp2_with fail
  rw [← hW0]
  clear hW0
  refine (F7.out _).mono ?_
  rintro e w1 ⟨rfl, hb⟩
  replace HX := Lib.hid (HX.out.next hb)
  replace HY := Lib.hid (HY.out.next hb)
  replace HZ := Lib.hid (HZ.out.next hb)
  replace HW := Lib.hid (HW.out.trans (hb.mono HW.out.size))
  clear hb
  go_wp2_with (first | (refine wpList_dst 8 rfl ?_; refine wpList_run 8 rfl rfl _ (exec_leqI _ _ _ _ rfl .i64 c 0 true hc.out rfl rfl) ?_; go_frame) | (refine wpList_dst 9 rfl ?_; refine wpList_run 9 rfl rfl _ (exec_load 23 (.tmp 2) rfl _ (.agg #[.bool x.neg, .string x.n, .string x.d]) rfl (run_load_part _ 23 _ 0 3 _ [.bool x.neg, .string x.n, .string x.d] _ HX.out (by simp) Tryz.underlying23 rfl size_api_Rat)) ?_; go_frame) | (refine wpList_dst 11 rfl ?_; refine wpList_run 11 rfl rfl _ (exec_load 23 (.tmp 3) rfl _ (.agg #[.bool y.neg, .string y.n, .string y.d]) rfl (run_load_part _ 23 _ 0 3 _ [.bool y.neg, .string y.n, .string y.d] _ HY.out (by simp) Tryz.underlying23 rfl size_api_Rat)) ?_; go_frame))
  refine (F10.out _).mono ?_
  rintro e w2 ⟨rfl, hb⟩
  replace HX := Lib.hid (HX.out.next hb)
  replace HY := Lib.hid (HY.out.next hb)
  replace HZ := Lib.hid (HZ.out.next hb)
  replace HW := Lib.hid (HW.out.trans (hb.mono HW.out.size))
  clear hb
  go_wp2_with (first | (refine wpList_store_all rfl 23 (.tmp 4) (.tmp 10) rfl (w.heap.size + 1 + 1) _ [.bool false, .string ⟨#[]⟩, .string ⟨#[]⟩] [.bool R.neg, .string R.n, .string R.d] rfl rfl HZ.out rfl qr_size (List.forall_mem_cons.2 ⟨rfl, (List.forall_mem_cons.2 ⟨rfl, (List.forall_mem_cons.2 ⟨rfl, fun _ h => nomatch h⟩)⟩)⟩) ?_; intro w9 HK9 ho9; have HO9 := Lib.hid ho9; clear ho9))
  exact bodyPost_ret (results_blk rfl _ _ (w.heap.size + 1 + 1) _ [.bool R.neg, .string R.n, .string R.d] _ rfl HK9.out Tryz.underlying23 rfl qr_size) rfl ⟨rfl, HW.out.trans (HO9.out.below (by omega))⟩
set_option maxRecDepth 100000 in
set_option maxHeartbeats 800000 in
theorem min5_snd (x y R : Rv) (c : Int) (w : World) (hc0 : decide (c ≤ 0) = false) (h7 : (∀ W, Calls Tryz.prog 29 #[.agg #[.bool x.neg, .string x.n, .string x.d], .agg #[.bool y.neg, .string y.n, .string y.d]] W fun e w' => e = .returned (.int .i64 c) ∧ Below W.heap.size W w')) (h12 : (∀ W, Calls Tryz.prog 50 #[.agg #[.bool y.neg, .string y.n, .string y.d]] W fun e w' => e = .returned (.agg #[.bool R.neg, .string R.n, .string R.d]) ∧ Below W.heap.size W w')) : Calls Tryz.prog 31 #[.agg #[.bool x.neg, .string x.n, .string x.d], .agg #[.bool y.neg, .string y.n, .string y.d]] w fun e w' => e = .returned (.agg #[.bool R.neg, .string R.n, .string R.d]) ∧ Below w.heap.size w w' := by
  obtain ⟨W0, hW0, kx, ky, kz, kw⟩ := three_vars w 23 23 23 [.bool x.neg, .string x.n, .string x.d] [.bool y.neg, .string y.n, .string y.d] [.bool false, .string ⟨#[]⟩, .string ⟨#[]⟩]
  have HX := Lib.hid kx
  have HY := Lib.hid ky
  have HZ := Lib.hid kz
  have HW := Lib.hid kw
  have hc := Lib.hid hc0
  have F7 := Lib.hid h7
  have F12 := Lib.hid h12
  clear kx ky kz kw hc0 h7 h12
  go_enter Tryz.func31, Tryz.ntmps31
  go_wp2_with fail
  rw [← hW0]
  clear hW0
  refine (F7.out _).mono ?_
  rintro e w1 ⟨rfl, hb⟩
  replace HX := Lib.hid (HX.out.next hb)
  replace HY := Lib.hid (HY.out.next hb)
  replace HZ := Lib.hid (HZ.out.next hb)
  replace HW := Lib.hid (HW.out.trans (hb.mono HW.out.size))
  clear hb
  go_wp2_with (first | (refine wpList_dst 8 rfl ?_; refine wpList_run 8 rfl rfl _ (exec_leqI _ _ _ _ rfl .i64 c 0 false hc.out rfl rfl) ?_; go_frame) | (refine wpList_dst 9 rfl ?_; refine wpList_run 9 rfl rfl _ (exec_load 23 (.tmp 2) rfl _ (.agg #[.bool x.neg, .string x.n, .string x.d]) rfl (run_load_part _ 23 _ 0 3 _ [.bool x.neg, .string x.n, .string x.d] _ HX.out (by simp) Tryz.underlying23 rfl size_api_Rat)) ?_; go_frame) | (refine wpList_dst 11 rfl ?_; refine wpList_run 11 rfl rfl _ (exec_load 23 (.tmp 3) rfl _ (.agg #[.bool y.neg, .string y.n, .string y.d]) rfl (run_load_part _ 23 _ 0 3 _ [.bool y.neg, .string y.n, .string y.d] _ HY.out (by simp) Tryz.underlying23 rfl size_api_Rat)) ?_; go_frame))
  refine (F12.out _).mono ?_
  rintro e w2 ⟨rfl, hb⟩
  replace HX := Lib.hid (HX.out.next hb)
  replace HY := Lib.hid (HY.out.next hb)
  replace HZ := Lib.hid (HZ.out.next hb)
  replace HW := Lib.hid (HW.out.trans (hb.mono HW.out.size))
  clear hb
  go_wp2_with (first | (refine wpList_store_all rfl 23 (.tmp 4) (.tmp 12) rfl (w.heap.size + 1 + 1) _ [.bool false, .string ⟨#[]⟩, .string ⟨#[]⟩] [.bool R.neg, .string R.n, .string R.d] rfl rfl HZ.out rfl qr_size (List.forall_mem_cons.2 ⟨rfl, (List.forall_mem_cons.2 ⟨rfl, (List.forall_mem_cons.2 ⟨rfl, fun _ h => nomatch h⟩)⟩)⟩) ?_; intro w9 HK9 ho9; have HO9 := Lib.hid ho9; clear ho9))
  exact bodyPost_ret (results_blk rfl _ _ (w.heap.size + 1 + 1) _ [.bool R.neg, .string R.n, .string R.d] _ rfl HK9.out Tryz.underlying23 rfl qr_size) rfl ⟨rfl, HW.out.trans (HO9.out.below (by omega))⟩
theorem rmin5_any (x y : Rv) (w : World) (hx : szR 900 x) (hy : szR 900 y) : Calls Tryz.prog 31 #[rv x, rv y] w fun e w' => e = .returned (rv (rt (if cmpQ (valR x) (valR y) = -1 then valR x else valR y))) ∧ Below w.heap.size w w' := by
  have h7 := fun W => rcmp5_any x y W hx hy
  have c1 := fun W => rcl_any x W (sz_big hx (by decide))
  have c2 := fun W => rcl_any y W (sz_big hy (by decide))
  generalize valR x = A at h7 c1 ⊢
  generalize valR y = B at h7 c2 ⊢
  rcases q_tri A B with h | h | h
  · rw [cmp_lt h] at h7 ⊢
    rw [if_pos rfl]
    exact min5_fst x y _ _ w rfl h7 c1
  · subst h
    rw [cmp_eq] at h7 ⊢
    rw [if_neg (by decide)]
    exact min5_fst x y _ _ w rfl h7 c1
  · rw [cmp_gt h] at h7 ⊢
    rw [if_neg (by decide)]
    exact min5_snd x y _ _ w rfl h7 c2
set_option maxRecDepth 100000 in
set_option maxHeartbeats 800000 in
theorem max5_fst (x y R : Rv) (c : Int) (w : World) (hc0 : decide (0 ≤ c) = true) (h7 : (∀ W, Calls Tryz.prog 29 #[.agg #[.bool x.neg, .string x.n, .string x.d], .agg #[.bool y.neg, .string y.n, .string y.d]] W fun e w' => e = .returned (.int .i64 c) ∧ Below W.heap.size W w')) (h10 : (∀ W, Calls Tryz.prog 50 #[.agg #[.bool x.neg, .string x.n, .string x.d]] W fun e w' => e = .returned (.agg #[.bool R.neg, .string R.n, .string R.d]) ∧ Below W.heap.size W w')) : Calls Tryz.prog 33 #[.agg #[.bool x.neg, .string x.n, .string x.d], .agg #[.bool y.neg, .string y.n, .string y.d]] w fun e w' => e = .returned (.agg #[.bool R.neg, .string R.n, .string R.d]) ∧ Below w.heap.size w w' := by
  obtain ⟨W0, hW0, kx, ky, kz, kw⟩ := three_vars w 23 23 23 [.bool x.neg, .string x.n, .string x.d] [.bool y.neg, .string y.n, .string y.d] [.bool false, .string ⟨#[]⟩, .string ⟨#[]⟩]
  have HX := Lib.hid kx
  have HY := Lib.hid ky
  have HZ := Lib.hid kz
  have HW := Lib.hid kw
  have hc := Lib.hid hc0
  have F7 := Lib.hid h7
  have F10 := Lib.hid h10
  clear kx ky kz kw hc0 h7 h10
  go_enter Tryz.func33, Tryz.ntmps33
  go_wp2_with fail
  rw [← hW0]
  clear hW0
  refine (F7.out _).mono ?_
  rintro e w1 ⟨rfl, hb⟩
  replace HX := Lib.hid (HX.out.next hb)
  replace HY := Lib.hid (HY.out.next hb)
  replace HZ := Lib.hid (HZ.out.next hb)
  replace HW := Lib.hid (HW.out.trans (hb.mono HW.out.size))
  clear hb
  go_wp2_with (first | (refine wpList_dst 8 rfl ?_; refine wpList_run 8 rfl rfl _ (exec_geqI _ _ _ _ rfl .i64 c 0 true hc.out rfl rfl) ?_; go_frame) | (refine wpList_dst 9 rfl ?_; refine wpList_run 9 rfl rfl _ (exec_load 23 (.tmp 2) rfl _ (.agg #[.bool x.neg, .string x.n, .string x.d]) rfl (run_load_part _ 23 _ 0 3 _ [.bool x.neg, .string x.n, .string x.d] _ HX.out (by simp) Tryz.underlying23 rfl size_api_Rat)) ?_; go_frame) | (refine wpList_dst 11 rfl ?_; refine wpList_run 11 rfl rfl _ (exec_load 23 (.tmp 3) rfl _ (.agg #[.bool y.neg, .string y.n, .string y.d]) rfl (run_load_part _ 23 _ 0 3 _ [.bool y.neg, .string y.n, .string y.d] _ HY.out (by simp) Tryz.underlying23 rfl size_api_Rat)) ?_; go_frame))
  refine (F10.out _).mono ?_
  rintro e w2 ⟨rfl, hb⟩
  replace HX := Lib.hid (HX.out.next hb)
  replace HY := Lib.hid (HY.out.next hb)
  replace HZ := Lib.hid (HZ.out.next hb)
  replace HW := Lib.hid (HW.out.trans (hb.mono HW.out.size))
  clear hb
  go_wp2_with (first | (refine wpList_store_all rfl 23 (.tmp 4) (.tmp 10) rfl (w.heap.size + 1 + 1) _ [.bool false, .string ⟨#[]⟩, .string ⟨#[]⟩] [.bool R.neg, .string R.n, .string R.d] rfl rfl HZ.out rfl qr_size (List.forall_mem_cons.2 ⟨rfl, (List.forall_mem_cons.2 ⟨rfl, (List.forall_mem_cons.2 ⟨rfl, fun _ h => nomatch h⟩)⟩)⟩) ?_; intro w9 HK9 ho9; have HO9 := Lib.hid ho9; clear ho9))
  exact bodyPost_ret (results_blk rfl _ _ (w.heap.size + 1 + 1) _ [.bool R.neg, .string R.n, .string R.d] _ rfl HK9.out Tryz.underlying23 rfl qr_size) rfl ⟨rfl, HW.out.trans (HO9.out.below (by omega))⟩
set_option maxRecDepth 100000 in
set_option maxHeartbeats 800000 in
theorem max5_snd (x y R : Rv) (c : Int) (w : World) (hc0 : decide (0 ≤ c) = false) (h7 : (∀ W, Calls Tryz.prog 29 #[.agg #[.bool x.neg, .string x.n, .string x.d], .agg #[.bool y.neg, .string y.n, .string y.d]] W fun e w' => e = .returned (.int .i64 c) ∧ Below W.heap.size W w')) (h12 : (∀ W, Calls Tryz.prog 50 #[.agg #[.bool y.neg, .string y.n, .string y.d]] W fun e w' => e = .returned (.agg #[.bool R.neg, .string R.n, .string R.d]) ∧ Below W.heap.size W w')) : Calls Tryz.prog 33 #[.agg #[.bool x.neg, .string x.n, .string x.d], .agg #[.bool y.neg, .string y.n, .string y.d]] w fun e w' => e = .returned (.agg #[.bool R.neg, .string R.n, .string R.d]) ∧ Below w.heap.size w w' := by
  obtain ⟨W0, hW0, kx, ky, kz, kw⟩ := three_vars w 23 23 23 [.bool x.neg, .string x.n, .string x.d] [.bool y.neg, .string y.n, .string y.d] [.bool false, .string ⟨#[]⟩, .string ⟨#[]⟩]
  have HX := Lib.hid kx
  have HY := Lib.hid ky
  have HZ := Lib.hid kz
  have HW := Lib.hid kw
  have hc := Lib.hid hc0
  have F7 := Lib.hid h7
  have F12 := Lib.hid h12
  clear kx ky kz kw hc0 h7 h12
  go_enter Tryz.func33, Tryz.ntmps33
  go_wp2_with fail
  rw [← hW0]
  clear hW0
  refine (F7.out _).mono ?_
  rintro e w1 ⟨rfl, hb⟩
  replace HX := Lib.hid (HX.out.next hb)
  replace HY := Lib.hid (HY.out.next hb)
  replace HZ := Lib.hid (HZ.out.next hb)
  replace HW := Lib.hid (HW.out.trans (hb.mono HW.out.size))
  clear hb
  go_wp2_with (first | (refine wpList_dst 8 rfl ?_; refine wpList_run 8 rfl rfl _ (exec_geqI _ _ _ _ rfl .i64 c 0 false hc.out rfl rfl) ?_; go_frame) | (refine wpList_dst 9 rfl ?_; refine wpList_run 9 rfl rfl _ (exec_load 23 (.tmp 2) rfl _ (.agg #[.bool x.neg, .string x.n, .string x.d]) rfl (run_load_part _ 23 _ 0 3 _ [.bool x.neg, .string x.n, .string x.d] _ HX.out (by simp) Tryz.underlying23 rfl size_api_Rat)) ?_; go_frame) | (refine wpList_dst 11 rfl ?_; refine wpList_run 11 rfl rfl _ (exec_load 23 (.tmp 3) rfl _ (.agg #[.bool y.neg, .string y.n, .string y.d]) rfl (run_load_part _ 23 _ 0 3 _ [.bool y.neg, .string y.n, .string y.d] _ HY.out (by simp) Tryz.underlying23 rfl size_api_Rat)) ?_; go_frame))
  refine (F12.out _).mono ?_
  rintro e w2 ⟨rfl, hb⟩
  replace HX := Lib.hid (HX.out.next hb)
  replace HY := Lib.hid (HY.out.next hb)
  replace HZ := Lib.hid (HZ.out.next hb)
  replace HW := Lib.hid (HW.out.trans (hb.mono HW.out.size))
  clear hb
  go_wp2_with (first | (refine wpList_store_all rfl 23 (.tmp 4) (.tmp 12) rfl (w.heap.size + 1 + 1) _ [.bool false, .string ⟨#[]⟩, .string ⟨#[]⟩] [.bool R.neg, .string R.n, .string R.d] rfl rfl HZ.out rfl qr_size (List.forall_mem_cons.2 ⟨rfl, (List.forall_mem_cons.2 ⟨rfl, (List.forall_mem_cons.2 ⟨rfl, fun _ h => nomatch h⟩)⟩)⟩) ?_; intro w9 HK9 ho9; have HO9 := Lib.hid ho9; clear ho9))
  exact bodyPost_ret (results_blk rfl _ _ (w.heap.size + 1 + 1) _ [.bool R.neg, .string R.n, .string R.d] _ rfl HK9.out Tryz.underlying23 rfl qr_size) rfl ⟨rfl, HW.out.trans (HO9.out.below (by omega))⟩
theorem rmax5_any (x y : Rv) (w : World) (hx : szR 900 x) (hy : szR 900 y) : Calls Tryz.prog 33 #[rv x, rv y] w fun e w' => e = .returned (rv (rt (if cmpQ (valR x) (valR y) = 1 then valR x else valR y))) ∧ Below w.heap.size w w' := by
  have h7 := fun W => rcmp5_any x y W hx hy
  have c1 := fun W => rcl_any x W (sz_big hx (by decide))
  have c2 := fun W => rcl_any y W (sz_big hy (by decide))
  generalize valR x = A at h7 c1 ⊢
  generalize valR y = B at h7 c2 ⊢
  rcases q_tri A B with h | h | h
  · rw [cmp_lt h] at h7 ⊢
    rw [if_neg (by decide)]
    exact max5_snd x y _ _ w rfl h7 c2
  · subst h
    rw [cmp_eq] at h7 ⊢
    rw [if_neg (by decide)]
    exact max5_fst x y _ _ w rfl h7 c1
  · rw [cmp_gt h] at h7 ⊢
    rw [if_pos rfl]
    exact max5_fst x y _ _ w rfl h7 c1
end Go.Proofs.YtibfmcohodhkbaaGreatDoor
