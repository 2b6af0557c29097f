/- The reference's Parent. -/
import Derived.Test.YtmifpaafpmibmaaDoorDD
namespace Go.Proofs.YtmifpaafpmibmaaDoor
open Go.RowKit Hm Wm Cm

theorem bd_e1 (W : World) : (Instr.build 29 #[(1, .int .i64 1)]).run Tryd.prog W = .ok (.agg (d4 0 0 0 1).toArray) W := by kernel_rfl
theorem bd_e8 (W : World) : (Instr.build 29 #[(1, .int .i64 8)]).run Tryd.prog W = .ok (.agg (d4 0 0 0 8).toArray) W := by kernel_rfl
set_option maxRecDepth 100000 in
set_option maxHeartbeats 600000 in
theorem rparent_bad (l f t : Int) (w : World) (hok : okB l f t = false) : Calls Tryd.prog 8 #[.agg #[.int .i64 l, .int .i64 f, .int .i64 t]] w fun e w' => e = .returned (bdV 0 0 0 1) ∧ Below w.heap.size w w' := by
  obtain ⟨W1, hW1⟩ : ∃ W, W = (w.alloc (.cells #[.int .i64 l, .int .i64 f, .int .i64 t] 23)).alloc (.cells (d4 0 0 0 0).toArray 29) := ⟨_, rfl⟩
  have hb1 := ((Below.refl w.heap.size w).alloc (Nat.le_refl _) (.cells #[.int .i64 l, .int .i64 f, .int .i64 t] 23)).alloc (by simp) (.cells (d4 0 0 0 0).toArray 29)
  have hx1 := (Blk.new w 23 (b3 l f t)).alloc (.cells (d4 0 0 0 0).toArray 29)
  have hz1 := Blk.new (w.alloc (.cells #[.int .i64 l, .int .i64 f, .int .i64 t] 23)) 29 (d4 0 0 0 0)
  rw [World.size_alloc] at hz1
  have hx1' : Blk W1 w.heap.size 23 (b3 l f t) := by rw [hW1]; exact hx1
  have hz1' : Blk W1 (w.heap.size + 1) 29 (d4 0 0 0 0) := by rw [hW1]; exact hz1
  have HW : Hid (Below w.heap.size w W1) := Lib.hid (by rw [hW1]; exact hb1)
  have HP := Lib.hid hx1'
  have HZ := Lib.hid hz1'
  have FV := Lib.hid (fun W => rvalid_any l f t W)
  rw [hok] at FV
  clear hb1 hx1 hx1' hz1 hz1'
  go_enter Tryd.func8, Tryd.ntmps8
  go_wp2_with fail
  rw [← hW1]
  clear hW1
  go_wp2_with (first | (refine wpList_dst 4 rfl ?_; refine wpList_run 4 rfl rfl _ (exec_load 23 (.tmp 1) rfl _ _ rfl (run_load_part _ 23 _ 0 3 23 (b3 l f t) _ HP.out (by simp) Tryd.underlying23 rfl bn_size)) ?_; go_frame))
  refine (FV.out _).mono ?_
  rintro e w1 ⟨rfl, hb⟩
  replace HP := Lib.hid (HP.out.next hb)
  replace HZ := Lib.hid (HZ.out.next hb)
  replace HW := Lib.hid (HW.out.trans (hb.mono HW.out.size))
  clear hb
  go_wp2_with (first | (refine wpList_dst 8 rfl ?_; refine wpList_run 8 rfl rfl _ (exec_build1 29 1 (.const (.int .i64 1)) rfl (.int .i64 1) _ rfl (bd_e1 _)) ?_; go_frame) | (refine wpList_store_all rfl 29 (.tmp 2) (.tmp 8) rfl (w.heap.size + 1) _ (d4 0 0 0 0) (d4 0 0 0 1) rfl rfl HZ.out rfl bd_size (dt_one _ _ _ _) ?_; intro w9 HK9 ho9; have HO9 := Lib.hid ho9; clear ho9))
  exact bodyPost_ret (results_blk rfl _ _ (w.heap.size + 1) _ (d4 0 0 0 1) _ rfl HK9.out bd_under rfl bd_size) rfl ⟨rfl, HW.out.trans (HO9.out.below (by omega))⟩
set_option maxRecDepth 100000 in
set_option maxHeartbeats 600000 in
theorem rparent_top (f t : Int) (w : World) (hok : okB 4 f t = true) : Calls Tryd.prog 8 #[.agg #[.int .i64 4, .int .i64 f, .int .i64 t]] w fun e w' => e = .returned (bdV 0 0 0 8) ∧ Below w.heap.size w w' := by
  obtain ⟨W1, hW1⟩ : ∃ W, W = (w.alloc (.cells #[.int .i64 4, .int .i64 f, .int .i64 t] 23)).alloc (.cells (d4 0 0 0 0).toArray 29) := ⟨_, rfl⟩
  have hb1 := ((Below.refl w.heap.size w).alloc (Nat.le_refl _) (.cells #[.int .i64 4, .int .i64 f, .int .i64 t] 23)).alloc (by simp) (.cells (d4 0 0 0 0).toArray 29)
  have hx1 := (Blk.new w 23 (b3 4 f t)).alloc (.cells (d4 0 0 0 0).toArray 29)
  have hz1 := Blk.new (w.alloc (.cells #[.int .i64 4, .int .i64 f, .int .i64 t] 23)) 29 (d4 0 0 0 0)
  rw [World.size_alloc] at hz1
  have hx1' : Blk W1 w.heap.size 23 (b3 4 f t) := by rw [hW1]; exact hx1
  have hz1' : Blk W1 (w.heap.size + 1) 29 (d4 0 0 0 0) := by rw [hW1]; exact hz1
  have HW : Hid (Below w.heap.size w W1) := Lib.hid (by rw [hW1]; exact hb1)
  have HP := Lib.hid hx1'
  have HZ := Lib.hid hz1'
  have FV := Lib.hid (fun W => rvalid_any 4 f t W)
  rw [hok] at FV
  clear hb1 hx1 hx1' hz1 hz1'
  go_enter Tryd.func8, Tryd.ntmps8
  go_wp2_with fail
  rw [← hW1]
  clear hW1
  go_wp2_with (first | (refine wpList_dst 4 rfl ?_; refine wpList_run 4 rfl rfl _ (exec_load 23 (.tmp 1) rfl _ _ rfl (run_load_part _ 23 _ 0 3 23 (b3 4 f t) _ HP.out (by simp) Tryd.underlying23 rfl bn_size)) ?_; go_frame))
  refine (FV.out _).mono ?_
  rintro e w1 ⟨rfl, hb⟩
  replace HP := Lib.hid (HP.out.next hb)
  replace HZ := Lib.hid (HZ.out.next hb)
  replace HW := Lib.hid (HW.out.trans (hb.mono HW.out.size))
  clear hb
  go_wp2_with (first | (refine wpList_dst 9 rfl ?_; refine wpList_run 9 rfl rfl _ (exec_fieldAddr 23 (.tmp 1) 0 rfl _ _ rfl (bn_f0 _ _)) ?_; go_frame) | (refine wpList_dst 10 rfl ?_; refine wpList_run 10 rfl rfl _ (exec_loadI (.tmp 9) rfl (.int .i64 (4)) rfl (HP.out.cell 0)) ?_; go_frame) | (refine wpList_dst 12 rfl ?_; refine wpList_run 12 rfl rfl _ (exec_build1 29 1 (.const (.int .i64 8)) rfl (.int .i64 8) _ rfl (bd_e8 _)) ?_; go_frame) | (refine wpList_store_all rfl 29 (.tmp 2) (.tmp 12) rfl (w.heap.size + 1) _ (d4 0 0 0 0) (d4 0 0 0 8) rfl rfl HZ.out rfl bd_size (dt_one _ _ _ _) ?_; intro w9 HK9 ho9; have HO9 := Lib.hid ho9; clear ho9))
  exact bodyPost_ret (results_blk rfl _ _ (w.heap.size + 1) _ (d4 0 0 0 8) _ rfl HK9.out bd_under rfl bd_size) rfl ⟨rfl, HW.out.trans (HO9.out.below (by omega))⟩
set_option maxRecDepth 100000 in
set_option maxHeartbeats 600000 in
theorem rparent_raw (l f t F X : Int) (w : World) (hok : okB l f t = true) (hl : (l == 4) = false) (hl2 : 0 ≤ l ∧ l ≤ 4) (h : ∀ W, Calls Tryd.prog 6 #[.int .i64 (l + 1), .int .i64 f] W fun e w' => e = .returned (bdV (l + 1) F X 0) ∧ Below W.heap.size W w') : Calls Tryd.prog 8 #[.agg #[.int .i64 l, .int .i64 f, .int .i64 t]] w fun e w' => e = .returned (bdV (l + 1) F X 0) ∧ Below w.heap.size w w' := by
  have FB := Lib.hid h
  obtain ⟨l0, l4⟩ := hl2
  clear h
  obtain ⟨W1, hW1⟩ : ∃ W, W = (w.alloc (.cells #[.int .i64 l, .int .i64 f, .int .i64 t] 23)).alloc (.cells (d4 0 0 0 0).toArray 29) := ⟨_, rfl⟩
  have hb1 := ((Below.refl w.heap.size w).alloc (Nat.le_refl _) (.cells #[.int .i64 l, .int .i64 f, .int .i64 t] 23)).alloc (by simp) (.cells (d4 0 0 0 0).toArray 29)
  have hx1 := (Blk.new w 23 (b3 l f t)).alloc (.cells (d4 0 0 0 0).toArray 29)
  have hz1 := Blk.new (w.alloc (.cells #[.int .i64 l, .int .i64 f, .int .i64 t] 23)) 29 (d4 0 0 0 0)
  rw [World.size_alloc] at hz1
  have hx1' : Blk W1 w.heap.size 23 (b3 l f t) := by rw [hW1]; exact hx1
  have hz1' : Blk W1 (w.heap.size + 1) 29 (d4 0 0 0 0) := by rw [hW1]; exact hz1
  have HW : Hid (Below w.heap.size w W1) := Lib.hid (by rw [hW1]; exact hb1)
  have HP := Lib.hid hx1'
  have HZ := Lib.hid hz1'
  have FV := Lib.hid (fun W => rvalid_any l f t W)
  rw [hok] at FV
  clear hb1 hx1 hx1' hz1 hz1'
  go_enter Tryd.func8, Tryd.ntmps8
  go_wp2_with fail
  rw [← hW1]
  clear hW1
  go_wp2_with (first | (refine wpList_dst 4 rfl ?_; refine wpList_run 4 rfl rfl _ (exec_load 23 (.tmp 1) rfl _ _ rfl (run_load_part _ 23 _ 0 3 23 (b3 l f t) _ HP.out (by simp) Tryd.underlying23 rfl bn_size)) ?_; go_frame))
  refine (FV.out _).mono ?_
  rintro e w1 ⟨rfl, hb⟩
  replace HP := Lib.hid (HP.out.next hb)
  replace HZ := Lib.hid (HZ.out.next hb)
  replace HW := Lib.hid (HW.out.trans (hb.mono HW.out.size))
  clear hb
  go_wp2_with (first | (refine wpList_dst 9 rfl ?_; refine wpList_run 9 rfl rfl _ (exec_fieldAddr 23 (.tmp 1) 0 rfl _ _ rfl (bn_f0 _ _)) ?_; go_frame) | (refine wpList_dst 10 rfl ?_; refine wpList_run 10 rfl rfl _ (exec_loadI (.tmp 9) rfl (.int .i64 (l)) rfl (HP.out.cell 0)) ?_; go_frame) | (refine wpList_dst 13 rfl ?_; refine wpList_run 13 rfl rfl _ (exec_fieldAddr 23 (.tmp 1) 0 rfl _ _ rfl (bn_f0 _ _)) ?_; go_frame) | (refine wpList_dst 14 rfl ?_; refine wpList_run 14 rfl rfl _ (exec_loadI (.tmp 13) rfl (.int .i64 (l)) rfl (HP.out.cell 0)) ?_; go_frame) | (refine wpList_dst 16 rfl ?_; refine wpList_run 16 rfl rfl _ (exec_fieldAddr 23 (.tmp 1) 1 rfl _ _ rfl (bn_f1 _ _)) ?_; go_frame) | (refine wpList_dst 17 rfl ?_; refine wpList_run 17 rfl rfl _ (exec_loadI (.tmp 16) rfl (.int .i64 (f)) rfl (HP.out.cell 1)) ?_; go_frame))
  refine (FB.out _).mono ?_
  rintro e w2 ⟨rfl, hb⟩
  replace HZ := Lib.hid (HZ.out.next hb)
  replace HW := Lib.hid (HW.out.trans (hb.mono HW.out.size))
  clear hb
  go_wp2_with (first | (refine wpList_store_all rfl 29 (.tmp 2) (.tmp 18) rfl (w.heap.size + 1) _ (d4 0 0 0 0) (d4 (l + 1) F X 0) rfl rfl HZ.out rfl bd_size (dt_one _ _ _ _) ?_; intro w9 HK9 ho9; have HO9 := Lib.hid ho9; clear ho9))
  exact bodyPost_ret (results_blk rfl _ _ (w.heap.size + 1) _ (d4 (l + 1) F X 0) _ rfl HK9.out bd_under rfl bd_size) rfl ⟨rfl, HW.out.trans (HO9.out.below (by omega))⟩
end Go.Proofs.YtmifpaafpmibmaaDoor
