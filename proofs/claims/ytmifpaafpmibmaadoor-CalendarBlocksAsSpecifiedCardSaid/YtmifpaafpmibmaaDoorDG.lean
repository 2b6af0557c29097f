/- The reference's Children and Blocks. -/
import Derived.Test.YtmifpaafpmibmaaDoorDF
namespace Go.Proofs.YtmifpaafpmibmaaDoor
open Go.RowKit Hm Wm Cm

theorem size_api_Bin : (Tryd.prog.info? 23).map (·.size) = some 3 := by kernel_rfl
theorem size_rivermarkref06_Listed : (Tryd.prog.info? 37).map (·.size) = some 2 := by kernel_rfl
theorem fa_api_Bin_0_0 (g : Nat) (W : World) : (Instr.fieldAt 23 (.pointer (some ⟨g, 0, none⟩)) 0).run Tryd.prog W = .ok (.pointer (some ⟨g, 0, none⟩)) W := by kernel_rfl
theorem flat_int (W : World) : (isAgg 3).run Tryd.prog W = .ok false W := by kernel_rfl
theorem fa_api_Bin_1_0 (g : Nat) (W : World) : (Instr.fieldAt 23 (.pointer (some ⟨g, 0, none⟩)) 1).run Tryd.prog W = .ok (.pointer (some ⟨g, 1, none⟩)) W := by kernel_rfl
theorem fa_api_Bin_2_0 (g : Nat) (W : World) : (Instr.fieldAt 23 (.pointer (some ⟨g, 0, none⟩)) 2).run Tryd.prog W = .ok (.pointer (some ⟨g, 2, none⟩)) W := by kernel_rfl
theorem ls_e1 (W : World) : (Instr.build 37 #[(1, .int .i64 1)]).run Tryd.prog W = .ok (.agg #[.slice none 0 0, .int .i64 1]) W := by kernel_rfl
theorem ls_e8 (W : World) : (Instr.build 37 #[(1, .int .i64 8)]).run Tryd.prog W = .ok (.agg #[.slice none 0 0, .int .i64 8]) W := by kernel_rfl
theorem ls_e3 (W : World) : (Instr.build 37 #[(1, .int .i64 3)]).run Tryd.prog W = .ok (.agg #[.slice none 0 0, .int .i64 3]) W := by kernel_rfl
theorem ls_e2 (W : World) : (Instr.build 37 #[(1, .int .i64 2)]).run Tryd.prog W = .ok (.agg #[.slice none 0 0, .int .i64 2]) W := by kernel_rfl
theorem ls_v (A : Option Addr) (n c : Nat) (W : World) : (Instr.build 37 #[(0, .slice A n c)]).run Tryd.prog W = .ok (.agg #[.slice A n c, .int .i64 0]) W := by kernel_rfl
def LsV (v : Value) (e : Int) : Value := .agg #[v, .int .i64 e]
theorem Row.lower {W : World} {b1 b2 : Nat} {v : Value} {l : List Bk} (h : Row W b2 v l) (hb : b1 ≤ b2) : Row W b1 v l := ⟨own_lower h.1 hb, h.2⟩
theorem ls_ne : 37 ≠ 23 := by decide
set_option maxRecDepth 100000 in
set_option maxHeartbeats 600000 in
theorem rchild_bad (l f t : Int) (w : World) (hok : okB l f t = false) : Calls Tryd.prog 10 #[.agg #[.int .i64 l, .int .i64 f, .int .i64 t]] w fun e w' => e = .returned (LsV (.slice none 0 0) 1) ∧ Below w.heap.size w w' := by
  obtain ⟨W1, hW1⟩ : ∃ W, W = (w.alloc (.cells #[.int .i64 l, .int .i64 f, .int .i64 t] 23)).alloc (.cells #[.slice none 0 0, .int .i64 0] 37) := ⟨_, rfl⟩
  have hb1 := ((Below.refl w.heap.size w).alloc (Nat.le_refl _) (.cells #[.int .i64 l, .int .i64 f, .int .i64 t] 23)).alloc (by simp) (.cells #[.slice none 0 0, .int .i64 0] 37)
  have hx1 := (Blk.new w 23 (b3 l f t)).alloc (.cells #[.slice none 0 0, .int .i64 0] 37)
  have hz1 := Blk.new (w.alloc (.cells #[.int .i64 l, .int .i64 f, .int .i64 t] 23)) 37 [.slice none 0 0, .int .i64 0]
  rw [World.size_alloc] at hz1
  have hx1' : Blk W1 w.heap.size 23 (b3 l f t) := by rw [hW1]; exact hx1
  have hz1' : Blk W1 (w.heap.size + 1) 37 [.slice none 0 0, .int .i64 0] := by rw [hW1]; exact hz1
  have HW : Hid (Below w.heap.size w W1) := Lib.hid (by rw [hW1]; exact hb1)
  have HP := Lib.hid hx1'
  have HZ := Lib.hid hz1'
  have FV := Lib.hid (fun W => rvalid_any l f t W)
  rw [hok] at FV
  clear hb1 hx1 hx1' hz1 hz1'
  go_enter Tryd.func10, Tryd.ntmps10
  go_wp2_with fail
  rw [← hW1]
  clear hW1
  go_wp2_with (first | (refine wpList_dst 4 rfl ?_; refine wpList_run 4 rfl rfl _ (exec_load 23 (.tmp 1) rfl _ (.agg #[.int .i64 l, .int .i64 f, .int .i64 t]) rfl (run_load_part _ 23 _ 0 3 _ [.int .i64 l, .int .i64 f, .int .i64 t] _ HP.out (by simp) Tryd.underlying23 rfl size_api_Bin)) ?_; go_frame))
  refine (FV.out _).mono ?_
  rintro e w1 ⟨rfl, hb⟩
  replace HP := Lib.hid (HP.out.next hb)
  replace HZ := Lib.hid (HZ.out.next hb)
  replace HW := Lib.hid (HW.out.trans (hb.mono HW.out.size))
  clear hb
  go_wp2_with (first | (refine wpList_dst 8 rfl ?_; refine wpList_run 8 rfl rfl _ (exec_build1 37 1 (.const (.int .i64 1)) rfl (.int .i64 1) _ rfl (ls_e1 _)) ?_; go_frame) | (refine wpList_store_all rfl 37 (.tmp 2) (.tmp 8) rfl (w.heap.size + 1) _ [.slice none 0 0, .int .i64 0] [.slice none 0 0, .int .i64 1] rfl rfl HZ.out rfl size_rivermarkref06_Listed (List.forall_mem_cons.2 ⟨rfl, (List.forall_mem_cons.2 ⟨rfl, fun _ h => nomatch h⟩)⟩) ?_; intro w9 HK9 ho9; have HO9 := Lib.hid ho9; clear ho9) | (refine wpList_dst 9 rfl ?_; refine wpList_run 9 rfl rfl _ (exec_fieldAddr 23 (.tmp 1) 0 rfl _ _ rfl (fa_api_Bin_0_0 _ _)) ?_; go_frame) | (refine wpList_dst 10 rfl ?_; refine wpList_run 10 rfl rfl _ (exec_load 3 (.tmp 9) rfl _ (.int .i64 l) rfl (run_load_cell flat_int (HP.out.cell 0))) ?_; go_frame) | (refine wpList_dst 13 rfl ?_; refine wpList_run 13 rfl rfl _ (exec_fieldAddr 23 (.tmp 1) 0 rfl _ _ rfl (fa_api_Bin_0_0 _ _)) ?_; go_frame) | (refine wpList_dst 14 rfl ?_; refine wpList_run 14 rfl rfl _ (exec_load 3 (.tmp 13) rfl _ (.int .i64 l) rfl (run_load_cell flat_int (HP.out.cell 0))) ?_; go_frame) | (refine wpList_dst 16 rfl ?_; refine wpList_run 16 rfl rfl _ (exec_fieldAddr 23 (.tmp 1) 1 rfl _ _ rfl (fa_api_Bin_1_0 _ _)) ?_; go_frame) | (refine wpList_dst 17 rfl ?_; refine wpList_run 17 rfl rfl _ (exec_load 3 (.tmp 16) rfl _ (.int .i64 f) rfl (run_load_cell flat_int (HP.out.cell 1))) ?_; go_frame) | (refine wpList_dst 18 rfl ?_; refine wpList_run 18 rfl rfl _ (exec_fieldAddr 23 (.tmp 1) 2 rfl _ _ rfl (fa_api_Bin_2_0 _ _)) ?_; go_frame) | (refine wpList_dst 19 rfl ?_; refine wpList_run 19 rfl rfl _ (exec_load 3 (.tmp 18) rfl _ (.int .i64 t) rfl (run_load_cell flat_int (HP.out.cell 2))) ?_; go_frame))
  exact bodyPost_ret (results_blk rfl _ _ (w.heap.size + 1) _ [.slice none 0 0, .int .i64 1] _ rfl HK9.out Tryd.underlying37 rfl size_rivermarkref06_Listed) rfl ⟨rfl, HW.out.trans (HO9.out.below (by omega))⟩
set_option maxRecDepth 100000 in
set_option maxHeartbeats 600000 in
theorem rchild_low (f t : Int) (w : World) (hok : okB 0 f t = true) : Calls Tryd.prog 10 #[.agg #[.int .i64 0, .int .i64 f, .int .i64 t]] w fun e w' => e = .returned (LsV (.slice none 0 0) 8) ∧ Below w.heap.size w w' := by
  obtain ⟨W1, hW1⟩ : ∃ W, W = (w.alloc (.cells #[.int .i64 0, .int .i64 f, .int .i64 t] 23)).alloc (.cells #[.slice none 0 0, .int .i64 0] 37) := ⟨_, rfl⟩
  have hb1 := ((Below.refl w.heap.size w).alloc (Nat.le_refl _) (.cells #[.int .i64 0, .int .i64 f, .int .i64 t] 23)).alloc (by simp) (.cells #[.slice none 0 0, .int .i64 0] 37)
  have hx1 := (Blk.new w 23 (b3 0 f t)).alloc (.cells #[.slice none 0 0, .int .i64 0] 37)
  have hz1 := Blk.new (w.alloc (.cells #[.int .i64 0, .int .i64 f, .int .i64 t] 23)) 37 [.slice none 0 0, .int .i64 0]
  rw [World.size_alloc] at hz1
  have hx1' : Blk W1 w.heap.size 23 (b3 0 f t) := by rw [hW1]; exact hx1
  have hz1' : Blk W1 (w.heap.size + 1) 37 [.slice none 0 0, .int .i64 0] := by rw [hW1]; exact hz1
  have HW : Hid (Below w.heap.size w W1) := Lib.hid (by rw [hW1]; exact hb1)
  have HP := Lib.hid hx1'
  have HZ := Lib.hid hz1'
  have FV := Lib.hid (fun W => rvalid_any 0 f t W)
  rw [hok] at FV
  clear hb1 hx1 hx1' hz1 hz1'
  go_enter Tryd.func10, Tryd.ntmps10
  go_wp2_with fail
  rw [← hW1]
  clear hW1
  go_wp2_with (first | (refine wpList_dst 4 rfl ?_; refine wpList_run 4 rfl rfl _ (exec_load 23 (.tmp 1) rfl _ (.agg #[.int .i64 0, .int .i64 f, .int .i64 t]) rfl (run_load_part _ 23 _ 0 3 _ [.int .i64 0, .int .i64 f, .int .i64 t] _ HP.out (by simp) Tryd.underlying23 rfl size_api_Bin)) ?_; go_frame))
  refine (FV.out _).mono ?_
  rintro e w1 ⟨rfl, hb⟩
  replace HP := Lib.hid (HP.out.next hb)
  replace HZ := Lib.hid (HZ.out.next hb)
  replace HW := Lib.hid (HW.out.trans (hb.mono HW.out.size))
  clear hb
  go_wp2_with (first | (refine wpList_dst 12 rfl ?_; refine wpList_run 12 rfl rfl _ (exec_build1 37 1 (.const (.int .i64 8)) rfl (.int .i64 8) _ rfl (ls_e8 _)) ?_; go_frame) | (refine wpList_store_all rfl 37 (.tmp 2) (.tmp 12) rfl (w.heap.size + 1) _ [.slice none 0 0, .int .i64 0] [.slice none 0 0, .int .i64 8] rfl rfl HZ.out rfl size_rivermarkref06_Listed (List.forall_mem_cons.2 ⟨rfl, (List.forall_mem_cons.2 ⟨rfl, fun _ h => nomatch h⟩)⟩) ?_; intro w9 HK9 ho9; have HO9 := Lib.hid ho9; clear ho9) | (refine wpList_dst 9 rfl ?_; refine wpList_run 9 rfl rfl _ (exec_fieldAddr 23 (.tmp 1) 0 rfl _ _ rfl (fa_api_Bin_0_0 _ _)) ?_; go_frame) | (refine wpList_dst 10 rfl ?_; refine wpList_run 10 rfl rfl _ (exec_load 3 (.tmp 9) rfl _ (.int .i64 0) rfl (run_load_cell flat_int (HP.out.cell 0))) ?_; go_frame) | (refine wpList_dst 13 rfl ?_; refine wpList_run 13 rfl rfl _ (exec_fieldAddr 23 (.tmp 1) 0 rfl _ _ rfl (fa_api_Bin_0_0 _ _)) ?_; go_frame) | (refine wpList_dst 14 rfl ?_; refine wpList_run 14 rfl rfl _ (exec_load 3 (.tmp 13) rfl _ (.int .i64 0) rfl (run_load_cell flat_int (HP.out.cell 0))) ?_; go_frame) | (refine wpList_dst 16 rfl ?_; refine wpList_run 16 rfl rfl _ (exec_fieldAddr 23 (.tmp 1) 1 rfl _ _ rfl (fa_api_Bin_1_0 _ _)) ?_; go_frame) | (refine wpList_dst 17 rfl ?_; refine wpList_run 17 rfl rfl _ (exec_load 3 (.tmp 16) rfl _ (.int .i64 f) rfl (run_load_cell flat_int (HP.out.cell 1))) ?_; go_frame) | (refine wpList_dst 18 rfl ?_; refine wpList_run 18 rfl rfl _ (exec_fieldAddr 23 (.tmp 1) 2 rfl _ _ rfl (fa_api_Bin_2_0 _ _)) ?_; go_frame) | (refine wpList_dst 19 rfl ?_; refine wpList_run 19 rfl rfl _ (exec_load 3 (.tmp 18) rfl _ (.int .i64 t) rfl (run_load_cell flat_int (HP.out.cell 2))) ?_; go_frame))
  exact bodyPost_ret (results_blk rfl _ _ (w.heap.size + 1) _ [.slice none 0 0, .int .i64 8] _ rfl HK9.out Tryd.underlying37 rfl size_rivermarkref06_Listed) rfl ⟨rfl, HW.out.trans (HO9.out.below (by omega))⟩
set_option maxRecDepth 100000 in
set_option maxHeartbeats 600000 in
theorem rchild_raw (n a b : Nat) (l f t : Int) (w : World) (hok : okB l f t = true) (h0 : (l == 0) = false) (hl : l = (n : Int) + 1) (hf : f = (a : Int)) (ht : t = (b : Int)) (hn : n ≤ 3) (hab : a ≤ b) (hbM : b ≤ M) : Calls Tryd.prog 10 #[.agg #[.int .i64 l, .int .i64 f, .int .i64 t]] w fun e w' => (∃ v, e = .returned (LsV v 0) ∧ Row w' w.heap.size v (wi n a b)) ∧ Below w.heap.size w w' := by
  have FB := Lib.hid (fun W => inside_any n a b W (by omega) hab hbM)
  rw [show (n : Int) = l - 1 from by omega, ← hf, ← ht] at FB
  have l0 : 0 ≤ l := by omega
  have l4 : l ≤ 4 := by omega
  clear hl hf ht
  obtain ⟨W1, hW1⟩ : ∃ W, W = (w.alloc (.cells #[.int .i64 l, .int .i64 f, .int .i64 t] 23)).alloc (.cells #[.slice none 0 0, .int .i64 0] 37) := ⟨_, rfl⟩
  have hb1 := ((Below.refl w.heap.size w).alloc (Nat.le_refl _) (.cells #[.int .i64 l, .int .i64 f, .int .i64 t] 23)).alloc (by simp) (.cells #[.slice none 0 0, .int .i64 0] 37)
  have hx1 := (Blk.new w 23 (b3 l f t)).alloc (.cells #[.slice none 0 0, .int .i64 0] 37)
  have hz1 := Blk.new (w.alloc (.cells #[.int .i64 l, .int .i64 f, .int .i64 t] 23)) 37 [.slice none 0 0, .int .i64 0]
  rw [World.size_alloc] at hz1
  have hx1' : Blk W1 w.heap.size 23 (b3 l f t) := by rw [hW1]; exact hx1
  have hz1' : Blk W1 (w.heap.size + 1) 37 [.slice none 0 0, .int .i64 0] := by rw [hW1]; exact hz1
  have HW : Hid (Below w.heap.size w W1) := Lib.hid (by rw [hW1]; exact hb1)
  have HP := Lib.hid hx1'
  have HZ := Lib.hid hz1'
  have FV := Lib.hid (fun W => rvalid_any l f t W)
  rw [hok] at FV
  clear hb1 hx1 hx1' hz1 hz1'
  go_enter Tryd.func10, Tryd.ntmps10
  go_wp2_with fail
  rw [← hW1]
  clear hW1
  go_wp2_with (first | (refine wpList_dst 4 rfl ?_; refine wpList_run 4 rfl rfl _ (exec_load 23 (.tmp 1) rfl _ (.agg #[.int .i64 l, .int .i64 f, .int .i64 t]) rfl (run_load_part _ 23 _ 0 3 _ [.int .i64 l, .int .i64 f, .int .i64 t] _ HP.out (by simp) Tryd.underlying23 rfl size_api_Bin)) ?_; go_frame))
  refine (FV.out _).mono ?_
  rintro e w1 ⟨rfl, hb⟩
  replace HP := Lib.hid (HP.out.next hb)
  replace HZ := Lib.hid (HZ.out.next hb)
  replace HW := Lib.hid (HW.out.trans (hb.mono HW.out.size))
  clear hb
  have hz0 : decide (l = 0) = false := by simpa using h0
  go_wp2_with (first | (refine wpList_dst 9 rfl ?_; refine wpList_run 9 rfl rfl _ (exec_fieldAddr 23 (.tmp 1) 0 rfl _ _ rfl (fa_api_Bin_0_0 _ _)) ?_; go_frame) | (refine wpList_dst 10 rfl ?_; refine wpList_run 10 rfl rfl _ (exec_load 3 (.tmp 9) rfl _ (.int .i64 l) rfl (run_load_cell flat_int (HP.out.cell 0))) ?_; go_frame) | (refine wpList_dst 13 rfl ?_; refine wpList_run 13 rfl rfl _ (exec_fieldAddr 23 (.tmp 1) 0 rfl _ _ rfl (fa_api_Bin_0_0 _ _)) ?_; go_frame) | (refine wpList_dst 14 rfl ?_; refine wpList_run 14 rfl rfl _ (exec_load 3 (.tmp 13) rfl _ (.int .i64 l) rfl (run_load_cell flat_int (HP.out.cell 0))) ?_; go_frame) | (refine wpList_dst 16 rfl ?_; refine wpList_run 16 rfl rfl _ (exec_fieldAddr 23 (.tmp 1) 1 rfl _ _ rfl (fa_api_Bin_1_0 _ _)) ?_; go_frame) | (refine wpList_dst 17 rfl ?_; refine wpList_run 17 rfl rfl _ (exec_load 3 (.tmp 16) rfl _ (.int .i64 f) rfl (run_load_cell flat_int (HP.out.cell 1))) ?_; go_frame) | (refine wpList_dst 18 rfl ?_; refine wpList_run 18 rfl rfl _ (exec_fieldAddr 23 (.tmp 1) 2 rfl _ _ rfl (fa_api_Bin_2_0 _ _)) ?_; go_frame) | (refine wpList_dst 19 rfl ?_; refine wpList_run 19 rfl rfl _ (exec_load 3 (.tmp 18) rfl _ (.int .i64 t) rfl (run_load_cell flat_int (HP.out.cell 2))) ?_; go_frame))
  have hs0 := HW.out.size
  refine (FB.out _).mono ?_
  rintro e w2 ⟨⟨v, rfl, hr⟩, hb⟩
  replace HP := Lib.hid (HP.out.next hb)
  replace HZ := Lib.hid (HZ.out.next hb)
  replace HW := Lib.hid (HW.out.trans (hb.mono HW.out.size))
  obtain ⟨A, c, rfl, hc⟩ := hr.form
  have HR := Lib.hid (hr.lower hs0)
  clear hr hs0
  clear hb
  go_wp2_with (first | (refine wpList_dst 21 rfl ?_; refine wpList_run 21 rfl rfl _ (exec_build1 37 0 (.tmp 20) rfl _ _ rfl (ls_v _ _ _ _)) ?_; go_frame) | (refine wpList_store_all rfl 37 (.tmp 2) (.tmp 21) rfl (w.heap.size + 1) _ [.slice none 0 0, .int .i64 0] [.slice A (wi n a b).length c, .int .i64 0] rfl rfl HZ.out rfl size_rivermarkref06_Listed (List.forall_mem_cons.2 ⟨rfl, (List.forall_mem_cons.2 ⟨rfl, fun _ h => nomatch h⟩)⟩) ?_; intro w9 HK9 ho9; have HO9 := Lib.hid ho9; clear ho9; replace HR := Lib.hid (HR.out.only HO9.out HZ.out ls_ne)))
  exact bodyPost_ret (results_blk rfl _ _ (w.heap.size + 1) _ [.slice A (wi n a b).length c, .int .i64 0] _ rfl HK9.out Tryd.underlying37 rfl size_rivermarkref06_Listed) rfl ⟨⟨_, rfl, HR.out⟩, HW.out.trans (HO9.out.below (by omega))⟩
set_option maxRecDepth 100000 in
set_option maxHeartbeats 600000 in
theorem rblocks_no (n a b : Int) (w : World) (h : (levB n && intB a b) = false) : Calls Tryd.prog 17 #[.int .i64 n, .int .i64 a, .int .i64 b] w fun e w' => e = .returned (LsV (.slice none 0 0) 3) ∧ Below w.heap.size w w' := by
  have FI := Lib.hid (fun W => rint_any a b W)
  by_cases h1 : n < 0
  · clear h
    obtain ⟨W1, hW1⟩ : ∃ W, W = w.alloc (.cells #[.slice none 0 0, .int .i64 0] 37) := ⟨_, rfl⟩
    have hb1 := (Below.refl w.heap.size w).alloc (Nat.le_refl _) (.cells #[.slice none 0 0, .int .i64 0] 37)
    have hz1 := Blk.new w 37 [.slice none 0 0, .int .i64 0]
    have HZ : Hid (Blk W1 w.heap.size 37 [.slice none 0 0, .int .i64 0]) := Lib.hid (by rw [hW1]; exact hz1)
    have HW : Hid (Below w.heap.size w W1) := Lib.hid (by rw [hW1]; exact hb1)
    clear hb1 hz1
    go_enter Tryd.func17, Tryd.ntmps17
    go_wp2_with fail
    rw [← hW1]
    clear hW1
    refine (FI.out _).mono ?_
    rintro e w1 ⟨rfl, h0⟩
    subst h0
    go_wp2_with (first | (refine wpList_dst 22 rfl ?_; refine wpList_run 22 rfl rfl _ (exec_build1 37 1 (.const (.int .i64 3)) rfl (.int .i64 3) _ rfl (ls_e3 _)) ?_; go_frame) | (refine wpList_store_all rfl 37 (.tmp 6) (.tmp 22) rfl (w.heap.size) _ [.slice none 0 0, .int .i64 0] [.slice none 0 0, .int .i64 3] rfl rfl HZ.out rfl size_rivermarkref06_Listed (List.forall_mem_cons.2 ⟨rfl, (List.forall_mem_cons.2 ⟨rfl, fun _ h => nomatch h⟩)⟩) ?_; intro w9 HK9 ho9; have HO9 := Lib.hid ho9; clear ho9))
    exact bodyPost_ret (results_blk rfl _ _ (w.heap.size) _ [.slice none 0 0, .int .i64 3] _ rfl HK9.out Tryd.underlying37 rfl size_rivermarkref06_Listed) rfl ⟨rfl, HW.out.trans (HO9.out.below (by omega))⟩
  · by_cases h2 : 4 < n
    · clear h
      obtain ⟨W1, hW1⟩ : ∃ W, W = w.alloc (.cells #[.slice none 0 0, .int .i64 0] 37) := ⟨_, rfl⟩
      have hb1 := (Below.refl w.heap.size w).alloc (Nat.le_refl _) (.cells #[.slice none 0 0, .int .i64 0] 37)
      have hz1 := Blk.new w 37 [.slice none 0 0, .int .i64 0]
      have HZ : Hid (Blk W1 w.heap.size 37 [.slice none 0 0, .int .i64 0]) := Lib.hid (by rw [hW1]; exact hz1)
      have HW : Hid (Below w.heap.size w W1) := Lib.hid (by rw [hW1]; exact hb1)
      clear hb1 hz1
      go_enter Tryd.func17, Tryd.ntmps17
      go_wp2_with fail
      rw [← hW1]
      clear hW1
      refine (FI.out _).mono ?_
      rintro e w1 ⟨rfl, h0⟩
      subst h0
      go_wp2_with (first | (refine wpList_dst 22 rfl ?_; refine wpList_run 22 rfl rfl _ (exec_build1 37 1 (.const (.int .i64 3)) rfl (.int .i64 3) _ rfl (ls_e3 _)) ?_; go_frame) | (refine wpList_store_all rfl 37 (.tmp 6) (.tmp 22) rfl (w.heap.size) _ [.slice none 0 0, .int .i64 0] [.slice none 0 0, .int .i64 3] rfl rfl HZ.out rfl size_rivermarkref06_Listed (List.forall_mem_cons.2 ⟨rfl, (List.forall_mem_cons.2 ⟨rfl, fun _ h => nomatch h⟩)⟩) ?_; intro w9 HK9 ho9; have HO9 := Lib.hid ho9; clear ho9))
      exact bodyPost_ret (results_blk rfl _ _ (w.heap.size) _ [.slice none 0 0, .int .i64 3] _ rfl HK9.out Tryd.underlying37 rfl size_rivermarkref06_Listed) rfl ⟨rfl, HW.out.trans (HO9.out.below (by omega))⟩
    · have h3 : intB a b = false := by
        have : levB n = true := decide_eq_true (by omega)
        rwa [this, Bool.true_and] at h
      rw [h3] at FI
      clear h
      obtain ⟨W1, hW1⟩ : ∃ W, W = w.alloc (.cells #[.slice none 0 0, .int .i64 0] 37) := ⟨_, rfl⟩
      have hb1 := (Below.refl w.heap.size w).alloc (Nat.le_refl _) (.cells #[.slice none 0 0, .int .i64 0] 37)
      have hz1 := Blk.new w 37 [.slice none 0 0, .int .i64 0]
      have HZ : Hid (Blk W1 w.heap.size 37 [.slice none 0 0, .int .i64 0]) := Lib.hid (by rw [hW1]; exact hz1)
      have HW : Hid (Below w.heap.size w W1) := Lib.hid (by rw [hW1]; exact hb1)
      clear hb1 hz1
      go_enter Tryd.func17, Tryd.ntmps17
      go_wp2_with fail
      rw [← hW1]
      clear hW1
      refine (FI.out _).mono ?_
      rintro e w1 ⟨rfl, h0⟩
      subst h0
      go_wp2_with (first | (refine wpList_dst 22 rfl ?_; refine wpList_run 22 rfl rfl _ (exec_build1 37 1 (.const (.int .i64 3)) rfl (.int .i64 3) _ rfl (ls_e3 _)) ?_; go_frame) | (refine wpList_store_all rfl 37 (.tmp 6) (.tmp 22) rfl (w.heap.size) _ [.slice none 0 0, .int .i64 0] [.slice none 0 0, .int .i64 3] rfl rfl HZ.out rfl size_rivermarkref06_Listed (List.forall_mem_cons.2 ⟨rfl, (List.forall_mem_cons.2 ⟨rfl, fun _ h => nomatch h⟩)⟩) ?_; intro w9 HK9 ho9; have HO9 := Lib.hid ho9; clear ho9))
      exact bodyPost_ret (results_blk rfl _ _ (w.heap.size) _ [.slice none 0 0, .int .i64 3] _ rfl HK9.out Tryd.underlying37 rfl size_rivermarkref06_Listed) rfl ⟨rfl, HW.out.trans (HO9.out.below (by omega))⟩
set_option maxRecDepth 100000 in
set_option maxHeartbeats 600000 in
theorem rblocks_big (n a b : Nat) (w : World) (hn : n ≤ 4) (hab : a ≤ b) (hbM : b ≤ M) (hlen : 4000 < (wi n a b).length) : Calls Tryd.prog 17 #[.int .i64 n, .int .i64 a, .int .i64 b] w fun e w' => e = .returned (LsV (.slice none 0 0) 2) ∧ Below w.heap.size w w' := by
  have hM : M = 1402560 := rfl
  have FI := Lib.hid (fun W => rint_any a b W)
  rw [show intB (a : Int) (b : Int) = true from decide_eq_true (by omega)] at FI
  have FJ := Lib.hid (fun W => inside_any n a b W hn hab hbM)
  have HLEN := Lib.hid (wi_len n a b hbM)
  have hlm : (wi n a b).length ≤ 1402560 := by have := HLEN.out; omega
  obtain ⟨W1, hW1⟩ : ∃ W, W = w.alloc (.cells #[.slice none 0 0, .int .i64 0] 37) := ⟨_, rfl⟩
  have hb1 := (Below.refl w.heap.size w).alloc (Nat.le_refl _) (.cells #[.slice none 0 0, .int .i64 0] 37)
  have hz1 := Blk.new w 37 [.slice none 0 0, .int .i64 0]
  have HZ : Hid (Blk W1 w.heap.size 37 [.slice none 0 0, .int .i64 0]) := Lib.hid (by rw [hW1]; exact hz1)
  have HW : Hid (Below w.heap.size w W1) := Lib.hid (by rw [hW1]; exact hb1)
  clear hb1 hz1
  go_enter Tryd.func17, Tryd.ntmps17
  go_wp2_with fail
  rw [← hW1]
  clear hW1
  refine (FI.out _).mono ?_
  rintro e w1 ⟨rfl, h0⟩
  subst h0
  go_wp2_with fail
  have hs0 := HW.out.size
  refine (FJ.out _).mono ?_
  rintro e w2 ⟨⟨v, rfl, hr⟩, hb⟩
  replace HZ := Lib.hid (HZ.out.next hb)
  replace HW := Lib.hid (HW.out.trans (hb.mono HW.out.size))
  obtain ⟨A, c, rfl, hc⟩ := hr.form
  have HR := Lib.hid (hr.lower hs0)
  clear hr hs0
  clear hb
  have cL : decide (4000 < (wi n a b).length) = true := decide_eq_true hlen
  have cL2 : decide ((4000 : Int) < ((wi n a b).length : Int)) = true := decide_eq_true (by omega)
  go_wp2_with (first | (refine wpList_dst 30 rfl ?_; refine wpList_run 30 rfl rfl _ (exec_build1 37 1 (.const (.int .i64 2)) rfl (.int .i64 2) _ rfl (ls_e2 _)) ?_; go_frame) | (refine wpList_store_all rfl 37 (.tmp 6) (.tmp 30) rfl (w.heap.size) _ [.slice none 0 0, .int .i64 0] [.slice none 0 0, .int .i64 2] rfl rfl HZ.out rfl size_rivermarkref06_Listed (List.forall_mem_cons.2 ⟨rfl, (List.forall_mem_cons.2 ⟨rfl, fun _ h => nomatch h⟩)⟩) ?_; intro w9 HK9 ho9; have HO9 := Lib.hid ho9; clear ho9))
  exact bodyPost_ret (results_blk rfl _ _ (w.heap.size) _ [.slice none 0 0, .int .i64 2] _ rfl HK9.out Tryd.underlying37 rfl size_rivermarkref06_Listed) rfl ⟨rfl, HW.out.trans (HO9.out.below (by omega))⟩
set_option maxRecDepth 100000 in
set_option maxHeartbeats 600000 in
theorem rblocks_yes (n a b : Nat) (w : World) (hn : n ≤ 4) (hab : a ≤ b) (hbM : b ≤ M) (hlen : (wi n a b).length ≤ 4000) : Calls Tryd.prog 17 #[.int .i64 n, .int .i64 a, .int .i64 b] w fun e w' => (∃ v, e = .returned (LsV v 0) ∧ Row w' w.heap.size v (wi n a b)) ∧ Below w.heap.size w w' := by
  have hM : M = 1402560 := rfl
  have FI := Lib.hid (fun W => rint_any a b W)
  rw [show intB (a : Int) (b : Int) = true from decide_eq_true (by omega)] at FI
  have FJ := Lib.hid (fun W => inside_any n a b W hn hab hbM)
  have HLEN := Lib.hid (wi_len n a b hbM)
  have hlm : (wi n a b).length ≤ 1402560 := by have := HLEN.out; omega
  obtain ⟨W1, hW1⟩ : ∃ W, W = w.alloc (.cells #[.slice none 0 0, .int .i64 0] 37) := ⟨_, rfl⟩
  have hb1 := (Below.refl w.heap.size w).alloc (Nat.le_refl _) (.cells #[.slice none 0 0, .int .i64 0] 37)
  have hz1 := Blk.new w 37 [.slice none 0 0, .int .i64 0]
  have HZ : Hid (Blk W1 w.heap.size 37 [.slice none 0 0, .int .i64 0]) := Lib.hid (by rw [hW1]; exact hz1)
  have HW : Hid (Below w.heap.size w W1) := Lib.hid (by rw [hW1]; exact hb1)
  clear hb1 hz1
  go_enter Tryd.func17, Tryd.ntmps17
  go_wp2_with fail
  rw [← hW1]
  clear hW1
  refine (FI.out _).mono ?_
  rintro e w1 ⟨rfl, h0⟩
  subst h0
  go_wp2_with fail
  have hs0 := HW.out.size
  refine (FJ.out _).mono ?_
  rintro e w2 ⟨⟨v, rfl, hr⟩, hb⟩
  replace HZ := Lib.hid (HZ.out.next hb)
  replace HW := Lib.hid (HW.out.trans (hb.mono HW.out.size))
  obtain ⟨A, c, rfl, hc⟩ := hr.form
  have HR := Lib.hid (hr.lower hs0)
  clear hr hs0
  clear hb
  have cL : decide (4000 < (wi n a b).length) = false := decide_eq_false (by omega)
  have cL2 : decide ((4000 : Int) < ((wi n a b).length : Int)) = false := decide_eq_false (by omega)
  go_wp2_with (first | (refine wpList_dst 32 rfl ?_; refine wpList_run 32 rfl rfl _ (exec_build1 37 0 (.tmp 31) rfl _ _ rfl (ls_v _ _ _ _)) ?_; go_frame) | (refine wpList_store_all rfl 37 (.tmp 6) (.tmp 32) rfl (w.heap.size) _ [.slice none 0 0, .int .i64 0] [.slice A (wi n a b).length c, .int .i64 0] rfl rfl HZ.out rfl size_rivermarkref06_Listed (List.forall_mem_cons.2 ⟨rfl, (List.forall_mem_cons.2 ⟨rfl, fun _ h => nomatch h⟩)⟩) ?_; intro w9 HK9 ho9; have HO9 := Lib.hid ho9; clear ho9; replace HR := Lib.hid (HR.out.only HO9.out HZ.out ls_ne)))
  exact bodyPost_ret (results_blk rfl _ _ (w.heap.size) _ [.slice A (wi n a b).length c, .int .i64 0] _ rfl HK9.out Tryd.underlying37 rfl size_rivermarkref06_Listed) rfl ⟨⟨_, rfl, HR.out⟩, HW.out.trans (HO9.out.below (by omega))⟩
end Go.Proofs.YtmifpaafpmibmaaDoor
