/- The reference: clean and parts. -/
import Derived.Test.YtpmlihhofmblpaaGreatDoorSQ
namespace Go.Proofs.YtpmlihhofmblpaaGreatDoor
open Go.RowKit Hm Wm Wn

theorem fa_api_Rat_1_0 (g : Nat) (W : World) : (Instr.fieldAt 26 (.pointer (some ⟨g, 0, none⟩)) 1).run Tryz.prog W = .ok (.pointer (some ⟨g, 1, none⟩)) W := by kernel_rfl
theorem fa_api_Rat_2_0 (g : Nat) (W : World) : (Instr.fieldAt 26 (.pointer (some ⟨g, 0, none⟩)) 2).run Tryz.prog W = .ok (.pointer (some ⟨g, 2, none⟩)) W := by kernel_rfl
set_option maxRecDepth 100000 in
set_option maxHeartbeats 800000 in
theorem clean_yes (b : Bool) (n d : ByteArray) (w : World) (h5 : (∀ W, Calls Tryz.prog 40 #[.agg #[.bool b, .string n, .string d]] W fun e w' => e = .returned (.bool true) ∧ Below W.heap.size W w')) : Calls Tryz.prog 31 #[.agg #[.bool b, .string n, .string d]] w fun e w' => e = .returned (.agg #[.bool b, .string n, .string d]) ∧ Below w.heap.size w w' := by
  have HK := two_vars w 26 26 [.bool b, .string n, .string d] [.bool false, .string ⟨#[]⟩, .string ⟨#[]⟩]
  have HX := Lib.hid HK.1
  have HZ := Lib.hid HK.2.1
  have HW := Lib.hid HK.2.2
  have F5 := Lib.hid h5
  clear h5 HK
  go_enter Tryz.func31, Tryz.ntmps31
  go_wp2_with fail
  refine (F5.out _).mono ?_
  rintro e w1 ⟨rfl, hb⟩
  replace HX := Lib.hid (HX.out.next hb)
  replace HZ := Lib.hid (HZ.out.next hb)
  replace HW := Lib.hid (HW.out.trans (hb.mono HW.out.size))
  clear hb
  go_wp2_with (first | (refine wpList_store_all rfl 26 (.tmp 2) (.tmp 7) rfl (w.heap.size + 1) _ [.bool false, .string ⟨#[]⟩, .string ⟨#[]⟩] [.bool b, .string n, .string d] rfl rfl HZ.out rfl qr_size (List.forall_mem_cons.2 ⟨rfl, (List.forall_mem_cons.2 ⟨rfl, (List.forall_mem_cons.2 ⟨rfl, fun _ h => nomatch h⟩)⟩)⟩) ?_; intro w9 HK9 ho9; have HO9 := Lib.hid ho9; clear ho9) | (refine wpList_dst 7 rfl ?_; refine wpList_run 7 rfl rfl _ (exec_load 26 (.tmp 1) rfl _ (.agg #[.bool b, .string n, .string d]) rfl (run_load_part _ 26 _ 0 3 _ [.bool b, .string n, .string d] _ HX.out (by simp) Tryz.underlying26 rfl size_api_Rat)) ?_; go_frame))
  exact bodyPost_ret (results_blk rfl _ _ (w.heap.size + 1) _ [.bool b, .string n, .string d] _ rfl HK9.out Tryz.underlying26 rfl qr_size) rfl ⟨rfl, HW.out.trans (HO9.out.below (by omega))⟩
set_option maxRecDepth 100000 in
set_option maxHeartbeats 800000 in
theorem clean_no (b : Bool) (n d : ByteArray) (w : World) (h5 : (∀ W, Calls Tryz.prog 40 #[.agg #[.bool b, .string n, .string d]] W fun e w' => e = .returned (.bool false) ∧ Below W.heap.size W w')) : Calls Tryz.prog 31 #[.agg #[.bool b, .string n, .string d]] w fun e w' => e = .returned (.agg #[.bool false, .string ⟨#[]⟩, .string ⟨#[]⟩]) ∧ Below w.heap.size w w' := by
  have HK := two_vars w 26 26 [.bool b, .string n, .string d] [.bool false, .string ⟨#[]⟩, .string ⟨#[]⟩]
  have HX := Lib.hid HK.1
  have HZ := Lib.hid HK.2.1
  have HW := Lib.hid HK.2.2
  have F5 := Lib.hid h5
  clear h5 HK
  go_enter Tryz.func31, Tryz.ntmps31
  go_wp2_with fail
  refine (F5.out _).mono ?_
  rintro e w1 ⟨rfl, hb⟩
  replace HX := Lib.hid (HX.out.next hb)
  replace HZ := Lib.hid (HZ.out.next hb)
  replace HW := Lib.hid (HW.out.trans (hb.mono HW.out.size))
  clear hb
  go_wp2_with (first | (refine wpList_dst 8 rfl ?_; refine wpList_run 8 rfl rfl _ (exec_build0 26 rfl _ (qr_nil _)) ?_; go_frame) | (refine wpList_store_all rfl 26 (.tmp 2) (.tmp 8) rfl (w.heap.size + 1) _ [.bool false, .string ⟨#[]⟩, .string ⟨#[]⟩] [.bool false, .string ⟨#[]⟩, .string ⟨#[]⟩] rfl rfl HZ.out rfl qr_size (List.forall_mem_cons.2 ⟨rfl, (List.forall_mem_cons.2 ⟨rfl, (List.forall_mem_cons.2 ⟨rfl, fun _ h => nomatch h⟩)⟩)⟩) ?_; intro w9 HK9 ho9; have HO9 := Lib.hid ho9; clear ho9) | (refine wpList_dst 7 rfl ?_; refine wpList_run 7 rfl rfl _ (exec_load 26 (.tmp 1) rfl _ (.agg #[.bool b, .string n, .string d]) rfl (run_load_part _ 26 _ 0 3 _ [.bool b, .string n, .string d] _ HX.out (by simp) Tryz.underlying26 rfl size_api_Rat)) ?_; go_frame))
  exact bodyPost_ret (results_blk rfl _ _ (w.heap.size + 1) _ [.bool false, .string ⟨#[]⟩, .string ⟨#[]⟩] _ rfl HK9.out Tryz.underlying26 rfl qr_size) rfl ⟨rfl, HW.out.trans (HO9.out.below (by omega))⟩
theorem okB_no {x : Rv} (h : okB x = false) : valR x = 0 := val_no fun e => by
  have hn : x.n ≠ ⟨#[]⟩ := fun h0 => e.1 (by rw [h0]; exact qnil)
  rw [(okB_iff x hn).2 e] at h
  cases h
theorem rcl_any (x : Rv) (w : World) (hx : szR 10000 x) : Calls Tryz.prog 31 #[rv x] w fun e w' => e = .returned (rv (rt (valR x))) ∧ Below w.heap.size w w' := by
  have h5 := fun W => rvalidq x W hx
  cases h : okB x
  · rw [h] at h5
    rw [okB_no h, rt_zero]
    exact clean_no x.neg x.n x.d w h5
  · rw [h] at h5
    rw [okB_rt h]
    exact clean_yes x.neg x.n x.d w h5
set_option maxRecDepth 100000 in
set_option maxHeartbeats 800000 in
theorem parts_nil (b : Bool) (n d : ByteArray) (w : World) (h : decide (n = ⟨#[]⟩) = true) : Calls Tryz.prog 32 #[.agg #[.bool b, .string n, .string d]] w fun e w' => e = .returned (.tuple #[.string ⟨#[]⟩, .string ⟨#[1]⟩]) ∧ Below w.heap.size w w' := by
  obtain ⟨W1, hW1⟩ : ∃ W, W = w.alloc (.cells #[.bool b, .string n, .string d] 26) := ⟨_, rfl⟩
  have HX : Hid (Blk W1 w.heap.size 26 [.bool b, .string n, .string d]) := Lib.hid (by rw [hW1]; exact Blk.new w 26 [.bool b, .string n, .string d])
  have HW : Hid (Below w.heap.size w W1) := Lib.hid (by rw [hW1]; exact (Below.refl w.heap.size w).alloc (Nat.le_refl _) _)
  have H6 := Lib.hid (fun W => run_eqS n ⟨#[]⟩ true h W)
  clear h
  go_enter Tryz.func32, Tryz.ntmps32
  go_wp2_with (first | (refine wpList_dst 6 rfl ?_; refine wpList_run 6 rfl rfl _ (exec_bin .eql 9 _ (.tmp 5) (.const (.string ⟨#[]⟩)) rfl _ _ _ rfl rfl rfl (H6.out _)) ?_; go_frame))
  rw [← hW1]
  clear hW1
  go_ret2
  exact ⟨rfl, HW.out⟩
set_option maxRecDepth 100000 in
set_option maxHeartbeats 800000 in
theorem parts_full (b : Bool) (n d : ByteArray) (w : World) (h : decide (n = ⟨#[]⟩) = false) : Calls Tryz.prog 32 #[.agg #[.bool b, .string n, .string d]] w fun e w' => e = .returned (.tuple #[.string n, .string d]) ∧ Below w.heap.size w w' := by
  obtain ⟨W1, hW1⟩ : ∃ W, W = w.alloc (.cells #[.bool b, .string n, .string d] 26) := ⟨_, rfl⟩
  have HX : Hid (Blk W1 w.heap.size 26 [.bool b, .string n, .string d]) := Lib.hid (by rw [hW1]; exact Blk.new w 26 [.bool b, .string n, .string d])
  have HW : Hid (Below w.heap.size w W1) := Lib.hid (by rw [hW1]; exact (Below.refl w.heap.size w).alloc (Nat.le_refl _) _)
  have H6 := Lib.hid (fun W => run_eqS n ⟨#[]⟩ false h W)
  clear h
  go_enter Tryz.func32, Tryz.ntmps32
  go_wp2_with (first | (refine wpList_dst 6 rfl ?_; refine wpList_run 6 rfl rfl _ (exec_bin .eql 9 _ (.tmp 5) (.const (.string ⟨#[]⟩)) rfl _ _ _ rfl rfl rfl (H6.out _)) ?_; go_frame))
  rw [← hW1]
  clear hW1
  refine late_begin (S := fun _ W => Blk W w.heap.size 26 [.bool b, .string n, .string d]) (by kernel_rfl) ?_
  have hX0 := HX.out.drew
  have hW0 := HW.out.drew
  generalize W1.drew = u0 at hX0 hW0 ⊢
  clear HX HW
  refine late_take [] (i := 0) (some 7) rfl rfl (by first | rfl | kernel_rfl) (by kernel_rfl) (by kernel_rfl) (by kernel_rfl) (by kernel_rfl) (by kernel_rfl) (fun Ls W h => h) (.pointer (some ⟨w.heap.size, 1, none⟩)) (fun _ _ _ h => h) (fun Ls W hl0 hW => exec_fieldAddr 26 (.tmp 1) 1 rfl _ _ rfl (fa_api_Rat_1_0 _ _)) hX0 hX0 ?_
  go_frame
  refine late_take [] (i := 1) (some 8) rfl rfl (by first | rfl | kernel_rfl) (by kernel_rfl) (by kernel_rfl) (by kernel_rfl) (by kernel_rfl) (by kernel_rfl) (fun Ls W h => h) (.string n) (fun _ _ _ h => h) (fun Ls W hl0 hW => exec_load 9 (.tmp 7) rfl _ _ rfl (run_load_cell flat_string (hW.cell 1))) hX0 hX0 ?_
  go_frame
  refine late_take [] (i := 2) (some 9) rfl rfl (by first | rfl | kernel_rfl) (by kernel_rfl) (by kernel_rfl) (by kernel_rfl) (by kernel_rfl) (by kernel_rfl) (fun Ls W h => h) (.pointer (some ⟨w.heap.size, 2, none⟩)) (fun _ _ _ h => h) (fun Ls W hl0 hW => exec_fieldAddr 26 (.tmp 1) 2 rfl _ _ rfl (fa_api_Rat_2_0 _ _)) hX0 hX0 ?_
  go_frame
  refine late_take [] (i := 3) (some 10) rfl rfl (by first | rfl | kernel_rfl) (by kernel_rfl) (by kernel_rfl) (by kernel_rfl) (by kernel_rfl) (by kernel_rfl) (fun Ls W h => h) (.string d) (fun _ _ _ h => h) (fun Ls W hl0 hW => exec_load 9 (.tmp 9) rfl _ _ rfl (run_load_cell flat_string (hW.cell 2))) hX0 hX0 ?_
  go_frame
  refine late_take [] (i := 4) (some 2) rfl rfl (by first | rfl | kernel_rfl) (by kernel_rfl) (by kernel_rfl) (by kernel_rfl) (by kernel_rfl) (by kernel_rfl) (fun Ls W h => h) (.string n) (fun _ _ _ h => h) (fun Ls W hl0 hW => exec_assign (.tmp 8) rfl _ rfl) hX0 hX0 ?_
  go_frame
  refine late_take [] (i := 5) (some 3) rfl rfl (by first | rfl | kernel_rfl) (by kernel_rfl) (by kernel_rfl) (by kernel_rfl) (by kernel_rfl) (by kernel_rfl) (fun Ls W h => h) (.string d) (fun _ _ _ h => h) (fun Ls W hl0 hW => exec_assign (.tmp 10) rfl _ rfl) hX0 hX0 ?_
  refine late_done (by kernel_rfl) ?_ _
  go_frame
  have HX := Lib.hid hX0
  have HW := Lib.hid hW0
  clear hX0 hW0
  go_wp2_with fail
  go_ret2
  exact ⟨rfl, HW.out⟩
theorem parts_any (q : Rat) (w : World) : Calls Tryz.prog 32 #[rv (rt q)] w fun e w' => e = .returned (.tuple #[.string (cS q.num.natAbs), .string (cS q.den)]) ∧ Below w.heap.size w w' := by
  by_cases h : q = 0
  · subst h
    rw [rt_zero, show cS (0 : Rat).num.natAbs = ⟨#[]⟩ from c0, show cS (0 : Rat).den = ⟨#[1]⟩ from c1]
    exact parts_nil false ⟨#[]⟩ ⟨#[]⟩ w rfl
  · unfold rt
    rw [if_neg h]
    exact parts_full _ _ _ w (decide_eq_false (num_nil h))
end Go.Proofs.YtpmlihhofmblpaaGreatDoor
