/- The reference: Add, the walks. -/
import Derived.Test.YtpmlihhofmblpaaGreatDoorS3
namespace Go.Proofs.YtpmlihhofmblpaaGreatDoor
open Go.RowKit Hm Wm Wn

set_option maxRecDepth 100000 in
set_option maxHeartbeats 2000000 in
theorem add5_same (x y a b R : Rv) (p q r s l m D T : ByteArray) (w : World) (h41 : ∀ W, (binOp .eql 4 (.bool a.neg) (.bool b.neg)).run Tryz.prog W = .ok (.bool true) W) (h15 : (∀ W, Calls Tryz.prog 31 #[.agg #[.bool x.neg, .string x.n, .string x.d]] W fun e w' => e = .returned (.agg #[.bool a.neg, .string a.n, .string a.d]) ∧ Below W.heap.size W w')) (h17 : (∀ W, Calls Tryz.prog 31 #[.agg #[.bool y.neg, .string y.n, .string y.d]] W fun e w' => e = .returned (.agg #[.bool b.neg, .string b.n, .string b.d]) ∧ Below W.heap.size W w')) (h20 : (∀ W, Calls Tryz.prog 32 #[.agg #[.bool a.neg, .string a.n, .string a.d]] W fun e w' => e = .returned (.tuple #[.string p, .string q]) ∧ Below W.heap.size W w')) (h25 : (∀ W, Calls Tryz.prog 32 #[.agg #[.bool b.neg, .string b.n, .string b.d]] W fun e w' => e = .returned (.tuple #[.string r, .string s]) ∧ Below W.heap.size W w')) (h30 : (∀ W, Calls Tryz.prog 70 #[.string p, .string s] W fun e w' => e = .returned (.string l) ∧ Below W.heap.size W w')) (h33 : (∀ W, Calls Tryz.prog 70 #[.string r, .string q] W fun e w' => e = .returned (.string m) ∧ Below W.heap.size W w')) (h36 : (∀ W, Calls Tryz.prog 70 #[.string q, .string s] W fun e w' => e = .returned (.string D) ∧ Below W.heap.size W w')) (h46 : (∀ W, Calls Tryz.prog 69 #[.string l, .string m] W fun e w' => e = .returned (.string T) ∧ Below W.heap.size W w')) (h48 : (∀ W, Calls Tryz.prog 74 #[.bool a.neg, .string T, .string D] W fun e w' => e = .returned (rv R) ∧ Below W.heap.size W w')) : Calls Tryz.prog 42 #[.agg #[.bool x.neg, .string x.n, .string x.d], .agg #[.bool y.neg, .string y.n, .string y.d]] w fun e w' => e = .returned (.agg #[.bool R.neg, .string R.n, .string R.d]) ∧ Below w.heap.size w w' := by
  obtain ⟨W0, hW0, kx, ky, kz, kw⟩ := three_vars w 26 26 26 [.bool x.neg, .string x.n, .string x.d] [.bool y.neg, .string y.n, .string y.d] [.bool false, .string ⟨#[]⟩, .string ⟨#[]⟩]
  have HX := Lib.hid kx
  have HY := Lib.hid ky
  have HZ := Lib.hid kz
  have HW := Lib.hid kw
  have H41 := Lib.hid h41
  have F15 := Lib.hid h15
  have F17 := Lib.hid h17
  have F20 := Lib.hid h20
  have F25 := Lib.hid h25
  have F30 := Lib.hid h30
  have F33 := Lib.hid h33
  have F36 := Lib.hid h36
  have F46 := Lib.hid h46
  have F48 := Lib.hid h48
  clear kx ky kz kw h41 h15 h17 h20 h25 h30 h33 h36 h46 h48
  go_enter Tryz.func42, Tryz.ntmps42
  go_wp2_with fail
  rw [← hW0]
  clear hW0
  refine (F15.out _).mono ?_
  rintro e w1 ⟨rfl, hb⟩
  replace HX := Lib.hid (HX.out.next hb)
  replace HY := Lib.hid (HY.out.next hb)
  replace HZ := Lib.hid (HZ.out.next hb)
  replace HW := Lib.hid (HW.out.trans (hb.mono HW.out.size))
  clear hb
  clear HX
  have hgA : w.heap.size + 1 + 1 < w1.heap.size := HZ.out.lt
  have HGA := Lib.hid hgA
  clear hgA
  go_wp2_with (first | (refine wpList_var rfl rfl 26 5 rfl rfl rfl (.tmp 15) rfl [.bool false, .string ByteArray.empty, .string ByteArray.empty] [.bool a.neg, .string a.n, .string a.d] zero_api_Rat rfl rfl rfl size_api_Rat (List.forall_mem_cons.2 ⟨rfl, (List.forall_mem_cons.2 ⟨rfl, (List.forall_mem_cons.2 ⟨rfl, fun _ h => nomatch h⟩)⟩)⟩) ?_; intro w2 HA HBw; replace HY := Lib.hid (HY.out.next HBw.out); replace HZ := Lib.hid (HZ.out.next HBw.out); replace HW := Lib.hid (HW.out.trans (HBw.out.mono HW.out.size)); clear HBw) | (refine wpList_dst 16 rfl ?_; refine wpList_run 16 rfl rfl _ (exec_load 26 (.tmp 3) rfl _ (.agg #[.bool y.neg, .string y.n, .string y.d]) rfl (run_load_part _ 26 _ 0 3 _ [.bool y.neg, .string y.n, .string y.d] _ HY.out (by simp) Tryz.underlying26 rfl size_api_Rat)) ?_; go_frame))
  obtain ⟨gA, hgA⟩ : ∃ q, q = w1.heap.size := ⟨_, rfl⟩
  rw [← hgA] at HA HGA ⊢
  clear hgA
  refine (F17.out _).mono ?_
  rintro e w3 ⟨rfl, hb⟩
  replace HY := Lib.hid (HY.out.next hb)
  replace HZ := Lib.hid (HZ.out.next hb)
  replace HW := Lib.hid (HW.out.trans (hb.mono HW.out.size))
  replace HA := Lib.hid (HA.out.next hb)
  clear hb
  clear HY
  have hgB : w.heap.size + 1 + 1 < w3.heap.size := HZ.out.lt
  have HGB := Lib.hid hgB
  clear hgB
  go_wp2_with (first | (refine wpList_var rfl rfl 26 6 rfl rfl rfl (.tmp 17) rfl [.bool false, .string ByteArray.empty, .string ByteArray.empty] [.bool b.neg, .string b.n, .string b.d] zero_api_Rat rfl rfl rfl size_api_Rat (List.forall_mem_cons.2 ⟨rfl, (List.forall_mem_cons.2 ⟨rfl, (List.forall_mem_cons.2 ⟨rfl, fun _ h => nomatch h⟩)⟩)⟩) ?_; intro w4 HB HBw; replace HZ := Lib.hid (HZ.out.next HBw.out); replace HW := Lib.hid (HW.out.trans (HBw.out.mono HW.out.size)); replace HA := Lib.hid (HA.out.next HBw.out); clear HBw) | (refine wpList_dst 19 rfl ?_; refine wpList_run 19 rfl rfl _ (exec_load 26 (.tmp 5) rfl _ (.agg #[.bool a.neg, .string a.n, .string a.d]) rfl (run_load_part _ 26 _ 0 3 _ [.bool a.neg, .string a.n, .string a.d] _ HA.out (by simp) Tryz.underlying26 rfl size_api_Rat)) ?_; go_frame))
  obtain ⟨gB, hgB⟩ : ∃ q, q = w3.heap.size := ⟨_, rfl⟩
  rw [← hgB] at HB HGB ⊢
  clear hgB
  refine (F20.out _).mono ?_
  rintro e w5 ⟨rfl, hb⟩
  replace HZ := Lib.hid (HZ.out.next hb)
  replace HW := Lib.hid (HW.out.trans (hb.mono HW.out.size))
  replace HA := Lib.hid (HA.out.next hb)
  replace HB := Lib.hid (HB.out.next hb)
  clear hb
  go_wp2_with (first | (refine wpList_dst 24 rfl ?_; refine wpList_run 24 rfl rfl _ (exec_load 26 (.tmp 6) rfl _ (.agg #[.bool b.neg, .string b.n, .string b.d]) rfl (run_load_part _ 26 _ 0 3 _ [.bool b.neg, .string b.n, .string b.d] _ HB.out (by simp) Tryz.underlying26 rfl size_api_Rat)) ?_; go_frame))
  refine (F25.out _).mono ?_
  rintro e w6 ⟨rfl, hb⟩
  replace HZ := Lib.hid (HZ.out.next hb)
  replace HW := Lib.hid (HW.out.trans (hb.mono HW.out.size))
  replace HA := Lib.hid (HA.out.next hb)
  replace HB := Lib.hid (HB.out.next hb)
  clear hb
  go_wp2_with fail
  refine (F30.out _).mono ?_
  rintro e w7 ⟨rfl, hb⟩
  replace HZ := Lib.hid (HZ.out.next hb)
  replace HW := Lib.hid (HW.out.trans (hb.mono HW.out.size))
  replace HA := Lib.hid (HA.out.next hb)
  replace HB := Lib.hid (HB.out.next hb)
  clear hb
  go_wp2_with fail
  refine (F33.out _).mono ?_
  rintro e w8 ⟨rfl, hb⟩
  replace HZ := Lib.hid (HZ.out.next hb)
  replace HW := Lib.hid (HW.out.trans (hb.mono HW.out.size))
  replace HA := Lib.hid (HA.out.next hb)
  replace HB := Lib.hid (HB.out.next hb)
  clear hb
  go_wp2_with fail
  refine (F36.out _).mono ?_
  rintro e w9 ⟨rfl, hb⟩
  replace HZ := Lib.hid (HZ.out.next hb)
  replace HW := Lib.hid (HW.out.trans (hb.mono HW.out.size))
  replace HA := Lib.hid (HA.out.next hb)
  replace HB := Lib.hid (HB.out.next hb)
  clear hb
  go_wp2_with (first | (refine wpList_dst 41 rfl ?_; refine wpList_run 41 rfl rfl _ (exec_bin .eql 4 _ (.tmp 38) (.tmp 40) rfl _ _ _ rfl rfl rfl (H41.out _)) ?_; go_frame) | (refine wpList_dst 37 rfl ?_; refine wpList_run 37 rfl rfl _ (exec_fieldAddr 26 (.tmp 5) 0 rfl _ _ rfl (fa_api_Rat_0_0 _ _)) ?_; go_frame) | (refine wpList_dst 38 rfl ?_; refine wpList_run 38 rfl rfl _ (exec_load 4 (.tmp 37) rfl _ (.bool a.neg) rfl (run_load_cell flat_bool (HA.out.cell 0))) ?_; go_frame) | (refine wpList_dst 39 rfl ?_; refine wpList_run 39 rfl rfl _ (exec_fieldAddr 26 (.tmp 6) 0 rfl _ _ rfl (fa_api_Rat_0_0 _ _)) ?_; go_frame) | (refine wpList_dst 40 rfl ?_; refine wpList_run 40 rfl rfl _ (exec_load 4 (.tmp 39) rfl _ (.bool b.neg) rfl (run_load_cell flat_bool (HB.out.cell 0))) ?_; go_frame))
  refine late_begin (S := fun _ W => Blk W gA 26 [.bool a.neg, .string a.n, .string a.d] ∧ Blk W gB 26 [.bool b.neg, .string b.n, .string b.d]) (by kernel_rfl) ?_
  have hZ0 := HZ.out.drew
  have hW0 := HW.out.drew
  have hA0 := HA.out.drew
  have hB0 := HB.out.drew
  generalize w9.drew = u0 at hZ0 hW0 hA0 hB0 ⊢
  clear HZ HW HA HB
  refine late_take [] (i := 0) (some 42) rfl rfl (by first | rfl | kernel_rfl) (by kernel_rfl) (by kernel_rfl) (by kernel_rfl) (by kernel_rfl) (by kernel_rfl) (fun Ls W h => h) (.pointer (some ⟨gA, 0, none⟩)) (fun _ _ _ h => h) (fun Ls W hl0 hW => exec_fieldAddr 26 (.tmp 5) 0 rfl _ _ rfl (fa_api_Rat_0_0 _ _)) ⟨hA0, hB0⟩ ⟨hA0, hB0⟩ ?_
  go_frame
  refine late_take [] (i := 1) (some 43) rfl rfl (by first | rfl | kernel_rfl) (by kernel_rfl) (by kernel_rfl) (by kernel_rfl) (by kernel_rfl) (by kernel_rfl) (fun Ls W h => h) (.bool a.neg) (fun _ _ _ h => h) (fun Ls W hl0 hW => exec_load 4 (.tmp 42) rfl _ _ rfl (run_load_cell flat_bool (hW.1.cell 0))) ⟨hA0, hB0⟩ ⟨hA0, hB0⟩ ?_
  go_frame
  refine late_take [] (i := 2) (some 44) rfl rfl (by first | rfl | kernel_rfl) (by kernel_rfl) (by kernel_rfl) (by kernel_rfl) (by kernel_rfl) (by kernel_rfl) (fun Ls W h => h) (.string l) (fun _ _ _ h => h) (fun Ls W hl0 hW => exec_move (.tmp 11) rfl _ rfl) ⟨hA0, hB0⟩ ⟨hA0, hB0⟩ ?_
  go_frame
  refine late_take [] (i := 3) (some 45) rfl rfl (by first | rfl | kernel_rfl) (by kernel_rfl) (by kernel_rfl) (by kernel_rfl) (by kernel_rfl) (by kernel_rfl) (fun Ls W h => h) (.string m) (fun _ _ _ h => h) (fun Ls W hl0 hW => exec_move (.tmp 12) rfl _ rfl) ⟨hA0, hB0⟩ ⟨hA0, hB0⟩ ?_
  go_frame
  refine late_take [] (i := 5) (some 47) rfl rfl (by first | rfl | kernel_rfl) (by kernel_rfl) (by kernel_rfl) (by kernel_rfl) (by kernel_rfl) (by kernel_rfl) (fun Ls W h => h) (.string D) (fun _ _ _ h => h) (fun Ls W hl0 hW => exec_move (.tmp 13) rfl _ rfl) ⟨hA0, hB0⟩ ⟨hA0, hB0⟩ ?_
  go_frame
  refine late_one (i := 4) (by kernel_rfl) (op_callG (some 46) rfl rfl (by first | rfl | kernel_rfl) rfl Tryz.func69 (by kernel_rfl) (by kernel_rfl) #[.string l, .string m] rfl (F46.out u0) ?_)
  rintro e u1 ⟨rfl, hb⟩
  have hZ1 := hZ0.next hb
  have hW1 := hW0.trans (hb.mono hW0.size)
  have hA1 := hA0.next hb
  have hB1 := hB0.next hb
  refine ⟨_, rfl, ⟨hA1, hB1⟩, ?_⟩
  go_frame
  clear hZ0 hW0 hA0 hB0 hb
  refine late_one (i := 6) (by kernel_rfl) (op_callG (some 48) rfl rfl (by first | rfl | kernel_rfl) rfl Tryz.func74 (by kernel_rfl) (by kernel_rfl) #[.bool a.neg, .string T, .string D] rfl (F48.out u1) ?_)
  rintro e u2 ⟨rfl, hb⟩
  have hZ2 := hZ1.next hb
  have hW2 := hW1.trans (hb.mono hW1.size)
  have hA2 := hA1.next hb
  have hB2 := hB1.next hb
  refine ⟨_, rfl, ⟨hA2, hB2⟩, ?_⟩
  go_frame
  clear hZ1 hW1 hA1 hB1 hb
  refine late_one (i := 7) (by kernel_rfl) (op_store_all rfl rfl rfl 26 (.tmp 4) (.tmp 48) rfl (w.heap.size + 1 + 1) _ [.bool false, .string ⟨#[]⟩, .string ⟨#[]⟩] [.bool R.neg, .string R.n, .string R.d] rfl rfl hZ2 rfl qr_size (List.forall_mem_cons.2 ⟨rfl, (List.forall_mem_cons.2 ⟨rfl, (List.forall_mem_cons.2 ⟨rfl, fun _ h => nomatch h⟩)⟩)⟩) ?_)
  intro w9 hk9 ho9
  have hZ3 := hk9
  have hW3 := hW2.trans (ho9.below (by omega))
  have hA3 := ho9.blk hA2 (by have := HGA.out; omega)
  have hB3 := ho9.blk hB2 (by have := HGB.out; omega)
  refine ⟨⟨hA3, hB3⟩, ?_⟩
  refine late_done (by kernel_rfl) ?_ _
  go_frame
  clear hZ2 hW2 hA2 hB2 hk9 ho9
  have HZ := Lib.hid hZ3
  have HW := Lib.hid hW3
  have HA := Lib.hid hA3
  have HB := Lib.hid hB3
  clear hZ3 hW3 hA3 hB3
  go_wp2_with fail
  exact bodyPost_ret (results_blk rfl _ _ (w.heap.size + 1 + 1) _ [.bool R.neg, .string R.n, .string R.d] _ rfl HZ.out Tryz.underlying26 rfl qr_size) rfl ⟨rfl, HW.out⟩
set_option maxRecDepth 100000 in
set_option maxHeartbeats 2000000 in
theorem add5_ge (x y a b R : Rv) (p q r s l m D T : ByteArray) (w : World) (h41 : ∀ W, (binOp .eql 4 (.bool a.neg) (.bool b.neg)).run Tryz.prog W = .ok (.bool false) W) (c : Int) (hc0 : decide (0 ≤ c) = true) (h15 : (∀ W, Calls Tryz.prog 31 #[.agg #[.bool x.neg, .string x.n, .string x.d]] W fun e w' => e = .returned (.agg #[.bool a.neg, .string a.n, .string a.d]) ∧ Below W.heap.size W w')) (h17 : (∀ W, Calls Tryz.prog 31 #[.agg #[.bool y.neg, .string y.n, .string y.d]] W fun e w' => e = .returned (.agg #[.bool b.neg, .string b.n, .string b.d]) ∧ Below W.heap.size W w')) (h20 : (∀ W, Calls Tryz.prog 32 #[.agg #[.bool a.neg, .string a.n, .string a.d]] W fun e w' => e = .returned (.tuple #[.string p, .string q]) ∧ Below W.heap.size W w')) (h25 : (∀ W, Calls Tryz.prog 32 #[.agg #[.bool b.neg, .string b.n, .string b.d]] W fun e w' => e = .returned (.tuple #[.string r, .string s]) ∧ Below W.heap.size W w')) (h30 : (∀ W, Calls Tryz.prog 70 #[.string p, .string s] W fun e w' => e = .returned (.string l) ∧ Below W.heap.size W w')) (h33 : (∀ W, Calls Tryz.prog 70 #[.string r, .string q] W fun e w' => e = .returned (.string m) ∧ Below W.heap.size W w')) (h36 : (∀ W, Calls Tryz.prog 70 #[.string q, .string s] W fun e w' => e = .returned (.string D) ∧ Below W.heap.size W w')) (h51 : (∀ W, Calls Tryz.prog 75 #[.string l, .string m] W fun e w' => e = .returned (.int .i64 c) ∧ Below W.heap.size W w')) (h57 : (∀ W, Calls Tryz.prog 76 #[.string l, .string m] W fun e w' => e = .returned (.agg #[.string T, .int .i64 0]) ∧ Below W.heap.size W w')) (h60 : (∀ W, Calls Tryz.prog 74 #[.bool a.neg, .string T, .string D] W fun e w' => e = .returned (rv R) ∧ Below W.heap.size W w')) : Calls Tryz.prog 42 #[.agg #[.bool x.neg, .string x.n, .string x.d], .agg #[.bool y.neg, .string y.n, .string y.d]] w fun e w' => e = .returned (.agg #[.bool R.neg, .string R.n, .string R.d]) ∧ Below w.heap.size w w' := by
  obtain ⟨W0, hW0, kx, ky, kz, kw⟩ := three_vars w 26 26 26 [.bool x.neg, .string x.n, .string x.d] [.bool y.neg, .string y.n, .string y.d] [.bool false, .string ⟨#[]⟩, .string ⟨#[]⟩]
  have HX := Lib.hid kx
  have HY := Lib.hid ky
  have HZ := Lib.hid kz
  have HW := Lib.hid kw
  have H41 := Lib.hid h41
  have hc := Lib.hid hc0
  have F15 := Lib.hid h15
  have F17 := Lib.hid h17
  have F20 := Lib.hid h20
  have F25 := Lib.hid h25
  have F30 := Lib.hid h30
  have F33 := Lib.hid h33
  have F36 := Lib.hid h36
  have F51 := Lib.hid h51
  have F57 := Lib.hid h57
  have F60 := Lib.hid h60
  clear kx ky kz kw h41 hc0 h15 h17 h20 h25 h30 h33 h36 h51 h57 h60
  go_enter Tryz.func42, Tryz.ntmps42
  go_wp2_with fail
  rw [← hW0]
  clear hW0
  refine (F15.out _).mono ?_
  rintro e w1 ⟨rfl, hb⟩
  replace HX := Lib.hid (HX.out.next hb)
  replace HY := Lib.hid (HY.out.next hb)
  replace HZ := Lib.hid (HZ.out.next hb)
  replace HW := Lib.hid (HW.out.trans (hb.mono HW.out.size))
  clear hb
  clear HX
  have hgA : w.heap.size + 1 + 1 < w1.heap.size := HZ.out.lt
  have HGA := Lib.hid hgA
  clear hgA
  go_wp2_with (first | (refine wpList_var rfl rfl 26 5 rfl rfl rfl (.tmp 15) rfl [.bool false, .string ByteArray.empty, .string ByteArray.empty] [.bool a.neg, .string a.n, .string a.d] zero_api_Rat rfl rfl rfl size_api_Rat (List.forall_mem_cons.2 ⟨rfl, (List.forall_mem_cons.2 ⟨rfl, (List.forall_mem_cons.2 ⟨rfl, fun _ h => nomatch h⟩)⟩)⟩) ?_; intro w2 HA HBw; replace HY := Lib.hid (HY.out.next HBw.out); replace HZ := Lib.hid (HZ.out.next HBw.out); replace HW := Lib.hid (HW.out.trans (HBw.out.mono HW.out.size)); clear HBw) | (refine wpList_dst 16 rfl ?_; refine wpList_run 16 rfl rfl _ (exec_load 26 (.tmp 3) rfl _ (.agg #[.bool y.neg, .string y.n, .string y.d]) rfl (run_load_part _ 26 _ 0 3 _ [.bool y.neg, .string y.n, .string y.d] _ HY.out (by simp) Tryz.underlying26 rfl size_api_Rat)) ?_; go_frame))
  obtain ⟨gA, hgA⟩ : ∃ q, q = w1.heap.size := ⟨_, rfl⟩
  rw [← hgA] at HA HGA ⊢
  clear hgA
  refine (F17.out _).mono ?_
  rintro e w3 ⟨rfl, hb⟩
  replace HY := Lib.hid (HY.out.next hb)
  replace HZ := Lib.hid (HZ.out.next hb)
  replace HW := Lib.hid (HW.out.trans (hb.mono HW.out.size))
  replace HA := Lib.hid (HA.out.next hb)
  clear hb
  clear HY
  have hgB : w.heap.size + 1 + 1 < w3.heap.size := HZ.out.lt
  have HGB := Lib.hid hgB
  clear hgB
  go_wp2_with (first | (refine wpList_var rfl rfl 26 6 rfl rfl rfl (.tmp 17) rfl [.bool false, .string ByteArray.empty, .string ByteArray.empty] [.bool b.neg, .string b.n, .string b.d] zero_api_Rat rfl rfl rfl size_api_Rat (List.forall_mem_cons.2 ⟨rfl, (List.forall_mem_cons.2 ⟨rfl, (List.forall_mem_cons.2 ⟨rfl, fun _ h => nomatch h⟩)⟩)⟩) ?_; intro w4 HB HBw; replace HZ := Lib.hid (HZ.out.next HBw.out); replace HW := Lib.hid (HW.out.trans (HBw.out.mono HW.out.size)); replace HA := Lib.hid (HA.out.next HBw.out); clear HBw) | (refine wpList_dst 19 rfl ?_; refine wpList_run 19 rfl rfl _ (exec_load 26 (.tmp 5) rfl _ (.agg #[.bool a.neg, .string a.n, .string a.d]) rfl (run_load_part _ 26 _ 0 3 _ [.bool a.neg, .string a.n, .string a.d] _ HA.out (by simp) Tryz.underlying26 rfl size_api_Rat)) ?_; go_frame))
  obtain ⟨gB, hgB⟩ : ∃ q, q = w3.heap.size := ⟨_, rfl⟩
  rw [← hgB] at HB HGB ⊢
  clear hgB
  refine (F20.out _).mono ?_
  rintro e w5 ⟨rfl, hb⟩
  replace HZ := Lib.hid (HZ.out.next hb)
  replace HW := Lib.hid (HW.out.trans (hb.mono HW.out.size))
  replace HA := Lib.hid (HA.out.next hb)
  replace HB := Lib.hid (HB.out.next hb)
  clear hb
  go_wp2_with (first | (refine wpList_dst 24 rfl ?_; refine wpList_run 24 rfl rfl _ (exec_load 26 (.tmp 6) rfl _ (.agg #[.bool b.neg, .string b.n, .string b.d]) rfl (run_load_part _ 26 _ 0 3 _ [.bool b.neg, .string b.n, .string b.d] _ HB.out (by simp) Tryz.underlying26 rfl size_api_Rat)) ?_; go_frame))
  refine (F25.out _).mono ?_
  rintro e w6 ⟨rfl, hb⟩
  replace HZ := Lib.hid (HZ.out.next hb)
  replace HW := Lib.hid (HW.out.trans (hb.mono HW.out.size))
  replace HA := Lib.hid (HA.out.next hb)
  replace HB := Lib.hid (HB.out.next hb)
  clear hb
  go_wp2_with fail
  refine (F30.out _).mono ?_
  rintro e w7 ⟨rfl, hb⟩
  replace HZ := Lib.hid (HZ.out.next hb)
  replace HW := Lib.hid (HW.out.trans (hb.mono HW.out.size))
  replace HA := Lib.hid (HA.out.next hb)
  replace HB := Lib.hid (HB.out.next hb)
  clear hb
  go_wp2_with fail
  refine (F33.out _).mono ?_
  rintro e w8 ⟨rfl, hb⟩
  replace HZ := Lib.hid (HZ.out.next hb)
  replace HW := Lib.hid (HW.out.trans (hb.mono HW.out.size))
  replace HA := Lib.hid (HA.out.next hb)
  replace HB := Lib.hid (HB.out.next hb)
  clear hb
  go_wp2_with fail
  refine (F36.out _).mono ?_
  rintro e w9 ⟨rfl, hb⟩
  replace HZ := Lib.hid (HZ.out.next hb)
  replace HW := Lib.hid (HW.out.trans (hb.mono HW.out.size))
  replace HA := Lib.hid (HA.out.next hb)
  replace HB := Lib.hid (HB.out.next hb)
  clear hb
  go_wp2_with (first | (refine wpList_dst 41 rfl ?_; refine wpList_run 41 rfl rfl _ (exec_bin .eql 4 _ (.tmp 38) (.tmp 40) rfl _ _ _ rfl rfl rfl (H41.out _)) ?_; go_frame) | (refine wpList_dst 37 rfl ?_; refine wpList_run 37 rfl rfl _ (exec_fieldAddr 26 (.tmp 5) 0 rfl _ _ rfl (fa_api_Rat_0_0 _ _)) ?_; go_frame) | (refine wpList_dst 38 rfl ?_; refine wpList_run 38 rfl rfl _ (exec_load 4 (.tmp 37) rfl _ (.bool a.neg) rfl (run_load_cell flat_bool (HA.out.cell 0))) ?_; go_frame) | (refine wpList_dst 39 rfl ?_; refine wpList_run 39 rfl rfl _ (exec_fieldAddr 26 (.tmp 6) 0 rfl _ _ rfl (fa_api_Rat_0_0 _ _)) ?_; go_frame) | (refine wpList_dst 40 rfl ?_; refine wpList_run 40 rfl rfl _ (exec_load 4 (.tmp 39) rfl _ (.bool b.neg) rfl (run_load_cell flat_bool (HB.out.cell 0))) ?_; go_frame))
  refine (F51.out _).mono ?_
  rintro e w10 ⟨rfl, hb⟩
  replace HZ := Lib.hid (HZ.out.next hb)
  replace HW := Lib.hid (HW.out.trans (hb.mono HW.out.size))
  replace HA := Lib.hid (HA.out.next hb)
  replace HB := Lib.hid (HB.out.next hb)
  clear hb
  go_wp2_with (first | (refine wpList_dst 52 rfl ?_; refine wpList_run 52 rfl rfl _ (exec_geqI _ _ _ _ rfl .i64 c 0 true hc.out rfl rfl) ?_; go_frame))
  refine late_begin (S := fun _ W => Blk W gA 26 [.bool a.neg, .string a.n, .string a.d] ∧ Blk W gB 26 [.bool b.neg, .string b.n, .string b.d]) (by kernel_rfl) ?_
  have hZ0 := HZ.out.drew
  have hW0 := HW.out.drew
  have hA0 := HA.out.drew
  have hB0 := HB.out.drew
  generalize w10.drew = u0 at hZ0 hW0 hA0 hB0 ⊢
  clear HZ HW HA HB
  refine late_take [] (i := 0) (some 53) rfl rfl (by first | rfl | kernel_rfl) (by kernel_rfl) (by kernel_rfl) (by kernel_rfl) (by kernel_rfl) (by kernel_rfl) (fun Ls W h => h) (.pointer (some ⟨gA, 0, none⟩)) (fun _ _ _ h => h) (fun Ls W hl0 hW => exec_fieldAddr 26 (.tmp 5) 0 rfl _ _ rfl (fa_api_Rat_0_0 _ _)) ⟨hA0, hB0⟩ ⟨hA0, hB0⟩ ?_
  go_frame
  refine late_take [] (i := 1) (some 54) rfl rfl (by first | rfl | kernel_rfl) (by kernel_rfl) (by kernel_rfl) (by kernel_rfl) (by kernel_rfl) (by kernel_rfl) (fun Ls W h => h) (.bool a.neg) (fun _ _ _ h => h) (fun Ls W hl0 hW => exec_load 4 (.tmp 53) rfl _ _ rfl (run_load_cell flat_bool (hW.1.cell 0))) ⟨hA0, hB0⟩ ⟨hA0, hB0⟩ ?_
  go_frame
  refine late_take [] (i := 2) (some 55) rfl rfl (by first | rfl | kernel_rfl) (by kernel_rfl) (by kernel_rfl) (by kernel_rfl) (by kernel_rfl) (by kernel_rfl) (fun Ls W h => h) (.string l) (fun _ _ _ h => h) (fun Ls W hl0 hW => exec_move (.tmp 11) rfl _ rfl) ⟨hA0, hB0⟩ ⟨hA0, hB0⟩ ?_
  go_frame
  refine late_take [] (i := 3) (some 56) rfl rfl (by first | rfl | kernel_rfl) (by kernel_rfl) (by kernel_rfl) (by kernel_rfl) (by kernel_rfl) (by kernel_rfl) (fun Ls W h => h) (.string m) (fun _ _ _ h => h) (fun Ls W hl0 hW => exec_move (.tmp 12) rfl _ rfl) ⟨hA0, hB0⟩ ⟨hA0, hB0⟩ ?_
  go_frame
  refine late_take [] (i := 6) (some 59) rfl rfl (by first | rfl | kernel_rfl) (by kernel_rfl) (by kernel_rfl) (by kernel_rfl) (by kernel_rfl) (by kernel_rfl) (fun Ls W h => h) (.string D) (fun _ _ _ h => h) (fun Ls W hl0 hW => exec_move (.tmp 13) rfl _ rfl) ⟨hA0, hB0⟩ ⟨hA0, hB0⟩ ?_
  go_frame
  refine late_one (i := 4) (by kernel_rfl) (op_callG (some 57) rfl rfl (by first | rfl | kernel_rfl) rfl Tryz.func76 (by kernel_rfl) (by kernel_rfl) #[.string l, .string m] rfl (F57.out u0) ?_)
  rintro e u1 ⟨rfl, hb⟩
  have hZ1 := hZ0.next hb
  have hW1 := hW0.trans (hb.mono hW0.size)
  have hA1 := hA0.next hb
  have hB1 := hB0.next hb
  refine ⟨_, rfl, ⟨hA1, hB1⟩, ?_⟩
  go_frame
  clear hZ0 hW0 hA0 hB0 hb
  refine late_take [] (i := 5) (some 58) rfl rfl (by first | rfl | kernel_rfl) (by kernel_rfl) (by kernel_rfl) (by kernel_rfl) (by kernel_rfl) (by kernel_rfl) (fun Ls W h => h) (.string T) (fun _ _ _ h => h) (fun Ls W hl0 hW => exec_field 72 (.tmp 57) 0 rfl _ _ rfl (run_fldM _ _ _)) ⟨hA1, hB1⟩ ⟨hA1, hB1⟩ ?_
  go_frame
  refine late_one (i := 7) (by kernel_rfl) (op_callG (some 60) rfl rfl (by first | rfl | kernel_rfl) rfl Tryz.func74 (by kernel_rfl) (by kernel_rfl) #[.bool a.neg, .string T, .string D] rfl (F60.out u1) ?_)
  rintro e u2 ⟨rfl, hb⟩
  have hZ2 := hZ1.next hb
  have hW2 := hW1.trans (hb.mono hW1.size)
  have hA2 := hA1.next hb
  have hB2 := hB1.next hb
  refine ⟨_, rfl, ⟨hA2, hB2⟩, ?_⟩
  go_frame
  clear hZ1 hW1 hA1 hB1 hb
  refine late_one (i := 8) (by kernel_rfl) (op_store_all rfl rfl rfl 26 (.tmp 4) (.tmp 60) rfl (w.heap.size + 1 + 1) _ [.bool false, .string ⟨#[]⟩, .string ⟨#[]⟩] [.bool R.neg, .string R.n, .string R.d] rfl rfl hZ2 rfl qr_size (List.forall_mem_cons.2 ⟨rfl, (List.forall_mem_cons.2 ⟨rfl, (List.forall_mem_cons.2 ⟨rfl, fun _ h => nomatch h⟩)⟩)⟩) ?_)
  intro w9 hk9 ho9
  have hZ3 := hk9
  have hW3 := hW2.trans (ho9.below (by omega))
  have hA3 := ho9.blk hA2 (by have := HGA.out; omega)
  have hB3 := ho9.blk hB2 (by have := HGB.out; omega)
  refine ⟨⟨hA3, hB3⟩, ?_⟩
  refine late_done (by kernel_rfl) ?_ _
  go_frame
  clear hZ2 hW2 hA2 hB2 hk9 ho9
  have HZ := Lib.hid hZ3
  have HW := Lib.hid hW3
  have HA := Lib.hid hA3
  have HB := Lib.hid hB3
  clear hZ3 hW3 hA3 hB3
  go_wp2_with fail
  exact bodyPost_ret (results_blk rfl _ _ (w.heap.size + 1 + 1) _ [.bool R.neg, .string R.n, .string R.d] _ rfl HZ.out Tryz.underlying26 rfl qr_size) rfl ⟨rfl, HW.out⟩
set_option maxRecDepth 100000 in
set_option maxHeartbeats 2000000 in
theorem add5_lt (x y a b R : Rv) (p q r s l m D T : ByteArray) (w : World) (h41 : ∀ W, (binOp .eql 4 (.bool a.neg) (.bool b.neg)).run Tryz.prog W = .ok (.bool false) W) (c : Int) (hc0 : decide (0 ≤ c) = false) (h15 : (∀ W, Calls Tryz.prog 31 #[.agg #[.bool x.neg, .string x.n, .string x.d]] W fun e w' => e = .returned (.agg #[.bool a.neg, .string a.n, .string a.d]) ∧ Below W.heap.size W w')) (h17 : (∀ W, Calls Tryz.prog 31 #[.agg #[.bool y.neg, .string y.n, .string y.d]] W fun e w' => e = .returned (.agg #[.bool b.neg, .string b.n, .string b.d]) ∧ Below W.heap.size W w')) (h20 : (∀ W, Calls Tryz.prog 32 #[.agg #[.bool a.neg, .string a.n, .string a.d]] W fun e w' => e = .returned (.tuple #[.string p, .string q]) ∧ Below W.heap.size W w')) (h25 : (∀ W, Calls Tryz.prog 32 #[.agg #[.bool b.neg, .string b.n, .string b.d]] W fun e w' => e = .returned (.tuple #[.string r, .string s]) ∧ Below W.heap.size W w')) (h30 : (∀ W, Calls Tryz.prog 70 #[.string p, .string s] W fun e w' => e = .returned (.string l) ∧ Below W.heap.size W w')) (h33 : (∀ W, Calls Tryz.prog 70 #[.string r, .string q] W fun e w' => e = .returned (.string m) ∧ Below W.heap.size W w')) (h36 : (∀ W, Calls Tryz.prog 70 #[.string q, .string s] W fun e w' => e = .returned (.string D) ∧ Below W.heap.size W w')) (h51 : (∀ W, Calls Tryz.prog 75 #[.string l, .string m] W fun e w' => e = .returned (.int .i64 c) ∧ Below W.heap.size W w')) (h65 : (∀ W, Calls Tryz.prog 76 #[.string m, .string l] W fun e w' => e = .returned (.agg #[.string T, .int .i64 0]) ∧ Below W.heap.size W w')) (h68 : (∀ W, Calls Tryz.prog 74 #[.bool b.neg, .string T, .string D] W fun e w' => e = .returned (rv R) ∧ Below W.heap.size W w')) : Calls Tryz.prog 42 #[.agg #[.bool x.neg, .string x.n, .string x.d], .agg #[.bool y.neg, .string y.n, .string y.d]] w fun e w' => e = .returned (.agg #[.bool R.neg, .string R.n, .string R.d]) ∧ Below w.heap.size w w' := by
  obtain ⟨W0, hW0, kx, ky, kz, kw⟩ := three_vars w 26 26 26 [.bool x.neg, .string x.n, .string x.d] [.bool y.neg, .string y.n, .string y.d] [.bool false, .string ⟨#[]⟩, .string ⟨#[]⟩]
  have HX := Lib.hid kx
  have HY := Lib.hid ky
  have HZ := Lib.hid kz
  have HW := Lib.hid kw
  have H41 := Lib.hid h41
  have hc := Lib.hid hc0
  have F15 := Lib.hid h15
  have F17 := Lib.hid h17
  have F20 := Lib.hid h20
  have F25 := Lib.hid h25
  have F30 := Lib.hid h30
  have F33 := Lib.hid h33
  have F36 := Lib.hid h36
  have F51 := Lib.hid h51
  have F65 := Lib.hid h65
  have F68 := Lib.hid h68
  clear kx ky kz kw h41 hc0 h15 h17 h20 h25 h30 h33 h36 h51 h65 h68
  go_enter Tryz.func42, Tryz.ntmps42
  go_wp2_with fail
  rw [← hW0]
  clear hW0
  refine (F15.out _).mono ?_
  rintro e w1 ⟨rfl, hb⟩
  replace HX := Lib.hid (HX.out.next hb)
  replace HY := Lib.hid (HY.out.next hb)
  replace HZ := Lib.hid (HZ.out.next hb)
  replace HW := Lib.hid (HW.out.trans (hb.mono HW.out.size))
  clear hb
  clear HX
  have hgA : w.heap.size + 1 + 1 < w1.heap.size := HZ.out.lt
  have HGA := Lib.hid hgA
  clear hgA
  go_wp2_with (first | (refine wpList_var rfl rfl 26 5 rfl rfl rfl (.tmp 15) rfl [.bool false, .string ByteArray.empty, .string ByteArray.empty] [.bool a.neg, .string a.n, .string a.d] zero_api_Rat rfl rfl rfl size_api_Rat (List.forall_mem_cons.2 ⟨rfl, (List.forall_mem_cons.2 ⟨rfl, (List.forall_mem_cons.2 ⟨rfl, fun _ h => nomatch h⟩)⟩)⟩) ?_; intro w2 HA HBw; replace HY := Lib.hid (HY.out.next HBw.out); replace HZ := Lib.hid (HZ.out.next HBw.out); replace HW := Lib.hid (HW.out.trans (HBw.out.mono HW.out.size)); clear HBw) | (refine wpList_dst 16 rfl ?_; refine wpList_run 16 rfl rfl _ (exec_load 26 (.tmp 3) rfl _ (.agg #[.bool y.neg, .string y.n, .string y.d]) rfl (run_load_part _ 26 _ 0 3 _ [.bool y.neg, .string y.n, .string y.d] _ HY.out (by simp) Tryz.underlying26 rfl size_api_Rat)) ?_; go_frame))
  obtain ⟨gA, hgA⟩ : ∃ q, q = w1.heap.size := ⟨_, rfl⟩
  rw [← hgA] at HA HGA ⊢
  clear hgA
  refine (F17.out _).mono ?_
  rintro e w3 ⟨rfl, hb⟩
  replace HY := Lib.hid (HY.out.next hb)
  replace HZ := Lib.hid (HZ.out.next hb)
  replace HW := Lib.hid (HW.out.trans (hb.mono HW.out.size))
  replace HA := Lib.hid (HA.out.next hb)
  clear hb
  clear HY
  have hgB : w.heap.size + 1 + 1 < w3.heap.size := HZ.out.lt
  have HGB := Lib.hid hgB
  clear hgB
  go_wp2_with (first | (refine wpList_var rfl rfl 26 6 rfl rfl rfl (.tmp 17) rfl [.bool false, .string ByteArray.empty, .string ByteArray.empty] [.bool b.neg, .string b.n, .string b.d] zero_api_Rat rfl rfl rfl size_api_Rat (List.forall_mem_cons.2 ⟨rfl, (List.forall_mem_cons.2 ⟨rfl, (List.forall_mem_cons.2 ⟨rfl, fun _ h => nomatch h⟩)⟩)⟩) ?_; intro w4 HB HBw; replace HZ := Lib.hid (HZ.out.next HBw.out); replace HW := Lib.hid (HW.out.trans (HBw.out.mono HW.out.size)); replace HA := Lib.hid (HA.out.next HBw.out); clear HBw) | (refine wpList_dst 19 rfl ?_; refine wpList_run 19 rfl rfl _ (exec_load 26 (.tmp 5) rfl _ (.agg #[.bool a.neg, .string a.n, .string a.d]) rfl (run_load_part _ 26 _ 0 3 _ [.bool a.neg, .string a.n, .string a.d] _ HA.out (by simp) Tryz.underlying26 rfl size_api_Rat)) ?_; go_frame))
  obtain ⟨gB, hgB⟩ : ∃ q, q = w3.heap.size := ⟨_, rfl⟩
  rw [← hgB] at HB HGB ⊢
  clear hgB
  refine (F20.out _).mono ?_
  rintro e w5 ⟨rfl, hb⟩
  replace HZ := Lib.hid (HZ.out.next hb)
  replace HW := Lib.hid (HW.out.trans (hb.mono HW.out.size))
  replace HA := Lib.hid (HA.out.next hb)
  replace HB := Lib.hid (HB.out.next hb)
  clear hb
  go_wp2_with (first | (refine wpList_dst 24 rfl ?_; refine wpList_run 24 rfl rfl _ (exec_load 26 (.tmp 6) rfl _ (.agg #[.bool b.neg, .string b.n, .string b.d]) rfl (run_load_part _ 26 _ 0 3 _ [.bool b.neg, .string b.n, .string b.d] _ HB.out (by simp) Tryz.underlying26 rfl size_api_Rat)) ?_; go_frame))
  refine (F25.out _).mono ?_
  rintro e w6 ⟨rfl, hb⟩
  replace HZ := Lib.hid (HZ.out.next hb)
  replace HW := Lib.hid (HW.out.trans (hb.mono HW.out.size))
  replace HA := Lib.hid (HA.out.next hb)
  replace HB := Lib.hid (HB.out.next hb)
  clear hb
  go_wp2_with fail
  refine (F30.out _).mono ?_
  rintro e w7 ⟨rfl, hb⟩
  replace HZ := Lib.hid (HZ.out.next hb)
  replace HW := Lib.hid (HW.out.trans (hb.mono HW.out.size))
  replace HA := Lib.hid (HA.out.next hb)
  replace HB := Lib.hid (HB.out.next hb)
  clear hb
  go_wp2_with fail
  refine (F33.out _).mono ?_
  rintro e w8 ⟨rfl, hb⟩
  replace HZ := Lib.hid (HZ.out.next hb)
  replace HW := Lib.hid (HW.out.trans (hb.mono HW.out.size))
  replace HA := Lib.hid (HA.out.next hb)
  replace HB := Lib.hid (HB.out.next hb)
  clear hb
  go_wp2_with fail
  refine (F36.out _).mono ?_
  rintro e w9 ⟨rfl, hb⟩
  replace HZ := Lib.hid (HZ.out.next hb)
  replace HW := Lib.hid (HW.out.trans (hb.mono HW.out.size))
  replace HA := Lib.hid (HA.out.next hb)
  replace HB := Lib.hid (HB.out.next hb)
  clear hb
  go_wp2_with (first | (refine wpList_dst 41 rfl ?_; refine wpList_run 41 rfl rfl _ (exec_bin .eql 4 _ (.tmp 38) (.tmp 40) rfl _ _ _ rfl rfl rfl (H41.out _)) ?_; go_frame) | (refine wpList_dst 37 rfl ?_; refine wpList_run 37 rfl rfl _ (exec_fieldAddr 26 (.tmp 5) 0 rfl _ _ rfl (fa_api_Rat_0_0 _ _)) ?_; go_frame) | (refine wpList_dst 38 rfl ?_; refine wpList_run 38 rfl rfl _ (exec_load 4 (.tmp 37) rfl _ (.bool a.neg) rfl (run_load_cell flat_bool (HA.out.cell 0))) ?_; go_frame) | (refine wpList_dst 39 rfl ?_; refine wpList_run 39 rfl rfl _ (exec_fieldAddr 26 (.tmp 6) 0 rfl _ _ rfl (fa_api_Rat_0_0 _ _)) ?_; go_frame) | (refine wpList_dst 40 rfl ?_; refine wpList_run 40 rfl rfl _ (exec_load 4 (.tmp 39) rfl _ (.bool b.neg) rfl (run_load_cell flat_bool (HB.out.cell 0))) ?_; go_frame))
  refine (F51.out _).mono ?_
  rintro e w10 ⟨rfl, hb⟩
  replace HZ := Lib.hid (HZ.out.next hb)
  replace HW := Lib.hid (HW.out.trans (hb.mono HW.out.size))
  replace HA := Lib.hid (HA.out.next hb)
  replace HB := Lib.hid (HB.out.next hb)
  clear hb
  go_wp2_with (first | (refine wpList_dst 52 rfl ?_; refine wpList_run 52 rfl rfl _ (exec_geqI _ _ _ _ rfl .i64 c 0 false hc.out rfl rfl) ?_; go_frame))
  refine late_begin (S := fun _ W => Blk W gA 26 [.bool a.neg, .string a.n, .string a.d] ∧ Blk W gB 26 [.bool b.neg, .string b.n, .string b.d]) (by kernel_rfl) ?_
  have hZ0 := HZ.out.drew
  have hW0 := HW.out.drew
  have hA0 := HA.out.drew
  have hB0 := HB.out.drew
  generalize w10.drew = u0 at hZ0 hW0 hA0 hB0 ⊢
  clear HZ HW HA HB
  refine late_take [] (i := 0) (some 61) rfl rfl (by first | rfl | kernel_rfl) (by kernel_rfl) (by kernel_rfl) (by kernel_rfl) (by kernel_rfl) (by kernel_rfl) (fun Ls W h => h) (.pointer (some ⟨gB, 0, none⟩)) (fun _ _ _ h => h) (fun Ls W hl0 hW => exec_fieldAddr 26 (.tmp 6) 0 rfl _ _ rfl (fa_api_Rat_0_0 _ _)) ⟨hA0, hB0⟩ ⟨hA0, hB0⟩ ?_
  go_frame
  refine late_take [] (i := 1) (some 62) rfl rfl (by first | rfl | kernel_rfl) (by kernel_rfl) (by kernel_rfl) (by kernel_rfl) (by kernel_rfl) (by kernel_rfl) (fun Ls W h => h) (.bool b.neg) (fun _ _ _ h => h) (fun Ls W hl0 hW => exec_load 4 (.tmp 61) rfl _ _ rfl (run_load_cell flat_bool (hW.2.cell 0))) ⟨hA0, hB0⟩ ⟨hA0, hB0⟩ ?_
  go_frame
  refine late_take [] (i := 2) (some 63) rfl rfl (by first | rfl | kernel_rfl) (by kernel_rfl) (by kernel_rfl) (by kernel_rfl) (by kernel_rfl) (by kernel_rfl) (fun Ls W h => h) (.string m) (fun _ _ _ h => h) (fun Ls W hl0 hW => exec_move (.tmp 12) rfl _ rfl) ⟨hA0, hB0⟩ ⟨hA0, hB0⟩ ?_
  go_frame
  refine late_take [] (i := 3) (some 64) rfl rfl (by first | rfl | kernel_rfl) (by kernel_rfl) (by kernel_rfl) (by kernel_rfl) (by kernel_rfl) (by kernel_rfl) (fun Ls W h => h) (.string l) (fun _ _ _ h => h) (fun Ls W hl0 hW => exec_move (.tmp 11) rfl _ rfl) ⟨hA0, hB0⟩ ⟨hA0, hB0⟩ ?_
  go_frame
  refine late_take [] (i := 6) (some 67) rfl rfl (by first | rfl | kernel_rfl) (by kernel_rfl) (by kernel_rfl) (by kernel_rfl) (by kernel_rfl) (by kernel_rfl) (fun Ls W h => h) (.string D) (fun _ _ _ h => h) (fun Ls W hl0 hW => exec_move (.tmp 13) rfl _ rfl) ⟨hA0, hB0⟩ ⟨hA0, hB0⟩ ?_
  go_frame
  refine late_one (i := 4) (by kernel_rfl) (op_callG (some 65) rfl rfl (by first | rfl | kernel_rfl) rfl Tryz.func76 (by kernel_rfl) (by kernel_rfl) #[.string m, .string l] rfl (F65.out u0) ?_)
  rintro e u1 ⟨rfl, hb⟩
  have hZ1 := hZ0.next hb
  have hW1 := hW0.trans (hb.mono hW0.size)
  have hA1 := hA0.next hb
  have hB1 := hB0.next hb
  refine ⟨_, rfl, ⟨hA1, hB1⟩, ?_⟩
  go_frame
  clear hZ0 hW0 hA0 hB0 hb
  refine late_take [] (i := 5) (some 66) rfl rfl (by first | rfl | kernel_rfl) (by kernel_rfl) (by kernel_rfl) (by kernel_rfl) (by kernel_rfl) (by kernel_rfl) (fun Ls W h => h) (.string T) (fun _ _ _ h => h) (fun Ls W hl0 hW => exec_field 72 (.tmp 65) 0 rfl _ _ rfl (run_fldM _ _ _)) ⟨hA1, hB1⟩ ⟨hA1, hB1⟩ ?_
  go_frame
  refine late_one (i := 7) (by kernel_rfl) (op_callG (some 68) rfl rfl (by first | rfl | kernel_rfl) rfl Tryz.func74 (by kernel_rfl) (by kernel_rfl) #[.bool b.neg, .string T, .string D] rfl (F68.out u1) ?_)
  rintro e u2 ⟨rfl, hb⟩
  have hZ2 := hZ1.next hb
  have hW2 := hW1.trans (hb.mono hW1.size)
  have hA2 := hA1.next hb
  have hB2 := hB1.next hb
  refine ⟨_, rfl, ⟨hA2, hB2⟩, ?_⟩
  go_frame
  clear hZ1 hW1 hA1 hB1 hb
  refine late_one (i := 8) (by kernel_rfl) (op_store_all rfl rfl rfl 26 (.tmp 4) (.tmp 68) rfl (w.heap.size + 1 + 1) _ [.bool false, .string ⟨#[]⟩, .string ⟨#[]⟩] [.bool R.neg, .string R.n, .string R.d] rfl rfl hZ2 rfl qr_size (List.forall_mem_cons.2 ⟨rfl, (List.forall_mem_cons.2 ⟨rfl, (List.forall_mem_cons.2 ⟨rfl, fun _ h => nomatch h⟩)⟩)⟩) ?_)
  intro w9 hk9 ho9
  have hZ3 := hk9
  have hW3 := hW2.trans (ho9.below (by omega))
  have hA3 := ho9.blk hA2 (by have := HGA.out; omega)
  have hB3 := ho9.blk hB2 (by have := HGB.out; omega)
  refine ⟨⟨hA3, hB3⟩, ?_⟩
  refine late_done (by kernel_rfl) ?_ _
  go_frame
  clear hZ2 hW2 hA2 hB2 hk9 ho9
  have HZ := Lib.hid hZ3
  have HW := Lib.hid hW3
  have HA := Lib.hid hA3
  have HB := Lib.hid hB3
  clear hZ3 hW3 hA3 hB3
  go_wp2_with fail
  exact bodyPost_ret (results_blk rfl _ _ (w.heap.size + 1 + 1) _ [.bool R.neg, .string R.n, .string R.d] _ rfl HZ.out Tryz.underlying26 rfl qr_size) rfl ⟨rfl, HW.out⟩
end Go.Proofs.YtpmlihhofmblpaaGreatDoor
