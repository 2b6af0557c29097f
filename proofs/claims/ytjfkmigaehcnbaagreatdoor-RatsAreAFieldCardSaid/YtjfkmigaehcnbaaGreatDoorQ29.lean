/- The walk of RatsAreAField. -/
import Derived.Test.YtjfkmigaehcnbaaGreatDoorQ28
namespace Go.Proofs.YtjfkmigaehcnbaaGreatDoor
open Go.RowKit Hm Wm Wn

set_option maxRecDepth 100000 in
set_option maxHeartbeats 800000 in
theorem fld_out0 (x y z : Rv) (w : World) (hE : Env w) (h15 : (∀ W, Calls Tryz.prog 8 #[.agg #[.bool x.neg, .string x.n, .string x.d], .int .i64 25] W fun e w' => e = .returned (.bool false) ∧ Below W.heap.size W w')) : Calls Tryz.prog 5 #[.agg #[.bool x.neg, .string x.n, .string x.d], .agg #[.bool y.neg, .string y.n, .string y.d], .agg #[.bool z.neg, .string z.n, .string z.d]] w fun e w' => e = .returned (.bool true) ∧ Below w.heap.size w w' := by
  obtain ⟨W0, hW0, kx, ky, kz, kw⟩ := three_vars w 23 23 23 [.bool x.neg, .string x.n, .string x.d] [.bool y.neg, .string y.n, .string y.d] [.bool z.neg, .string z.n, .string z.d]
  have HX := Lib.hid kx
  have HY := Lib.hid ky
  have HC := Lib.hid kz
  have HW := Lib.hid kw
  have HE := Lib.hid (hE.next kw)
  have HE0 := Lib.hid hE
  clear kx ky kz kw hE
  have F15 := Lib.hid h15
  clear h15
  go_enter Tryz.func5, Tryz.ntmps5
  go_wp2_with fail
  try rw [← hW0]
  clear hW0
  go_wp2_with (first | (refine wpList_dst 14 rfl ?_; refine wpList_run 14 rfl rfl _ (exec_load 23 (.tmp 3) rfl _ (.agg #[.bool x.neg, .string x.n, .string x.d]) rfl (run_load_part _ 23 _ 0 3 _ [.bool x.neg, .string x.n, .string x.d] _ HX.out (by simp) Tryz.underlying23 rfl size_api_Rat)) ?_; go_frame))
  refine (F15.out _).mono ?_
  rintro e w1 ⟨rfl, hb⟩
  replace HX := Lib.hid (HX.out.next hb)
  replace HY := Lib.hid (HY.out.next hb)
  replace HC := Lib.hid (HC.out.next hb)
  replace HW := Lib.hid (HW.out.trans (hb.mono HW.out.size))
  replace HE := Lib.hid (HE.out.next hb)
  clear hb
  go_wp2_with fail
  refine ((qsanity_any _ HE.out)).mono ?_
  rintro e w2 ⟨rfl, hb⟩
  replace HX := Lib.hid (HX.out.next hb)
  replace HY := Lib.hid (HY.out.next hb)
  replace HC := Lib.hid (HC.out.next hb)
  replace HW := Lib.hid (HW.out.trans (hb.mono HW.out.size))
  replace HE := Lib.hid (HE.out.next hb)
  clear hb
  go_wp2_with fail
  go_ret
  exact ⟨rfl, HW.out⟩
set_option maxRecDepth 100000 in
set_option maxHeartbeats 800000 in
theorem fld_out1 (x y z : Rv) (w : World) (hE : Env w) (h15 : (∀ W, Calls Tryz.prog 8 #[.agg #[.bool x.neg, .string x.n, .string x.d], .int .i64 25] W fun e w' => e = .returned (.bool true) ∧ Below W.heap.size W w')) (h19 : (∀ W, Calls Tryz.prog 8 #[.agg #[.bool y.neg, .string y.n, .string y.d], .int .i64 25] W fun e w' => e = .returned (.bool false) ∧ Below W.heap.size W w')) : Calls Tryz.prog 5 #[.agg #[.bool x.neg, .string x.n, .string x.d], .agg #[.bool y.neg, .string y.n, .string y.d], .agg #[.bool z.neg, .string z.n, .string z.d]] w fun e w' => e = .returned (.bool true) ∧ Below w.heap.size w w' := by
  obtain ⟨W0, hW0, kx, ky, kz, kw⟩ := three_vars w 23 23 23 [.bool x.neg, .string x.n, .string x.d] [.bool y.neg, .string y.n, .string y.d] [.bool z.neg, .string z.n, .string z.d]
  have HX := Lib.hid kx
  have HY := Lib.hid ky
  have HC := Lib.hid kz
  have HW := Lib.hid kw
  have HE := Lib.hid (hE.next kw)
  have HE0 := Lib.hid hE
  clear kx ky kz kw hE
  have F15 := Lib.hid h15
  have F19 := Lib.hid h19
  clear h15 h19
  go_enter Tryz.func5, Tryz.ntmps5
  go_wp2_with fail
  try rw [← hW0]
  clear hW0
  go_wp2_with (first | (refine wpList_dst 14 rfl ?_; refine wpList_run 14 rfl rfl _ (exec_load 23 (.tmp 3) rfl _ (.agg #[.bool x.neg, .string x.n, .string x.d]) rfl (run_load_part _ 23 _ 0 3 _ [.bool x.neg, .string x.n, .string x.d] _ HX.out (by simp) Tryz.underlying23 rfl size_api_Rat)) ?_; go_frame))
  refine (F15.out _).mono ?_
  rintro e w1 ⟨rfl, hb⟩
  replace HX := Lib.hid (HX.out.next hb)
  replace HY := Lib.hid (HY.out.next hb)
  replace HC := Lib.hid (HC.out.next hb)
  replace HW := Lib.hid (HW.out.trans (hb.mono HW.out.size))
  replace HE := Lib.hid (HE.out.next hb)
  clear hb
  go_wp2_with (first | (refine wpList_dst 18 rfl ?_; refine wpList_runG 18 rfl rfl _ (exec_load 23 (.tmp 4) rfl _ (.agg #[.bool y.neg, .string y.n, .string y.d]) rfl (run_load_part _ 23 _ 0 3 _ [.bool y.neg, .string y.n, .string y.d] _ HY.out (by simp) Tryz.underlying23 rfl size_api_Rat)) ?_; go_frame))
  refine (F19.out _).mono ?_
  rintro e w2 ⟨rfl, hb⟩
  replace HX := Lib.hid (HX.out.next hb)
  replace HY := Lib.hid (HY.out.next hb)
  replace HC := Lib.hid (HC.out.next hb)
  replace HW := Lib.hid (HW.out.trans (hb.mono HW.out.size))
  replace HE := Lib.hid (HE.out.next hb)
  clear hb
  go_wp2_with fail
  refine ((qsanity_any _ HE.out)).mono ?_
  rintro e w3 ⟨rfl, hb⟩
  replace HX := Lib.hid (HX.out.next hb)
  replace HY := Lib.hid (HY.out.next hb)
  replace HC := Lib.hid (HC.out.next hb)
  replace HW := Lib.hid (HW.out.trans (hb.mono HW.out.size))
  replace HE := Lib.hid (HE.out.next hb)
  clear hb
  go_wp2_with fail
  go_ret
  exact ⟨rfl, HW.out⟩
set_option maxRecDepth 100000 in
set_option maxHeartbeats 800000 in
theorem fld_out2 (x y z : Rv) (w : World) (hE : Env w) (h15 : (∀ W, Calls Tryz.prog 8 #[.agg #[.bool x.neg, .string x.n, .string x.d], .int .i64 25] W fun e w' => e = .returned (.bool true) ∧ Below W.heap.size W w')) (h19 : (∀ W, Calls Tryz.prog 8 #[.agg #[.bool y.neg, .string y.n, .string y.d], .int .i64 25] W fun e w' => e = .returned (.bool true) ∧ Below W.heap.size W w')) (h24 : (∀ W, Calls Tryz.prog 8 #[.agg #[.bool z.neg, .string z.n, .string z.d], .int .i64 25] W fun e w' => e = .returned (.bool false) ∧ Below W.heap.size W w')) : Calls Tryz.prog 5 #[.agg #[.bool x.neg, .string x.n, .string x.d], .agg #[.bool y.neg, .string y.n, .string y.d], .agg #[.bool z.neg, .string z.n, .string z.d]] w fun e w' => e = .returned (.bool true) ∧ Below w.heap.size w w' := by
  obtain ⟨W0, hW0, kx, ky, kz, kw⟩ := three_vars w 23 23 23 [.bool x.neg, .string x.n, .string x.d] [.bool y.neg, .string y.n, .string y.d] [.bool z.neg, .string z.n, .string z.d]
  have HX := Lib.hid kx
  have HY := Lib.hid ky
  have HC := Lib.hid kz
  have HW := Lib.hid kw
  have HE := Lib.hid (hE.next kw)
  have HE0 := Lib.hid hE
  clear kx ky kz kw hE
  have F15 := Lib.hid h15
  have F19 := Lib.hid h19
  have F24 := Lib.hid h24
  clear h15 h19 h24
  go_enter Tryz.func5, Tryz.ntmps5
  go_wp2_with fail
  try rw [← hW0]
  clear hW0
  go_wp2_with (first | (refine wpList_dst 14 rfl ?_; refine wpList_run 14 rfl rfl _ (exec_load 23 (.tmp 3) rfl _ (.agg #[.bool x.neg, .string x.n, .string x.d]) rfl (run_load_part _ 23 _ 0 3 _ [.bool x.neg, .string x.n, .string x.d] _ HX.out (by simp) Tryz.underlying23 rfl size_api_Rat)) ?_; go_frame))
  refine (F15.out _).mono ?_
  rintro e w1 ⟨rfl, hb⟩
  replace HX := Lib.hid (HX.out.next hb)
  replace HY := Lib.hid (HY.out.next hb)
  replace HC := Lib.hid (HC.out.next hb)
  replace HW := Lib.hid (HW.out.trans (hb.mono HW.out.size))
  replace HE := Lib.hid (HE.out.next hb)
  clear hb
  go_wp2_with (first | (refine wpList_dst 18 rfl ?_; refine wpList_runG 18 rfl rfl _ (exec_load 23 (.tmp 4) rfl _ (.agg #[.bool y.neg, .string y.n, .string y.d]) rfl (run_load_part _ 23 _ 0 3 _ [.bool y.neg, .string y.n, .string y.d] _ HY.out (by simp) Tryz.underlying23 rfl size_api_Rat)) ?_; go_frame))
  refine (F19.out _).mono ?_
  rintro e w2 ⟨rfl, hb⟩
  replace HX := Lib.hid (HX.out.next hb)
  replace HY := Lib.hid (HY.out.next hb)
  replace HC := Lib.hid (HC.out.next hb)
  replace HW := Lib.hid (HW.out.trans (hb.mono HW.out.size))
  replace HE := Lib.hid (HE.out.next hb)
  clear hb
  go_wp2_with (first | (refine wpList_dst 23 rfl ?_; refine wpList_runG 23 rfl rfl _ (exec_load 23 (.tmp 5) rfl _ (.agg #[.bool z.neg, .string z.n, .string z.d]) rfl (run_load_part _ 23 _ 0 3 _ [.bool z.neg, .string z.n, .string z.d] _ HC.out (by simp) Tryz.underlying23 rfl size_api_Rat)) ?_; go_frame))
  refine (F24.out _).mono ?_
  rintro e w3 ⟨rfl, hb⟩
  replace HX := Lib.hid (HX.out.next hb)
  replace HY := Lib.hid (HY.out.next hb)
  replace HC := Lib.hid (HC.out.next hb)
  replace HW := Lib.hid (HW.out.trans (hb.mono HW.out.size))
  replace HE := Lib.hid (HE.out.next hb)
  clear hb
  go_wp2_with fail
  refine ((qsanity_any _ HE.out)).mono ?_
  rintro e w4 ⟨rfl, hb⟩
  replace HX := Lib.hid (HX.out.next hb)
  replace HY := Lib.hid (HY.out.next hb)
  replace HC := Lib.hid (HC.out.next hb)
  replace HW := Lib.hid (HW.out.trans (hb.mono HW.out.size))
  replace HE := Lib.hid (HE.out.next hb)
  clear hb
  go_wp2_with fail
  go_ret
  exact ⟨rfl, HW.out⟩
set_option maxRecDepth 1000000 in
set_option maxHeartbeats 6000000 in
theorem fld_in (x y z s p d x0 t1 bz t2 mz t3 xz q ny o m1 nx : Rv) (er : Int) (w : World) (hE : Env w) (h15 : (∀ W, Calls Tryz.prog 8 #[.agg #[.bool x.neg, .string x.n, .string x.d], .int .i64 25] W fun e w' => e = .returned (.bool true) ∧ Below W.heap.size W w')) (h19 : (∀ W, Calls Tryz.prog 8 #[.agg #[.bool y.neg, .string y.n, .string y.d], .int .i64 25] W fun e w' => e = .returned (.bool true) ∧ Below W.heap.size W w')) (h24 : (∀ W, Calls Tryz.prog 8 #[.agg #[.bool z.neg, .string z.n, .string z.d], .int .i64 25] W fun e w' => e = .returned (.bool true) ∧ Below W.heap.size W w')) (h30 : (∀ W, Calls Tryz.prog 24 #[rv x, rv y] W fun e w' => e = .returned (rv s) ∧ Below W.heap.size W w')) (h33 : (∀ W, Calls Tryz.prog 28 #[rv x, rv y] W fun e w' => e = .returned (rv p) ∧ Below W.heap.size W w')) (h35 : (∀ W, Calls Tryz.prog 18 #[rv s] W fun e w' => e = .returned (.bool true) ∧ Below W.heap.size W w')) (h39 : (∀ W, Calls Tryz.prog 18 #[rv p] W fun e w' => e = .returned (.bool true) ∧ Below W.heap.size W w')) (h46 : (∀ W, Calls Tryz.prog 24 #[rv y, rv x] W fun e w' => e = .returned (rv s) ∧ Below W.heap.size W w')) (h53 : (∀ W, Calls Tryz.prog 28 #[rv y, rv x] W fun e w' => e = .returned (rv p) ∧ Below W.heap.size W w')) (h59 : (∀ W, Calls Tryz.prog 26 #[rv x, rv x] W fun e w' => e = .returned (.agg #[.bool false, .string ⟨#[]⟩, .string ⟨#[]⟩]) ∧ Below W.heap.size W w')) (h66 : (∀ W, Calls Tryz.prog 26 #[rv x, rv y] W fun e w' => e = .returned (rv d) ∧ Below W.heap.size W w')) (h68 : (∀ W, Calls Tryz.prog 24 #[rv d, rv y] W fun e w' => e = .returned (rv x0) ∧ Below W.heap.size W w')) (h71 : (∀ W, Calls Tryz.prog 24 #[rv x, .agg #[.bool false, .string ⟨#[]⟩, .string ⟨#[]⟩]] W fun e w' => e = .returned (rv x0) ∧ Below W.heap.size W w')) (h76 : (∀ W, Calls Tryz.prog 24 #[rv s, rv z] W fun e w' => e = .returned (rv t1) ∧ Below W.heap.size W w')) (h80 : (∀ W, Calls Tryz.prog 24 #[rv y, rv z] W fun e w' => e = .returned (rv bz) ∧ Below W.heap.size W w')) (h81 : (∀ W, Calls Tryz.prog 24 #[rv x, rv bz] W fun e w' => e = .returned (rv t1) ∧ Below W.heap.size W w')) (h86 : (∀ W, Calls Tryz.prog 28 #[rv p, rv z] W fun e w' => e = .returned (rv t2) ∧ Below W.heap.size W w')) (h90 : (∀ W, Calls Tryz.prog 28 #[rv y, rv z] W fun e w' => e = .returned (rv mz) ∧ Below W.heap.size W w')) (h91 : (∀ W, Calls Tryz.prog 28 #[rv x, rv mz] W fun e w' => e = .returned (rv t2) ∧ Below W.heap.size W w')) (h97 : (∀ W, Calls Tryz.prog 28 #[rv s, rv z] W fun e w' => e = .returned (rv t3) ∧ Below W.heap.size W w')) (h100 : (∀ W, Calls Tryz.prog 28 #[rv x, rv z] W fun e w' => e = .returned (rv xz) ∧ Below W.heap.size W w')) (h104 : (∀ W, Calls Tryz.prog 24 #[rv xz, rv mz] W fun e w' => e = .returned (rv t3) ∧ Below W.heap.size W w')) (h110 : (∀ W, Calls Tryz.prog 12 #[rv p, rv y] W fun e w' => e = .returned (.tuple #[rv q, .int .i64 er]) ∧ Below W.heap.size W w')) (h114 : (∀ W, Calls Tryz.prog 22 #[rv y] W fun e w' => e = .returned (rv ny) ∧ Below W.heap.size W w'))
    (hz : ny = zR → er = 1 ∧ q = zR ∧ p = zR) (hp : ny ≠ zR → er = 0 ∧ x0 = q ∧ (∀ W, Calls Tryz.prog 12 #[rv y, rv y] W fun e w' => e = .returned (.tuple #[rv o, .int .i64 0]) ∧ Below W.heap.size W w') ∧ (∀ W, Calls Tryz.prog 20 #[.int .i64 1] W fun e w' => e = .returned (rv o) ∧ Below W.heap.size W w') ∧ (∀ W, Calls Tryz.prog 18 #[rv x0] W fun e w' => e = .returned (.bool true) ∧ Below W.heap.size W w') ∧ (∀ W, Calls Tryz.prog 20 #[.int .i64 (-1)] W fun e w' => e = .returned (rv m1) ∧ Below W.heap.size W w') ∧ (∀ W, Calls Tryz.prog 28 #[rv x, rv m1] W fun e w' => e = .returned (rv nx) ∧ Below W.heap.size W w') ∧ (∀ W, Calls Tryz.prog 22 #[rv x] W fun e w' => e = .returned (rv nx) ∧ Below W.heap.size W w')) : Calls Tryz.prog 5 #[.agg #[.bool x.neg, .string x.n, .string x.d], .agg #[.bool y.neg, .string y.n, .string y.d], .agg #[.bool z.neg, .string z.n, .string z.d]] w fun e w' => e = .returned (.bool true) ∧ Below w.heap.size w w' := by
  obtain ⟨W0, hW0, kx, ky, kz, kw⟩ := three_vars w 23 23 23 [.bool x.neg, .string x.n, .string x.d] [.bool y.neg, .string y.n, .string y.d] [.bool z.neg, .string z.n, .string z.d]
  have HX := Lib.hid kx
  have HY := Lib.hid ky
  have HC := Lib.hid kz
  have HW := Lib.hid kw
  have HE := Lib.hid (hE.next kw)
  have HE0 := Lib.hid hE
  clear kx ky kz kw hE
  have F15 := Lib.hid h15
  have F19 := Lib.hid h19
  have F24 := Lib.hid h24
  have F30 := Lib.hid h30
  have F33 := Lib.hid h33
  have F35 := Lib.hid h35
  have F39 := Lib.hid h39
  have F46 := Lib.hid h46
  have F53 := Lib.hid h53
  have F59 := Lib.hid h59
  have F66 := Lib.hid h66
  have F68 := Lib.hid h68
  have F71 := Lib.hid h71
  have F76 := Lib.hid h76
  have F80 := Lib.hid h80
  have F81 := Lib.hid h81
  have F86 := Lib.hid h86
  have F90 := Lib.hid h90
  have F91 := Lib.hid h91
  have F97 := Lib.hid h97
  have F100 := Lib.hid h100
  have F104 := Lib.hid h104
  have F110 := Lib.hid h110
  have F114 := Lib.hid h114
  clear h15 h19 h24 h30 h33 h35 h39 h46 h53 h59 h66 h68 h71 h76 h80 h81 h86 h90 h91 h97 h100 h104 h110 h114
  have HZ := Lib.hid hz
  have HP := Lib.hid hp
  clear hz hp
  go_enter Tryz.func5, Tryz.ntmps5
  go_wp2_with fail
  try rw [← hW0]
  clear hW0
  go_wp2_with (first | (refine wpList_dst 14 rfl ?_; refine wpList_run 14 rfl rfl _ (exec_load 23 (.tmp 3) rfl _ (.agg #[.bool x.neg, .string x.n, .string x.d]) rfl (run_load_part _ 23 _ 0 3 _ [.bool x.neg, .string x.n, .string x.d] _ HX.out (by simp) Tryz.underlying23 rfl size_api_Rat)) ?_; go_frame))
  refine (F15.out _).mono ?_
  rintro e w1 ⟨rfl, hb⟩
  replace HX := Lib.hid (HX.out.next hb)
  replace HY := Lib.hid (HY.out.next hb)
  replace HC := Lib.hid (HC.out.next hb)
  replace HW := Lib.hid (HW.out.trans (hb.mono HW.out.size))
  replace HE := Lib.hid (HE.out.next hb)
  clear hb
  go_wp2_with (first | (refine wpList_dst 18 rfl ?_; refine wpList_runG 18 rfl rfl _ (exec_load 23 (.tmp 4) rfl _ (.agg #[.bool y.neg, .string y.n, .string y.d]) rfl (run_load_part _ 23 _ 0 3 _ [.bool y.neg, .string y.n, .string y.d] _ HY.out (by simp) Tryz.underlying23 rfl size_api_Rat)) ?_; go_frame))
  refine (F19.out _).mono ?_
  rintro e w2 ⟨rfl, hb⟩
  replace HX := Lib.hid (HX.out.next hb)
  replace HY := Lib.hid (HY.out.next hb)
  replace HC := Lib.hid (HC.out.next hb)
  replace HW := Lib.hid (HW.out.trans (hb.mono HW.out.size))
  replace HE := Lib.hid (HE.out.next hb)
  clear hb
  go_wp2_with (first | (refine wpList_dst 23 rfl ?_; refine wpList_runG 23 rfl rfl _ (exec_load 23 (.tmp 5) rfl _ (.agg #[.bool z.neg, .string z.n, .string z.d]) rfl (run_load_part _ 23 _ 0 3 _ [.bool z.neg, .string z.n, .string z.d] _ HC.out (by simp) Tryz.underlying23 rfl size_api_Rat)) ?_; go_frame))
  refine (F24.out _).mono ?_
  rintro e w3 ⟨rfl, hb⟩
  replace HX := Lib.hid (HX.out.next hb)
  replace HY := Lib.hid (HY.out.next hb)
  replace HC := Lib.hid (HC.out.next hb)
  replace HW := Lib.hid (HW.out.trans (hb.mono HW.out.size))
  replace HE := Lib.hid (HE.out.next hb)
  clear hb
  go_wp2_with fail
  refine late_begin (S := fun _ W => Blk W w.heap.size 23 [.bool x.neg, .string x.n, .string x.d] ∧ Blk W (w.heap.size + 1) 23 [.bool y.neg, .string y.n, .string y.d] ∧ Blk W (w.heap.size + 1 + 1) 23 [.bool z.neg, .string z.n, .string z.d]) (by kernel_rfl) ?_
  have hX0 := HX.out.drew
  have hY0 := HY.out.drew
  have hC0 := HC.out.drew
  have hW0 := HW.out.drew
  have hE0 := HE.out.next (Below.refl _ _).drew
  generalize w3.drew = u0 at hX0 hY0 hC0 hW0 hE0 ⊢
  clear HX HY HC HW HE
  refine late_take [] (i := 0) (some 28) rfl rfl (by first | rfl | kernel_rfl) (by kernel_rfl) (by kernel_rfl) (by kernel_rfl) (by kernel_rfl) (by kernel_rfl) (fun Ls W h => h) (rv x) (fun _ _ _ h => h) (fun Ls W hl0 hW => exec_load 23 (.tmp 3) rfl _ (rv x) rfl (run_load_part W 23 _ 0 3 _ [.bool x.neg, .string x.n, .string x.d] _ hW.1 (by simp) Tryz.underlying23 rfl size_api_Rat)) ⟨hX0, hY0, hC0⟩ ⟨hX0, hY0, hC0⟩ ?_
  go_frame
  refine late_take [] (i := 1) (some 29) rfl rfl (by first | rfl | kernel_rfl) (by kernel_rfl) (by kernel_rfl) (by kernel_rfl) (by kernel_rfl) (by kernel_rfl) (fun Ls W h => h) (rv y) (fun _ _ _ h => h) (fun Ls W hl0 hW => exec_load 23 (.tmp 4) rfl _ (rv y) rfl (run_load_part W 23 _ 0 3 _ [.bool y.neg, .string y.n, .string y.d] _ hW.2.1 (by simp) Tryz.underlying23 rfl size_api_Rat)) ⟨hX0, hY0, hC0⟩ ⟨hX0, hY0, hC0⟩ ?_
  go_frame
  refine late_take [] (i := 3) (some 31) rfl rfl (by first | rfl | kernel_rfl) (by kernel_rfl) (by kernel_rfl) (by kernel_rfl) (by kernel_rfl) (by kernel_rfl) (fun Ls W h => h) (rv x) (fun _ _ _ h => h) (fun Ls W hl0 hW => exec_load 23 (.tmp 3) rfl _ (rv x) rfl (run_load_part W 23 _ 0 3 _ [.bool x.neg, .string x.n, .string x.d] _ hW.1 (by simp) Tryz.underlying23 rfl size_api_Rat)) ⟨hX0, hY0, hC0⟩ ⟨hX0, hY0, hC0⟩ ?_
  go_frame
  refine late_take [] (i := 4) (some 32) rfl rfl (by first | rfl | kernel_rfl) (by kernel_rfl) (by kernel_rfl) (by kernel_rfl) (by kernel_rfl) (by kernel_rfl) (fun Ls W h => h) (rv y) (fun _ _ _ h => h) (fun Ls W hl0 hW => exec_load 23 (.tmp 4) rfl _ (rv y) rfl (run_load_part W 23 _ 0 3 _ [.bool y.neg, .string y.n, .string y.d] _ hW.2.1 (by simp) Tryz.underlying23 rfl size_api_Rat)) ⟨hX0, hY0, hC0⟩ ⟨hX0, hY0, hC0⟩ ?_
  go_frame
  have hlo : w.heap.size + 1 + 1 < u0.heap.size := hC0.lt
  refine late_ccaa 2 5 6 7 30 33 7 8 (by decide) (by decide) (by decide) (by decide) (by decide) (by decide) (by decide) (by decide) (by decide) (by decide) (by decide) (by decide) rfl rfl rfl rfl rfl rfl rfl rfl (fun _ => rfl) (fun _ => rfl) (fun _ => rfl) (fun _ => rfl) rfl rfl 23 rfl rfl Tryz.func24 (by kernel_rfl) (by kernel_rfl) Tryz.func28 (by kernel_rfl) (by kernel_rfl) #[rv x, rv y] #[rv x, rv y] (rv s) (rv p) (fun a b c => by cases a <;> cases b <;> cases c <;> rfl) (fun a b c => by cases a <;> cases b <;> cases c <;> rfl) [.bool false, .string ByteArray.empty, .string ByteArray.empty] qr_zero (fun W => Blk W w.heap.size 23 [.bool x.neg, .string x.n, .string x.d] ∧ Blk W (w.heap.size + 1) 23 [.bool y.neg, .string y.n, .string y.d] ∧ Blk W (w.heap.size + 1 + 1) 23 [.bool z.neg, .string z.n, .string z.d] ∧ Below w.heap.size w W ∧ Env W) (fun W W' h hb => ⟨h.1.next hb, h.2.1.next hb, h.2.2.1.next hb, h.2.2.2.1.trans (hb.mono h.2.2.2.1.size), h.2.2.2.2.next hb⟩) (fun l W h => ⟨h.1, h.2.1, h.2.2.1⟩) (fun W _ => F30.out W) (fun W _ => F33.out W) (by kernel_rfl) ⟨hX0, hY0, hC0, hW0, hE0⟩ ?_
  intro g7 g8 u1 hinv hA71 hA81 hg hg7 hg8 hbw
  obtain ⟨hX1, hY1, hC1, hW1, hE1⟩ := hinv
  go_frame
  clear hX0 hY0 hC0 hW0 hE0 hbw
  refine late_one (i := 8) (by kernel_rfl) (op_store_all rfl rfl rfl 23 (.tmp 7) (.tmp 30) rfl (g7) _ [.bool false, .string ⟨#[]⟩, .string ⟨#[]⟩] [.bool s.neg, .string s.n, .string s.d] rfl rfl hA71 rfl qr_size (List.forall_mem_cons.2 ⟨rfl, (List.forall_mem_cons.2 ⟨rfl, (List.forall_mem_cons.2 ⟨rfl, fun _ h => nomatch h⟩)⟩)⟩) ?_)
  intro w9 hk9 ho9
  have hX2 := ho9.blk hX1 (by omega)
  have hY2 := ho9.blk hY1 (by omega)
  have hC2 := ho9.blk hC1 (by omega)
  have hW2 := hW1.trans (ho9.below (by omega))
  have hE2 := HE0.out.next (hW1.trans (ho9.below (by omega)))
  have hA72 := hk9
  have hA82 := ho9.blk hA81 (by omega)
  refine ⟨⟨hX2, hY2, hC2⟩, ?_⟩
  go_frame
  clear hX1 hY1 hC1 hW1 hE1 hA71 hA81 hk9 ho9
  refine late_one (i := 9) (by kernel_rfl) (op_store_all rfl rfl rfl 23 (.tmp 8) (.tmp 33) rfl (g8) _ [.bool false, .string ⟨#[]⟩, .string ⟨#[]⟩] [.bool p.neg, .string p.n, .string p.d] rfl rfl hA82 rfl qr_size (List.forall_mem_cons.2 ⟨rfl, (List.forall_mem_cons.2 ⟨rfl, (List.forall_mem_cons.2 ⟨rfl, fun _ h => nomatch h⟩)⟩)⟩) ?_)
  intro w9 hk9 ho9
  have hX3 := ho9.blk hX2 (by omega)
  have hY3 := ho9.blk hY2 (by omega)
  have hC3 := ho9.blk hC2 (by omega)
  have hW3 := hW2.trans (ho9.below (by omega))
  have hE3 := HE0.out.next (hW2.trans (ho9.below (by omega)))
  have hA73 := ho9.blk hA72 (by omega)
  have hA83 := hk9
  refine ⟨⟨hX3, hY3, hC3⟩, ?_⟩
  refine late_done (by kernel_rfl) ?_ _
  go_frame
  clear hX2 hY2 hC2 hW2 hE2 hA72 hA82 hk9 ho9
  have HX := Lib.hid hX3
  have HY := Lib.hid hY3
  have HC := Lib.hid hC3
  have HW := Lib.hid hW3
  have HE := Lib.hid hE3
  have HA7 := Lib.hid hA73
  have HA8 := Lib.hid hA83
  clear hX3 hY3 hC3 hW3 hE3 hA73 hA83
  have HLO := Lib.hid hlo
  clear hlo hg hg7 hg8
  go_wp2_with fail
  refine late_begin (S := fun _ W => Blk W w.heap.size 23 [.bool x.neg, .string x.n, .string x.d] ∧ Blk W (w.heap.size + 1) 23 [.bool y.neg, .string y.n, .string y.d] ∧ Blk W (w.heap.size + 1 + 1) 23 [.bool z.neg, .string z.n, .string z.d] ∧ Blk W g7 23 [.bool s.neg, .string s.n, .string s.d] ∧ Blk W g8 23 [.bool p.neg, .string p.n, .string p.d]) (by kernel_rfl) ?_
  have hX0 := HX.out.drew
  have hY0 := HY.out.drew
  have hC0 := HC.out.drew
  have hW0 := HW.out.drew
  have hE0 := HE.out.next (Below.refl _ _).drew
  have hA70 := HA7.out.drew
  have hA80 := HA8.out.drew
  generalize w9.drew = u0 at hX0 hY0 hC0 hW0 hE0 hA70 hA80 ⊢
  clear HX HY HC HW HE HA7 HA8
  refine late_take [] (i := 0) (some 34) rfl rfl (by first | rfl | kernel_rfl) (by kernel_rfl) (by kernel_rfl) (by kernel_rfl) (by kernel_rfl) (by kernel_rfl) (fun Ls W h => h) (rv s) (fun _ _ _ h => h) (fun Ls W hl0 hW => exec_load 23 (.tmp 7) rfl _ (rv s) rfl (run_load_part W 23 _ 0 3 _ [.bool s.neg, .string s.n, .string s.d] _ hW.2.2.2.1 (by simp) Tryz.underlying23 rfl size_api_Rat)) ⟨hX0, hY0, hC0, hA70, hA80⟩ ⟨hX0, hY0, hC0, hA70, hA80⟩ ?_
  go_frame
  refine late_one (i := 1) (by kernel_rfl) (op_callG (some 35) rfl rfl (by first | rfl | kernel_rfl) rfl Tryz.func18 (by kernel_rfl) (by kernel_rfl) #[rv s] rfl (F35.out u0) ?_)
  rintro e u1 ⟨rfl, hb⟩
  have hX1 := hX0.next hb
  have hY1 := hY0.next hb
  have hC1 := hC0.next hb
  have hW1 := hW0.trans (hb.mono hW0.size)
  have hE1 := hE0.next hb
  have hA71 := hA70.next hb
  have hA81 := hA80.next hb
  refine ⟨_, rfl, ⟨hX1, hY1, hC1, hA71, hA81⟩, ?_⟩
  go_frame
  clear hX0 hY0 hC0 hW0 hE0 hA70 hA80 hb
  refine late_take [] (i := 2) (some 36) rfl rfl (by first | rfl | kernel_rfl) (by kernel_rfl) (by kernel_rfl) (by kernel_rfl) (by kernel_rfl) (by kernel_rfl) (fun Ls W h => h) (.bool false) (fun _ _ _ h => h) (fun Ls W hl0 hW => exec_not _ _ rfl true rfl) ⟨hX1, hY1, hC1, hA71, hA81⟩ ⟨hX1, hY1, hC1, hA71, hA81⟩ ?_
  go_frame
  refine late_take [] (i := 3) (some 37) rfl rfl (by first | rfl | kernel_rfl) (by kernel_rfl) (by kernel_rfl) (by kernel_rfl) (by kernel_rfl) (by kernel_rfl) (fun Ls W h => h) (.bool false) (fun _ _ _ h => h) (fun Ls W hl0 hW => exec_move (.tmp 36) rfl _ rfl) ⟨hX1, hY1, hC1, hA71, hA81⟩ ⟨hX1, hY1, hC1, hA71, hA81⟩ ?_
  go_frame
  refine late_take [] (i := 4) (some 38) rfl rfl (by first | rfl | kernel_rfl) (by kernel_rfl) (by kernel_rfl) (by kernel_rfl) (by kernel_rfl) (by kernel_rfl) (fun Ls W h => h) (rv p) (fun _ _ _ h => h) (fun Ls W hl0 hW => exec_load 23 (.tmp 8) rfl _ (rv p) rfl (run_load_part W 23 _ 0 3 _ [.bool p.neg, .string p.n, .string p.d] _ hW.2.2.2.2 (by simp) Tryz.underlying23 rfl size_api_Rat)) ⟨hX1, hY1, hC1, hA71, hA81⟩ ⟨hX1, hY1, hC1, hA71, hA81⟩ ?_
  go_frame
  refine late_one (i := 5) (by kernel_rfl) (op_callG (some 39) rfl rfl (by first | rfl | kernel_rfl) rfl Tryz.func18 (by kernel_rfl) (by kernel_rfl) #[rv p] rfl (F39.out u1) ?_)
  rintro e u2 ⟨rfl, hb⟩
  have hX2 := hX1.next hb
  have hY2 := hY1.next hb
  have hC2 := hC1.next hb
  have hW2 := hW1.trans (hb.mono hW1.size)
  have hE2 := hE1.next hb
  have hA72 := hA71.next hb
  have hA82 := hA81.next hb
  refine ⟨_, rfl, ⟨hX2, hY2, hC2, hA72, hA82⟩, ?_⟩
  go_frame
  clear hX1 hY1 hC1 hW1 hE1 hA71 hA81 hb
  refine late_take [] (i := 6) (some 40) rfl rfl (by first | rfl | kernel_rfl) (by kernel_rfl) (by kernel_rfl) (by kernel_rfl) (by kernel_rfl) (by kernel_rfl) (fun Ls W h => h) (.bool false) (fun _ _ _ h => h) (fun Ls W hl0 hW => exec_not _ _ rfl true rfl) ⟨hX2, hY2, hC2, hA72, hA82⟩ ⟨hX2, hY2, hC2, hA72, hA82⟩ ?_
  go_frame
  refine late_take [] (i := 7) (some 41) rfl rfl (by first | rfl | kernel_rfl) (by kernel_rfl) (by kernel_rfl) (by kernel_rfl) (by kernel_rfl) (by kernel_rfl) (fun Ls W h => h) (.bool false) (fun _ _ _ h => h) (fun Ls W hl0 hW => exec_pickF _ _ _ rfl (.bool false) rfl rfl) ⟨hX2, hY2, hC2, hA72, hA82⟩ ⟨hX2, hY2, hC2, hA72, hA82⟩ ?_
  go_frame
  refine late_take [] (i := 8) (some 42) rfl rfl (by first | rfl | kernel_rfl) (by kernel_rfl) (by kernel_rfl) (by kernel_rfl) (by kernel_rfl) (by kernel_rfl) (fun Ls W h => h) (.bool false) (fun _ _ _ h => h) (fun Ls W hl0 hW => exec_move (.tmp 41) rfl _ rfl) ⟨hX2, hY2, hC2, hA72, hA82⟩ ⟨hX2, hY2, hC2, hA72, hA82⟩ ?_
  go_frame
  refine late_take [] (i := 9) (some 43) rfl rfl (by first | rfl | kernel_rfl) (by kernel_rfl) (by kernel_rfl) (by kernel_rfl) (by kernel_rfl) (by kernel_rfl) (fun Ls W h => h) (rv s) (fun _ _ _ h => h) (fun Ls W hl0 hW => exec_load 23 (.tmp 7) rfl _ (rv s) rfl (run_load_part W 23 _ 0 3 _ [.bool s.neg, .string s.n, .string s.d] _ hW.2.2.2.1 (by simp) Tryz.underlying23 rfl size_api_Rat)) ⟨hX2, hY2, hC2, hA72, hA82⟩ ⟨hX2, hY2, hC2, hA72, hA82⟩ ?_
  go_frame
  refine late_take [] (i := 10) (some 44) rfl rfl (by first | rfl | kernel_rfl) (by kernel_rfl) (by kernel_rfl) (by kernel_rfl) (by kernel_rfl) (by kernel_rfl) (fun Ls W h => h) (rv y) (fun _ _ _ h => h) (fun Ls W hl0 hW => exec_load 23 (.tmp 4) rfl _ (rv y) rfl (run_load_part W 23 _ 0 3 _ [.bool y.neg, .string y.n, .string y.d] _ hW.2.1 (by simp) Tryz.underlying23 rfl size_api_Rat)) ⟨hX2, hY2, hC2, hA72, hA82⟩ ⟨hX2, hY2, hC2, hA72, hA82⟩ ?_
  go_frame
  refine late_take [] (i := 11) (some 45) rfl rfl (by first | rfl | kernel_rfl) (by kernel_rfl) (by kernel_rfl) (by kernel_rfl) (by kernel_rfl) (by kernel_rfl) (fun Ls W h => h) (rv x) (fun _ _ _ h => h) (fun Ls W hl0 hW => exec_load 23 (.tmp 3) rfl _ (rv x) rfl (run_load_part W 23 _ 0 3 _ [.bool x.neg, .string x.n, .string x.d] _ hW.1 (by simp) Tryz.underlying23 rfl size_api_Rat)) ⟨hX2, hY2, hC2, hA72, hA82⟩ ⟨hX2, hY2, hC2, hA72, hA82⟩ ?_
  go_frame
  refine late_one (i := 12) (by kernel_rfl) (op_callG (some 46) rfl rfl (by first | rfl | kernel_rfl) rfl Tryz.func24 (by kernel_rfl) (by kernel_rfl) #[rv y, rv x] rfl (F46.out u2) ?_)
  rintro e u3 ⟨rfl, hb⟩
  have hX3 := hX2.next hb
  have hY3 := hY2.next hb
  have hC3 := hC2.next hb
  have hW3 := hW2.trans (hb.mono hW2.size)
  have hE3 := hE2.next hb
  have hA73 := hA72.next hb
  have hA83 := hA82.next hb
  refine ⟨_, rfl, ⟨hX3, hY3, hC3, hA73, hA83⟩, ?_⟩
  go_frame
  clear hX2 hY2 hC2 hW2 hE2 hA72 hA82 hb
  refine late_take [] (i := 13) (some 47) rfl rfl (by first | rfl | kernel_rfl) (by kernel_rfl) (by kernel_rfl) (by kernel_rfl) (by kernel_rfl) (by kernel_rfl) (fun Ls W h => h) (.bool false) (fun _ _ _ h => h) (fun Ls W hl0 hW => exec_bin .neq 23 _ _ _ rfl (rv s) (rv s) _ rfl rfl (rat_guardN _ _ _ _ _) (run_sameR s _)) ⟨hX3, hY3, hC3, hA73, hA83⟩ ⟨hX3, hY3, hC3, hA73, hA83⟩ ?_
  go_frame
  refine late_take [] (i := 14) (some 48) rfl rfl (by first | rfl | kernel_rfl) (by kernel_rfl) (by kernel_rfl) (by kernel_rfl) (by kernel_rfl) (by kernel_rfl) (fun Ls W h => h) (.bool false) (fun _ _ _ h => h) (fun Ls W hl0 hW => exec_pickF _ _ _ rfl (.bool false) rfl rfl) ⟨hX3, hY3, hC3, hA73, hA83⟩ ⟨hX3, hY3, hC3, hA73, hA83⟩ ?_
  go_frame
  refine late_take [] (i := 15) (some 49) rfl rfl (by first | rfl | kernel_rfl) (by kernel_rfl) (by kernel_rfl) (by kernel_rfl) (by kernel_rfl) (by kernel_rfl) (fun Ls W h => h) (.bool false) (fun _ _ _ h => h) (fun Ls W hl0 hW => exec_move (.tmp 48) rfl _ rfl) ⟨hX3, hY3, hC3, hA73, hA83⟩ ⟨hX3, hY3, hC3, hA73, hA83⟩ ?_
  go_frame
  refine late_take [] (i := 16) (some 50) rfl rfl (by first | rfl | kernel_rfl) (by kernel_rfl) (by kernel_rfl) (by kernel_rfl) (by kernel_rfl) (by kernel_rfl) (fun Ls W h => h) (rv p) (fun _ _ _ h => h) (fun Ls W hl0 hW => exec_load 23 (.tmp 8) rfl _ (rv p) rfl (run_load_part W 23 _ 0 3 _ [.bool p.neg, .string p.n, .string p.d] _ hW.2.2.2.2 (by simp) Tryz.underlying23 rfl size_api_Rat)) ⟨hX3, hY3, hC3, hA73, hA83⟩ ⟨hX3, hY3, hC3, hA73, hA83⟩ ?_
  go_frame
  refine late_take [] (i := 17) (some 51) rfl rfl (by first | rfl | kernel_rfl) (by kernel_rfl) (by kernel_rfl) (by kernel_rfl) (by kernel_rfl) (by kernel_rfl) (fun Ls W h => h) (rv y) (fun _ _ _ h => h) (fun Ls W hl0 hW => exec_load 23 (.tmp 4) rfl _ (rv y) rfl (run_load_part W 23 _ 0 3 _ [.bool y.neg, .string y.n, .string y.d] _ hW.2.1 (by simp) Tryz.underlying23 rfl size_api_Rat)) ⟨hX3, hY3, hC3, hA73, hA83⟩ ⟨hX3, hY3, hC3, hA73, hA83⟩ ?_
  go_frame
  refine late_take [] (i := 18) (some 52) rfl rfl (by first | rfl | kernel_rfl) (by kernel_rfl) (by kernel_rfl) (by kernel_rfl) (by kernel_rfl) (by kernel_rfl) (fun Ls W h => h) (rv x) (fun _ _ _ h => h) (fun Ls W hl0 hW => exec_load 23 (.tmp 3) rfl _ (rv x) rfl (run_load_part W 23 _ 0 3 _ [.bool x.neg, .string x.n, .string x.d] _ hW.1 (by simp) Tryz.underlying23 rfl size_api_Rat)) ⟨hX3, hY3, hC3, hA73, hA83⟩ ⟨hX3, hY3, hC3, hA73, hA83⟩ ?_
  go_frame
  refine late_one (i := 19) (by kernel_rfl) (op_callG (some 53) rfl rfl (by first | rfl | kernel_rfl) rfl Tryz.func28 (by kernel_rfl) (by kernel_rfl) #[rv y, rv x] rfl (F53.out u3) ?_)
  rintro e u4 ⟨rfl, hb⟩
  have hX4 := hX3.next hb
  have hY4 := hY3.next hb
  have hC4 := hC3.next hb
  have hW4 := hW3.trans (hb.mono hW3.size)
  have hE4 := hE3.next hb
  have hA74 := hA73.next hb
  have hA84 := hA83.next hb
  refine ⟨_, rfl, ⟨hX4, hY4, hC4, hA74, hA84⟩, ?_⟩
  go_frame
  clear hX3 hY3 hC3 hW3 hE3 hA73 hA83 hb
  refine late_take [] (i := 20) (some 54) rfl rfl (by first | rfl | kernel_rfl) (by kernel_rfl) (by kernel_rfl) (by kernel_rfl) (by kernel_rfl) (by kernel_rfl) (fun Ls W h => h) (.bool false) (fun _ _ _ h => h) (fun Ls W hl0 hW => exec_bin .neq 23 _ _ _ rfl (rv p) (rv p) _ rfl rfl (rat_guardN _ _ _ _ _) (run_sameR p _)) ⟨hX4, hY4, hC4, hA74, hA84⟩ ⟨hX4, hY4, hC4, hA74, hA84⟩ ?_
  go_frame
  refine late_take [] (i := 21) (some 55) rfl rfl (by first | rfl | kernel_rfl) (by kernel_rfl) (by kernel_rfl) (by kernel_rfl) (by kernel_rfl) (by kernel_rfl) (fun Ls W h => h) (.bool false) (fun _ _ _ h => h) (fun Ls W hl0 hW => exec_pickF _ _ _ rfl (.bool false) rfl rfl) ⟨hX4, hY4, hC4, hA74, hA84⟩ ⟨hX4, hY4, hC4, hA74, hA84⟩ ?_
  go_frame
  refine late_take [] (i := 22) (some 56) rfl rfl (by first | rfl | kernel_rfl) (by kernel_rfl) (by kernel_rfl) (by kernel_rfl) (by kernel_rfl) (by kernel_rfl) (fun Ls W h => h) (.bool false) (fun _ _ _ h => h) (fun Ls W hl0 hW => exec_move (.tmp 55) rfl _ rfl) ⟨hX4, hY4, hC4, hA74, hA84⟩ ⟨hX4, hY4, hC4, hA74, hA84⟩ ?_
  go_frame
  refine late_take [] (i := 23) (some 57) rfl rfl (by first | rfl | kernel_rfl) (by kernel_rfl) (by kernel_rfl) (by kernel_rfl) (by kernel_rfl) (by kernel_rfl) (fun Ls W h => h) (rv x) (fun _ _ _ h => h) (fun Ls W hl0 hW => exec_load 23 (.tmp 3) rfl _ (rv x) rfl (run_load_part W 23 _ 0 3 _ [.bool x.neg, .string x.n, .string x.d] _ hW.1 (by simp) Tryz.underlying23 rfl size_api_Rat)) ⟨hX4, hY4, hC4, hA74, hA84⟩ ⟨hX4, hY4, hC4, hA74, hA84⟩ ?_
  go_frame
  refine late_take [] (i := 24) (some 58) rfl rfl (by first | rfl | kernel_rfl) (by kernel_rfl) (by kernel_rfl) (by kernel_rfl) (by kernel_rfl) (by kernel_rfl) (fun Ls W h => h) (rv x) (fun _ _ _ h => h) (fun Ls W hl0 hW => exec_load 23 (.tmp 3) rfl _ (rv x) rfl (run_load_part W 23 _ 0 3 _ [.bool x.neg, .string x.n, .string x.d] _ hW.1 (by simp) Tryz.underlying23 rfl size_api_Rat)) ⟨hX4, hY4, hC4, hA74, hA84⟩ ⟨hX4, hY4, hC4, hA74, hA84⟩ ?_
  go_frame
  refine late_take [] (i := 26) (some 60) rfl rfl (by first | rfl | kernel_rfl) (by kernel_rfl) (by kernel_rfl) (by kernel_rfl) (by kernel_rfl) (by kernel_rfl) (fun Ls W h => h) (.agg #[.bool false, .string ⟨#[]⟩, .string ⟨#[]⟩]) (fun _ _ _ h => h) (fun Ls W hl0 hW => exec_build0 23 rfl _ (qr_nil _)) ⟨hX4, hY4, hC4, hA74, hA84⟩ ⟨hX4, hY4, hC4, hA74, hA84⟩ ?_
  go_frame
  refine late_one (i := 25) (by kernel_rfl) (op_callG (some 59) rfl rfl (by first | rfl | kernel_rfl) rfl Tryz.func26 (by kernel_rfl) (by kernel_rfl) #[rv x, rv x] rfl (F59.out u4) ?_)
  rintro e u5 ⟨rfl, hb⟩
  have hX5 := hX4.next hb
  have hY5 := hY4.next hb
  have hC5 := hC4.next hb
  have hW5 := hW4.trans (hb.mono hW4.size)
  have hE5 := hE4.next hb
  have hA75 := hA74.next hb
  have hA85 := hA84.next hb
  refine ⟨_, rfl, ⟨hX5, hY5, hC5, hA75, hA85⟩, ?_⟩
  go_frame
  clear hX4 hY4 hC4 hW4 hE4 hA74 hA84 hb
  refine late_take [] (i := 27) (some 61) rfl rfl (by first | rfl | kernel_rfl) (by kernel_rfl) (by kernel_rfl) (by kernel_rfl) (by kernel_rfl) (by kernel_rfl) (fun Ls W h => h) (.bool false) (fun _ _ _ h => h) (fun Ls W hl0 hW => exec_bin .neq 23 _ _ _ rfl (.agg #[.bool false, .string ⟨#[]⟩, .string ⟨#[]⟩]) (.agg #[.bool false, .string ⟨#[]⟩, .string ⟨#[]⟩]) _ rfl rfl (rat_guardN _ _ _ _ _) (run_sameR zR _)) ⟨hX5, hY5, hC5, hA75, hA85⟩ ⟨hX5, hY5, hC5, hA75, hA85⟩ ?_
  go_frame
  refine late_take [] (i := 28) (some 62) rfl rfl (by first | rfl | kernel_rfl) (by kernel_rfl) (by kernel_rfl) (by kernel_rfl) (by kernel_rfl) (by kernel_rfl) (fun Ls W h => h) (.bool false) (fun _ _ _ h => h) (fun Ls W hl0 hW => exec_pickF _ _ _ rfl (.bool false) rfl rfl) ⟨hX5, hY5, hC5, hA75, hA85⟩ ⟨hX5, hY5, hC5, hA75, hA85⟩ ?_
  go_frame
  refine late_take [] (i := 29) (some 63) rfl rfl (by first | rfl | kernel_rfl) (by kernel_rfl) (by kernel_rfl) (by kernel_rfl) (by kernel_rfl) (by kernel_rfl) (fun Ls W h => h) (.bool false) (fun _ _ _ h => h) (fun Ls W hl0 hW => exec_move (.tmp 62) rfl _ rfl) ⟨hX5, hY5, hC5, hA75, hA85⟩ ⟨hX5, hY5, hC5, hA75, hA85⟩ ?_
  go_frame
  refine late_take [] (i := 30) (some 64) rfl rfl (by first | rfl | kernel_rfl) (by kernel_rfl) (by kernel_rfl) (by kernel_rfl) (by kernel_rfl) (by kernel_rfl) (fun Ls W h => h) (rv x) (fun _ _ _ h => h) (fun Ls W hl0 hW => exec_load 23 (.tmp 3) rfl _ (rv x) rfl (run_load_part W 23 _ 0 3 _ [.bool x.neg, .string x.n, .string x.d] _ hW.1 (by simp) Tryz.underlying23 rfl size_api_Rat)) ⟨hX5, hY5, hC5, hA75, hA85⟩ ⟨hX5, hY5, hC5, hA75, hA85⟩ ?_
  go_frame
  refine late_take [] (i := 31) (some 65) rfl rfl (by first | rfl | kernel_rfl) (by kernel_rfl) (by kernel_rfl) (by kernel_rfl) (by kernel_rfl) (by kernel_rfl) (fun Ls W h => h) (rv y) (fun _ _ _ h => h) (fun Ls W hl0 hW => exec_load 23 (.tmp 4) rfl _ (rv y) rfl (run_load_part W 23 _ 0 3 _ [.bool y.neg, .string y.n, .string y.d] _ hW.2.1 (by simp) Tryz.underlying23 rfl size_api_Rat)) ⟨hX5, hY5, hC5, hA75, hA85⟩ ⟨hX5, hY5, hC5, hA75, hA85⟩ ?_
  go_frame
  refine late_take [] (i := 33) (some 67) rfl rfl (by first | rfl | kernel_rfl) (by kernel_rfl) (by kernel_rfl) (by kernel_rfl) (by kernel_rfl) (by kernel_rfl) (fun Ls W h => h) (rv y) (fun _ _ _ h => h) (fun Ls W hl0 hW => exec_load 23 (.tmp 4) rfl _ (rv y) rfl (run_load_part W 23 _ 0 3 _ [.bool y.neg, .string y.n, .string y.d] _ hW.2.1 (by simp) Tryz.underlying23 rfl size_api_Rat)) ⟨hX5, hY5, hC5, hA75, hA85⟩ ⟨hX5, hY5, hC5, hA75, hA85⟩ ?_
  go_frame
  refine late_take [] (i := 35) (some 69) rfl rfl (by first | rfl | kernel_rfl) (by kernel_rfl) (by kernel_rfl) (by kernel_rfl) (by kernel_rfl) (by kernel_rfl) (fun Ls W h => h) (rv x) (fun _ _ _ h => h) (fun Ls W hl0 hW => exec_load 23 (.tmp 3) rfl _ (rv x) rfl (run_load_part W 23 _ 0 3 _ [.bool x.neg, .string x.n, .string x.d] _ hW.1 (by simp) Tryz.underlying23 rfl size_api_Rat)) ⟨hX5, hY5, hC5, hA75, hA85⟩ ⟨hX5, hY5, hC5, hA75, hA85⟩ ?_
  go_frame
  refine late_take [] (i := 36) (some 70) rfl rfl (by first | rfl | kernel_rfl) (by kernel_rfl) (by kernel_rfl) (by kernel_rfl) (by kernel_rfl) (by kernel_rfl) (fun Ls W h => h) (.agg #[.bool false, .string ⟨#[]⟩, .string ⟨#[]⟩]) (fun _ _ _ h => h) (fun Ls W hl0 hW => exec_build0 23 rfl _ (qr_nil _)) ⟨hX5, hY5, hC5, hA75, hA85⟩ ⟨hX5, hY5, hC5, hA75, hA85⟩ ?_
  go_frame
  refine late_one (i := 32) (by kernel_rfl) (op_callG (some 66) rfl rfl (by first | rfl | kernel_rfl) rfl Tryz.func26 (by kernel_rfl) (by kernel_rfl) #[rv x, rv y] rfl (F66.out u5) ?_)
  rintro e u6 ⟨rfl, hb⟩
  have hX6 := hX5.next hb
  have hY6 := hY5.next hb
  have hC6 := hC5.next hb
  have hW6 := hW5.trans (hb.mono hW5.size)
  have hE6 := hE5.next hb
  have hA76 := hA75.next hb
  have hA86 := hA85.next hb
  refine ⟨_, rfl, ⟨hX6, hY6, hC6, hA76, hA86⟩, ?_⟩
  go_frame
  clear hX5 hY5 hC5 hW5 hE5 hA75 hA85 hb
  refine late_one (i := 34) (by kernel_rfl) (op_callG (some 68) rfl rfl (by first | rfl | kernel_rfl) rfl Tryz.func24 (by kernel_rfl) (by kernel_rfl) #[rv d, rv y] rfl (F68.out u6) ?_)
  rintro e u7 ⟨rfl, hb⟩
  have hX7 := hX6.next hb
  have hY7 := hY6.next hb
  have hC7 := hC6.next hb
  have hW7 := hW6.trans (hb.mono hW6.size)
  have hE7 := hE6.next hb
  have hA77 := hA76.next hb
  have hA87 := hA86.next hb
  refine ⟨_, rfl, ⟨hX7, hY7, hC7, hA77, hA87⟩, ?_⟩
  go_frame
  clear hX6 hY6 hC6 hW6 hE6 hA76 hA86 hb
  refine late_one (i := 37) (by kernel_rfl) (op_callG (some 71) rfl rfl (by first | rfl | kernel_rfl) rfl Tryz.func24 (by kernel_rfl) (by kernel_rfl) #[rv x, .agg #[.bool false, .string ⟨#[]⟩, .string ⟨#[]⟩]] rfl (F71.out u7) ?_)
  rintro e u8 ⟨rfl, hb⟩
  have hX8 := hX7.next hb
  have hY8 := hY7.next hb
  have hC8 := hC7.next hb
  have hW8 := hW7.trans (hb.mono hW7.size)
  have hE8 := hE7.next hb
  have hA78 := hA77.next hb
  have hA88 := hA87.next hb
  refine ⟨_, rfl, ⟨hX8, hY8, hC8, hA78, hA88⟩, ?_⟩
  go_frame
  clear hX7 hY7 hC7 hW7 hE7 hA77 hA87 hb
  refine late_take [] (i := 38) (some 72) rfl rfl (by first | rfl | kernel_rfl) (by kernel_rfl) (by kernel_rfl) (by kernel_rfl) (by kernel_rfl) (by kernel_rfl) (fun Ls W h => h) (.bool false) (fun _ _ _ h => h) (fun Ls W hl0 hW => exec_bin .neq 23 _ _ _ rfl (rv x0) (rv x0) _ rfl rfl (rat_guardN _ _ _ _ _) (run_sameR x0 _)) ⟨hX8, hY8, hC8, hA78, hA88⟩ ⟨hX8, hY8, hC8, hA78, hA88⟩ ?_
  go_frame
  refine late_take [] (i := 39) (some 73) rfl rfl (by first | rfl | kernel_rfl) (by kernel_rfl) (by kernel_rfl) (by kernel_rfl) (by kernel_rfl) (by kernel_rfl) (fun Ls W h => h) (.bool false) (fun _ _ _ h => h) (fun Ls W hl0 hW => exec_pickF _ _ _ rfl (.bool false) rfl rfl) ⟨hX8, hY8, hC8, hA78, hA88⟩ ⟨hX8, hY8, hC8, hA78, hA88⟩ ?_
  refine late_done (by kernel_rfl) ?_ _
  go_frame
  have HX := Lib.hid hX8
  have HY := Lib.hid hY8
  have HC := Lib.hid hC8
  have HW := Lib.hid hW8
  have HE := Lib.hid hE8
  have HA7 := Lib.hid hA78
  have HA8 := Lib.hid hA88
  clear hX8 hY8 hC8 hW8 hE8 hA78 hA88
  go_wp2_with fail
  refine late_begin (S := fun _ W => Blk W w.heap.size 23 [.bool x.neg, .string x.n, .string x.d] ∧ Blk W (w.heap.size + 1) 23 [.bool y.neg, .string y.n, .string y.d] ∧ Blk W (w.heap.size + 1 + 1) 23 [.bool z.neg, .string z.n, .string z.d] ∧ Blk W g7 23 [.bool s.neg, .string s.n, .string s.d] ∧ Blk W g8 23 [.bool p.neg, .string p.n, .string p.d]) (by kernel_rfl) ?_
  have hX0 := HX.out.drew
  have hY0 := HY.out.drew
  have hC0 := HC.out.drew
  have hW0 := HW.out.drew
  have hE0 := HE.out.next (Below.refl _ _).drew
  have hA70 := HA7.out.drew
  have hA80 := HA8.out.drew
  generalize u8.drew = u0 at hX0 hY0 hC0 hW0 hE0 hA70 hA80 ⊢
  clear HX HY HC HW HE HA7 HA8
  refine late_take [] (i := 0) (some 74) rfl rfl (by first | rfl | kernel_rfl) (by kernel_rfl) (by kernel_rfl) (by kernel_rfl) (by kernel_rfl) (by kernel_rfl) (fun Ls W h => h) (rv s) (fun _ _ _ h => h) (fun Ls W hl0 hW => exec_load 23 (.tmp 7) rfl _ (rv s) rfl (run_load_part W 23 _ 0 3 _ [.bool s.neg, .string s.n, .string s.d] _ hW.2.2.2.1 (by simp) Tryz.underlying23 rfl size_api_Rat)) ⟨hX0, hY0, hC0, hA70, hA80⟩ ⟨hX0, hY0, hC0, hA70, hA80⟩ ?_
  go_frame
  refine late_take [] (i := 1) (some 75) rfl rfl (by first | rfl | kernel_rfl) (by kernel_rfl) (by kernel_rfl) (by kernel_rfl) (by kernel_rfl) (by kernel_rfl) (fun Ls W h => h) (rv z) (fun _ _ _ h => h) (fun Ls W hl0 hW => exec_load 23 (.tmp 5) rfl _ (rv z) rfl (run_load_part W 23 _ 0 3 _ [.bool z.neg, .string z.n, .string z.d] _ hW.2.2.1 (by simp) Tryz.underlying23 rfl size_api_Rat)) ⟨hX0, hY0, hC0, hA70, hA80⟩ ⟨hX0, hY0, hC0, hA70, hA80⟩ ?_
  go_frame
  refine late_take [] (i := 3) (some 77) rfl rfl (by first | rfl | kernel_rfl) (by kernel_rfl) (by kernel_rfl) (by kernel_rfl) (by kernel_rfl) (by kernel_rfl) (fun Ls W h => h) (rv x) (fun _ _ _ h => h) (fun Ls W hl0 hW => exec_load 23 (.tmp 3) rfl _ (rv x) rfl (run_load_part W 23 _ 0 3 _ [.bool x.neg, .string x.n, .string x.d] _ hW.1 (by simp) Tryz.underlying23 rfl size_api_Rat)) ⟨hX0, hY0, hC0, hA70, hA80⟩ ⟨hX0, hY0, hC0, hA70, hA80⟩ ?_
  go_frame
  refine late_take [] (i := 4) (some 78) rfl rfl (by first | rfl | kernel_rfl) (by kernel_rfl) (by kernel_rfl) (by kernel_rfl) (by kernel_rfl) (by kernel_rfl) (fun Ls W h => h) (rv y) (fun _ _ _ h => h) (fun Ls W hl0 hW => exec_load 23 (.tmp 4) rfl _ (rv y) rfl (run_load_part W 23 _ 0 3 _ [.bool y.neg, .string y.n, .string y.d] _ hW.2.1 (by simp) Tryz.underlying23 rfl size_api_Rat)) ⟨hX0, hY0, hC0, hA70, hA80⟩ ⟨hX0, hY0, hC0, hA70, hA80⟩ ?_
  go_frame
  refine late_take [] (i := 5) (some 79) rfl rfl (by first | rfl | kernel_rfl) (by kernel_rfl) (by kernel_rfl) (by kernel_rfl) (by kernel_rfl) (by kernel_rfl) (fun Ls W h => h) (rv z) (fun _ _ _ h => h) (fun Ls W hl0 hW => exec_load 23 (.tmp 5) rfl _ (rv z) rfl (run_load_part W 23 _ 0 3 _ [.bool z.neg, .string z.n, .string z.d] _ hW.2.2.1 (by simp) Tryz.underlying23 rfl size_api_Rat)) ⟨hX0, hY0, hC0, hA70, hA80⟩ ⟨hX0, hY0, hC0, hA70, hA80⟩ ?_
  go_frame
  refine late_one (i := 2) (by kernel_rfl) (op_callG (some 76) rfl rfl (by first | rfl | kernel_rfl) rfl Tryz.func24 (by kernel_rfl) (by kernel_rfl) #[rv s, rv z] rfl (F76.out u0) ?_)
  rintro e u1 ⟨rfl, hb⟩
  have hX1 := hX0.next hb
  have hY1 := hY0.next hb
  have hC1 := hC0.next hb
  have hW1 := hW0.trans (hb.mono hW0.size)
  have hE1 := hE0.next hb
  have hA71 := hA70.next hb
  have hA81 := hA80.next hb
  refine ⟨_, rfl, ⟨hX1, hY1, hC1, hA71, hA81⟩, ?_⟩
  go_frame
  clear hX0 hY0 hC0 hW0 hE0 hA70 hA80 hb
  refine late_one (i := 6) (by kernel_rfl) (op_callG (some 80) rfl rfl (by first | rfl | kernel_rfl) rfl Tryz.func24 (by kernel_rfl) (by kernel_rfl) #[rv y, rv z] rfl (F80.out u1) ?_)
  rintro e u2 ⟨rfl, hb⟩
  have hX2 := hX1.next hb
  have hY2 := hY1.next hb
  have hC2 := hC1.next hb
  have hW2 := hW1.trans (hb.mono hW1.size)
  have hE2 := hE1.next hb
  have hA72 := hA71.next hb
  have hA82 := hA81.next hb
  refine ⟨_, rfl, ⟨hX2, hY2, hC2, hA72, hA82⟩, ?_⟩
  go_frame
  clear hX1 hY1 hC1 hW1 hE1 hA71 hA81 hb
  refine late_one (i := 7) (by kernel_rfl) (op_callG (some 81) rfl rfl (by first | rfl | kernel_rfl) rfl Tryz.func24 (by kernel_rfl) (by kernel_rfl) #[rv x, rv bz] rfl (F81.out u2) ?_)
  rintro e u3 ⟨rfl, hb⟩
  have hX3 := hX2.next hb
  have hY3 := hY2.next hb
  have hC3 := hC2.next hb
  have hW3 := hW2.trans (hb.mono hW2.size)
  have hE3 := hE2.next hb
  have hA73 := hA72.next hb
  have hA83 := hA82.next hb
  refine ⟨_, rfl, ⟨hX3, hY3, hC3, hA73, hA83⟩, ?_⟩
  go_frame
  clear hX2 hY2 hC2 hW2 hE2 hA72 hA82 hb
  refine late_take [] (i := 8) (some 82) rfl rfl (by first | rfl | kernel_rfl) (by kernel_rfl) (by kernel_rfl) (by kernel_rfl) (by kernel_rfl) (by kernel_rfl) (fun Ls W h => h) (.bool false) (fun _ _ _ h => h) (fun Ls W hl0 hW => exec_bin .neq 23 _ _ _ rfl (rv t1) (rv t1) _ rfl rfl (rat_guardN _ _ _ _ _) (run_sameR t1 _)) ⟨hX3, hY3, hC3, hA73, hA83⟩ ⟨hX3, hY3, hC3, hA73, hA83⟩ ?_
  go_frame
  refine late_take [] (i := 9) (some 83) rfl rfl (by first | rfl | kernel_rfl) (by kernel_rfl) (by kernel_rfl) (by kernel_rfl) (by kernel_rfl) (by kernel_rfl) (fun Ls W h => h) (.bool false) (fun _ _ _ h => h) (fun Ls W hl0 hW => exec_move (.tmp 82) rfl _ rfl) ⟨hX3, hY3, hC3, hA73, hA83⟩ ⟨hX3, hY3, hC3, hA73, hA83⟩ ?_
  go_frame
  refine late_take [] (i := 10) (some 84) rfl rfl (by first | rfl | kernel_rfl) (by kernel_rfl) (by kernel_rfl) (by kernel_rfl) (by kernel_rfl) (by kernel_rfl) (fun Ls W h => h) (rv p) (fun _ _ _ h => h) (fun Ls W hl0 hW => exec_load 23 (.tmp 8) rfl _ (rv p) rfl (run_load_part W 23 _ 0 3 _ [.bool p.neg, .string p.n, .string p.d] _ hW.2.2.2.2 (by simp) Tryz.underlying23 rfl size_api_Rat)) ⟨hX3, hY3, hC3, hA73, hA83⟩ ⟨hX3, hY3, hC3, hA73, hA83⟩ ?_
  go_frame
  refine late_take [] (i := 11) (some 85) rfl rfl (by first | rfl | kernel_rfl) (by kernel_rfl) (by kernel_rfl) (by kernel_rfl) (by kernel_rfl) (by kernel_rfl) (fun Ls W h => h) (rv z) (fun _ _ _ h => h) (fun Ls W hl0 hW => exec_load 23 (.tmp 5) rfl _ (rv z) rfl (run_load_part W 23 _ 0 3 _ [.bool z.neg, .string z.n, .string z.d] _ hW.2.2.1 (by simp) Tryz.underlying23 rfl size_api_Rat)) ⟨hX3, hY3, hC3, hA73, hA83⟩ ⟨hX3, hY3, hC3, hA73, hA83⟩ ?_
  go_frame
  refine late_take [] (i := 13) (some 87) rfl rfl (by first | rfl | kernel_rfl) (by kernel_rfl) (by kernel_rfl) (by kernel_rfl) (by kernel_rfl) (by kernel_rfl) (fun Ls W h => h) (rv x) (fun _ _ _ h => h) (fun Ls W hl0 hW => exec_load 23 (.tmp 3) rfl _ (rv x) rfl (run_load_part W 23 _ 0 3 _ [.bool x.neg, .string x.n, .string x.d] _ hW.1 (by simp) Tryz.underlying23 rfl size_api_Rat)) ⟨hX3, hY3, hC3, hA73, hA83⟩ ⟨hX3, hY3, hC3, hA73, hA83⟩ ?_
  go_frame
  refine late_take [] (i := 14) (some 88) rfl rfl (by first | rfl | kernel_rfl) (by kernel_rfl) (by kernel_rfl) (by kernel_rfl) (by kernel_rfl) (by kernel_rfl) (fun Ls W h => h) (rv y) (fun _ _ _ h => h) (fun Ls W hl0 hW => exec_load 23 (.tmp 4) rfl _ (rv y) rfl (run_load_part W 23 _ 0 3 _ [.bool y.neg, .string y.n, .string y.d] _ hW.2.1 (by simp) Tryz.underlying23 rfl size_api_Rat)) ⟨hX3, hY3, hC3, hA73, hA83⟩ ⟨hX3, hY3, hC3, hA73, hA83⟩ ?_
  go_frame
  refine late_take [] (i := 15) (some 89) rfl rfl (by first | rfl | kernel_rfl) (by kernel_rfl) (by kernel_rfl) (by kernel_rfl) (by kernel_rfl) (by kernel_rfl) (fun Ls W h => h) (rv z) (fun _ _ _ h => h) (fun Ls W hl0 hW => exec_load 23 (.tmp 5) rfl _ (rv z) rfl (run_load_part W 23 _ 0 3 _ [.bool z.neg, .string z.n, .string z.d] _ hW.2.2.1 (by simp) Tryz.underlying23 rfl size_api_Rat)) ⟨hX3, hY3, hC3, hA73, hA83⟩ ⟨hX3, hY3, hC3, hA73, hA83⟩ ?_
  go_frame
  refine late_one (i := 12) (by kernel_rfl) (op_callG (some 86) rfl rfl (by first | rfl | kernel_rfl) rfl Tryz.func28 (by kernel_rfl) (by kernel_rfl) #[rv p, rv z] rfl (F86.out u3) ?_)
  rintro e u4 ⟨rfl, hb⟩
  have hX4 := hX3.next hb
  have hY4 := hY3.next hb
  have hC4 := hC3.next hb
  have hW4 := hW3.trans (hb.mono hW3.size)
  have hE4 := hE3.next hb
  have hA74 := hA73.next hb
  have hA84 := hA83.next hb
  refine ⟨_, rfl, ⟨hX4, hY4, hC4, hA74, hA84⟩, ?_⟩
  go_frame
  clear hX3 hY3 hC3 hW3 hE3 hA73 hA83 hb
  refine late_one (i := 16) (by kernel_rfl) (op_callG (some 90) rfl rfl (by first | rfl | kernel_rfl) rfl Tryz.func28 (by kernel_rfl) (by kernel_rfl) #[rv y, rv z] rfl (F90.out u4) ?_)
  rintro e u5 ⟨rfl, hb⟩
  have hX5 := hX4.next hb
  have hY5 := hY4.next hb
  have hC5 := hC4.next hb
  have hW5 := hW4.trans (hb.mono hW4.size)
  have hE5 := hE4.next hb
  have hA75 := hA74.next hb
  have hA85 := hA84.next hb
  refine ⟨_, rfl, ⟨hX5, hY5, hC5, hA75, hA85⟩, ?_⟩
  go_frame
  clear hX4 hY4 hC4 hW4 hE4 hA74 hA84 hb
  refine late_one (i := 17) (by kernel_rfl) (op_callG (some 91) rfl rfl (by first | rfl | kernel_rfl) rfl Tryz.func28 (by kernel_rfl) (by kernel_rfl) #[rv x, rv mz] rfl (F91.out u5) ?_)
  rintro e u6 ⟨rfl, hb⟩
  have hX6 := hX5.next hb
  have hY6 := hY5.next hb
  have hC6 := hC5.next hb
  have hW6 := hW5.trans (hb.mono hW5.size)
  have hE6 := hE5.next hb
  have hA76 := hA75.next hb
  have hA86 := hA85.next hb
  refine ⟨_, rfl, ⟨hX6, hY6, hC6, hA76, hA86⟩, ?_⟩
  go_frame
  clear hX5 hY5 hC5 hW5 hE5 hA75 hA85 hb
  refine late_take [] (i := 18) (some 92) rfl rfl (by first | rfl | kernel_rfl) (by kernel_rfl) (by kernel_rfl) (by kernel_rfl) (by kernel_rfl) (by kernel_rfl) (fun Ls W h => h) (.bool false) (fun _ _ _ h => h) (fun Ls W hl0 hW => exec_bin .neq 23 _ _ _ rfl (rv t2) (rv t2) _ rfl rfl (rat_guardN _ _ _ _ _) (run_sameR t2 _)) ⟨hX6, hY6, hC6, hA76, hA86⟩ ⟨hX6, hY6, hC6, hA76, hA86⟩ ?_
  go_frame
  refine late_take [] (i := 19) (some 93) rfl rfl (by first | rfl | kernel_rfl) (by kernel_rfl) (by kernel_rfl) (by kernel_rfl) (by kernel_rfl) (by kernel_rfl) (fun Ls W h => h) (.bool false) (fun _ _ _ h => h) (fun Ls W hl0 hW => exec_pickF _ _ _ rfl (.bool false) rfl rfl) ⟨hX6, hY6, hC6, hA76, hA86⟩ ⟨hX6, hY6, hC6, hA76, hA86⟩ ?_
  go_frame
  refine late_take [] (i := 20) (some 94) rfl rfl (by first | rfl | kernel_rfl) (by kernel_rfl) (by kernel_rfl) (by kernel_rfl) (by kernel_rfl) (by kernel_rfl) (fun Ls W h => h) (.bool false) (fun _ _ _ h => h) (fun Ls W hl0 hW => exec_move (.tmp 93) rfl _ rfl) ⟨hX6, hY6, hC6, hA76, hA86⟩ ⟨hX6, hY6, hC6, hA76, hA86⟩ ?_
  go_frame
  refine late_take [] (i := 21) (some 95) rfl rfl (by first | rfl | kernel_rfl) (by kernel_rfl) (by kernel_rfl) (by kernel_rfl) (by kernel_rfl) (by kernel_rfl) (fun Ls W h => h) (rv s) (fun _ _ _ h => h) (fun Ls W hl0 hW => exec_load 23 (.tmp 7) rfl _ (rv s) rfl (run_load_part W 23 _ 0 3 _ [.bool s.neg, .string s.n, .string s.d] _ hW.2.2.2.1 (by simp) Tryz.underlying23 rfl size_api_Rat)) ⟨hX6, hY6, hC6, hA76, hA86⟩ ⟨hX6, hY6, hC6, hA76, hA86⟩ ?_
  go_frame
  refine late_take [] (i := 22) (some 96) rfl rfl (by first | rfl | kernel_rfl) (by kernel_rfl) (by kernel_rfl) (by kernel_rfl) (by kernel_rfl) (by kernel_rfl) (fun Ls W h => h) (rv z) (fun _ _ _ h => h) (fun Ls W hl0 hW => exec_load 23 (.tmp 5) rfl _ (rv z) rfl (run_load_part W 23 _ 0 3 _ [.bool z.neg, .string z.n, .string z.d] _ hW.2.2.1 (by simp) Tryz.underlying23 rfl size_api_Rat)) ⟨hX6, hY6, hC6, hA76, hA86⟩ ⟨hX6, hY6, hC6, hA76, hA86⟩ ?_
  go_frame
  refine late_take [] (i := 24) (some 98) rfl rfl (by first | rfl | kernel_rfl) (by kernel_rfl) (by kernel_rfl) (by kernel_rfl) (by kernel_rfl) (by kernel_rfl) (fun Ls W h => h) (rv x) (fun _ _ _ h => h) (fun Ls W hl0 hW => exec_load 23 (.tmp 3) rfl _ (rv x) rfl (run_load_part W 23 _ 0 3 _ [.bool x.neg, .string x.n, .string x.d] _ hW.1 (by simp) Tryz.underlying23 rfl size_api_Rat)) ⟨hX6, hY6, hC6, hA76, hA86⟩ ⟨hX6, hY6, hC6, hA76, hA86⟩ ?_
  go_frame
  refine late_take [] (i := 25) (some 99) rfl rfl (by first | rfl | kernel_rfl) (by kernel_rfl) (by kernel_rfl) (by kernel_rfl) (by kernel_rfl) (by kernel_rfl) (fun Ls W h => h) (rv z) (fun _ _ _ h => h) (fun Ls W hl0 hW => exec_load 23 (.tmp 5) rfl _ (rv z) rfl (run_load_part W 23 _ 0 3 _ [.bool z.neg, .string z.n, .string z.d] _ hW.2.2.1 (by simp) Tryz.underlying23 rfl size_api_Rat)) ⟨hX6, hY6, hC6, hA76, hA86⟩ ⟨hX6, hY6, hC6, hA76, hA86⟩ ?_
  go_frame
  refine late_take [] (i := 27) (some 101) rfl rfl (by first | rfl | kernel_rfl) (by kernel_rfl) (by kernel_rfl) (by kernel_rfl) (by kernel_rfl) (by kernel_rfl) (fun Ls W h => h) (rv y) (fun _ _ _ h => h) (fun Ls W hl0 hW => exec_load 23 (.tmp 4) rfl _ (rv y) rfl (run_load_part W 23 _ 0 3 _ [.bool y.neg, .string y.n, .string y.d] _ hW.2.1 (by simp) Tryz.underlying23 rfl size_api_Rat)) ⟨hX6, hY6, hC6, hA76, hA86⟩ ⟨hX6, hY6, hC6, hA76, hA86⟩ ?_
  go_frame
  refine late_take [] (i := 28) (some 102) rfl rfl (by first | rfl | kernel_rfl) (by kernel_rfl) (by kernel_rfl) (by kernel_rfl) (by kernel_rfl) (by kernel_rfl) (fun Ls W h => h) (rv z) (fun _ _ _ h => h) (fun Ls W hl0 hW => exec_load 23 (.tmp 5) rfl _ (rv z) rfl (run_load_part W 23 _ 0 3 _ [.bool z.neg, .string z.n, .string z.d] _ hW.2.2.1 (by simp) Tryz.underlying23 rfl size_api_Rat)) ⟨hX6, hY6, hC6, hA76, hA86⟩ ⟨hX6, hY6, hC6, hA76, hA86⟩ ?_
  go_frame
  refine late_one (i := 23) (by kernel_rfl) (op_callG (some 97) rfl rfl (by first | rfl | kernel_rfl) rfl Tryz.func28 (by kernel_rfl) (by kernel_rfl) #[rv s, rv z] rfl (F97.out u6) ?_)
  rintro e u7 ⟨rfl, hb⟩
  have hX7 := hX6.next hb
  have hY7 := hY6.next hb
  have hC7 := hC6.next hb
  have hW7 := hW6.trans (hb.mono hW6.size)
  have hE7 := hE6.next hb
  have hA77 := hA76.next hb
  have hA87 := hA86.next hb
  refine ⟨_, rfl, ⟨hX7, hY7, hC7, hA77, hA87⟩, ?_⟩
  go_frame
  clear hX6 hY6 hC6 hW6 hE6 hA76 hA86 hb
  refine late_one (i := 26) (by kernel_rfl) (op_callG (some 100) rfl rfl (by first | rfl | kernel_rfl) rfl Tryz.func28 (by kernel_rfl) (by kernel_rfl) #[rv x, rv z] rfl (F100.out u7) ?_)
  rintro e u8 ⟨rfl, hb⟩
  have hX8 := hX7.next hb
  have hY8 := hY7.next hb
  have hC8 := hC7.next hb
  have hW8 := hW7.trans (hb.mono hW7.size)
  have hE8 := hE7.next hb
  have hA78 := hA77.next hb
  have hA88 := hA87.next hb
  refine ⟨_, rfl, ⟨hX8, hY8, hC8, hA78, hA88⟩, ?_⟩
  go_frame
  clear hX7 hY7 hC7 hW7 hE7 hA77 hA87 hb
  refine late_one (i := 29) (by kernel_rfl) (op_callG (some 103) rfl rfl (by first | rfl | kernel_rfl) rfl Tryz.func28 (by kernel_rfl) (by kernel_rfl) #[rv y, rv z] rfl (F90.out u8) ?_)
  rintro e u9 ⟨rfl, hb⟩
  have hX9 := hX8.next hb
  have hY9 := hY8.next hb
  have hC9 := hC8.next hb
  have hW9 := hW8.trans (hb.mono hW8.size)
  have hE9 := hE8.next hb
  have hA79 := hA78.next hb
  have hA89 := hA88.next hb
  refine ⟨_, rfl, ⟨hX9, hY9, hC9, hA79, hA89⟩, ?_⟩
  go_frame
  clear hX8 hY8 hC8 hW8 hE8 hA78 hA88 hb
  refine late_one (i := 30) (by kernel_rfl) (op_callG (some 104) rfl rfl (by first | rfl | kernel_rfl) rfl Tryz.func24 (by kernel_rfl) (by kernel_rfl) #[rv xz, rv mz] rfl (F104.out u9) ?_)
  rintro e u10 ⟨rfl, hb⟩
  have hX10 := hX9.next hb
  have hY10 := hY9.next hb
  have hC10 := hC9.next hb
  have hW10 := hW9.trans (hb.mono hW9.size)
  have hE10 := hE9.next hb
  have hA710 := hA79.next hb
  have hA810 := hA89.next hb
  refine ⟨_, rfl, ⟨hX10, hY10, hC10, hA710, hA810⟩, ?_⟩
  go_frame
  clear hX9 hY9 hC9 hW9 hE9 hA79 hA89 hb
  refine late_take [] (i := 31) (some 105) rfl rfl (by first | rfl | kernel_rfl) (by kernel_rfl) (by kernel_rfl) (by kernel_rfl) (by kernel_rfl) (by kernel_rfl) (fun Ls W h => h) (.bool false) (fun _ _ _ h => h) (fun Ls W hl0 hW => exec_bin .neq 23 _ _ _ rfl (rv t3) (rv t3) _ rfl rfl (rat_guardN _ _ _ _ _) (run_sameR t3 _)) ⟨hX10, hY10, hC10, hA710, hA810⟩ ⟨hX10, hY10, hC10, hA710, hA810⟩ ?_
  go_frame
  refine late_take [] (i := 32) (some 106) rfl rfl (by first | rfl | kernel_rfl) (by kernel_rfl) (by kernel_rfl) (by kernel_rfl) (by kernel_rfl) (by kernel_rfl) (fun Ls W h => h) (.bool false) (fun _ _ _ h => h) (fun Ls W hl0 hW => exec_pickF _ _ _ rfl (.bool false) rfl rfl) ⟨hX10, hY10, hC10, hA710, hA810⟩ ⟨hX10, hY10, hC10, hA710, hA810⟩ ?_
  refine late_done (by kernel_rfl) ?_ _
  go_frame
  have HX := Lib.hid hX10
  have HY := Lib.hid hY10
  have HC := Lib.hid hC10
  have HW := Lib.hid hW10
  have HE := Lib.hid hE10
  have HA7 := Lib.hid hA710
  have HA8 := Lib.hid hA810
  clear hX10 hY10 hC10 hW10 hE10 hA710 hA810
  go_wp2_with (first | (refine wpList_dst 108 rfl ?_; refine wpList_run 108 rfl rfl _ (exec_load 23 (.tmp 8) rfl _ (.agg #[.bool p.neg, .string p.n, .string p.d]) rfl (run_load_part _ 23 _ 0 3 _ [.bool p.neg, .string p.n, .string p.d] _ HA8.out (by simp) Tryz.underlying23 rfl size_api_Rat)) ?_; go_frame) | (refine wpList_dst 109 rfl ?_; refine wpList_run 109 rfl rfl _ (exec_load 23 (.tmp 4) rfl _ (.agg #[.bool y.neg, .string y.n, .string y.d]) rfl (run_load_part _ 23 _ 0 3 _ [.bool y.neg, .string y.n, .string y.d] _ HY.out (by simp) Tryz.underlying23 rfl size_api_Rat)) ?_; go_frame))
  refine (F110.out _).mono ?_
  rintro e w31 ⟨rfl, hb⟩
  replace HX := Lib.hid (HX.out.next hb)
  replace HY := Lib.hid (HY.out.next hb)
  replace HC := Lib.hid (HC.out.next hb)
  replace HW := Lib.hid (HW.out.trans (hb.mono HW.out.size))
  replace HE := Lib.hid (HE.out.next hb)
  replace HA7 := Lib.hid (HA7.out.next hb)
  replace HA8 := Lib.hid (HA8.out.next hb)
  clear hb
  go_wp2_with (first | (refine wpList_var rfl rfl 23 9 rfl rfl rfl (.tmp 111) rfl [.bool false, .string ByteArray.empty, .string ByteArray.empty] [.bool q.neg, .string q.n, .string q.d] zero_api_Rat rfl rfl rfl size_api_Rat (List.forall_mem_cons.2 ⟨rfl, (List.forall_mem_cons.2 ⟨rfl, (List.forall_mem_cons.2 ⟨rfl, fun _ h => nomatch h⟩)⟩)⟩) ?_; intro w32 HA9 HBw; replace HX := Lib.hid (HX.out.next HBw.out); replace HY := Lib.hid (HY.out.next HBw.out); replace HC := Lib.hid (HC.out.next HBw.out); replace HW := Lib.hid (HW.out.trans (HBw.out.mono HW.out.size)); replace HE := Lib.hid (HE.out.next HBw.out); replace HA7 := Lib.hid (HA7.out.next HBw.out); replace HA8 := Lib.hid (HA8.out.next HBw.out); clear HBw) | (refine wpList_dst 113 rfl ?_; refine wpList_run 113 rfl rfl _ (exec_load 23 (.tmp 4) rfl _ (.agg #[.bool y.neg, .string y.n, .string y.d]) rfl (run_load_part _ 23 _ 0 3 _ [.bool y.neg, .string y.n, .string y.d] _ HY.out (by simp) Tryz.underlying23 rfl size_api_Rat)) ?_; go_frame))
  obtain ⟨g9, hg9⟩ : ∃ g, g = w31.heap.size := ⟨_, rfl⟩
  rw [← hg9] at HA9 ⊢
  clear hg9
  refine (F114.out _).mono ?_
  rintro e w33 ⟨rfl, hb⟩
  replace HX := Lib.hid (HX.out.next hb)
  replace HY := Lib.hid (HY.out.next hb)
  replace HC := Lib.hid (HC.out.next hb)
  replace HW := Lib.hid (HW.out.trans (hb.mono HW.out.size))
  replace HE := Lib.hid (HE.out.next hb)
  replace HA7 := Lib.hid (HA7.out.next hb)
  replace HA8 := Lib.hid (HA8.out.next hb)
  replace HA9 := Lib.hid (HA9.out.next hb)
  clear hb
  by_cases hny : ny = zR
  · obtain ⟨rfl, rfl, rfl⟩ := HZ.out hny
    subst hny
    have H116 := Lib.hid (fun W => run_eqRs zR.neg zR.n zR.d W)
    have HQ := H116
    have HP2 := H116
    clear HZ HP
    have HP := HP2
    go_wp2_with (first | (refine wpList_dst 115 rfl ?_; refine wpList_run 115 rfl rfl _ (exec_build0 23 rfl _ (qr_nil _)) ?_; go_frame) | (refine wpList_dst 116 rfl ?_; refine wpList_run 116 rfl rfl _ (exec_bin .eql 23 _ (.tmp 114) (.tmp 115) rfl (rv zR) (.agg #[.bool false, .string ⟨#[]⟩, .string ⟨#[]⟩]) _ rfl rfl (rat_guard _ _ _ _ _) (H116.out _)) ?_; go_frame))
    refine ((qsanity_any _ HE.out)).mono ?_
    rintro e w34 ⟨rfl, hb⟩
    replace HX := Lib.hid (HX.out.next hb)
    replace HY := Lib.hid (HY.out.next hb)
    replace HC := Lib.hid (HC.out.next hb)
    replace HW := Lib.hid (HW.out.trans (hb.mono HW.out.size))
    replace HE := Lib.hid (HE.out.next hb)
    replace HA7 := Lib.hid (HA7.out.next hb)
    replace HA8 := Lib.hid (HA8.out.next hb)
    replace HA9 := Lib.hid (HA9.out.next hb)
    clear hb
    go_wp2_with (first | (refine wpList_dst 125 rfl ?_; refine wpList_runG 125 rfl rfl _ (exec_build0 23 rfl _ (qr_nil _)) ?_; go_frame) | (refine wpList_dst 130 rfl ?_; refine wpList_runG 130 rfl rfl _ (exec_build0 23 rfl _ (qr_nil _)) ?_; go_frame) | (refine wpList_dst 126 rfl ?_; refine wpList_runG 126 rfl rfl _ (exec_bin .eql 23 _ (.tmp 124) (.tmp 125) rfl (rv zR) (.agg #[.bool false, .string ⟨#[]⟩, .string ⟨#[]⟩]) _ rfl rfl (rat_guard _ _ _ _ _) (HQ.out _)) ?_; go_frame) | (refine wpList_dst 131 rfl ?_; refine wpList_runG 131 rfl rfl _ (exec_bin .eql 23 _ (.tmp 129) (.tmp 130) rfl (rv zR) (.agg #[.bool false, .string ⟨#[]⟩, .string ⟨#[]⟩]) _ rfl rfl (rat_guard _ _ _ _ _) (HP.out _)) ?_; go_frame) | (refine wpList_dst 124 rfl ?_; refine wpList_runG 124 rfl rfl _ (exec_load 23 (.tmp 9) rfl _ (.agg #[.bool zR.neg, .string zR.n, .string zR.d]) rfl (run_load_part _ 23 _ 0 3 _ [.bool zR.neg, .string zR.n, .string zR.d] _ HA9.out (by simp) Tryz.underlying23 rfl size_api_Rat)) ?_; go_frame) | (refine wpList_dst 129 rfl ?_; refine wpList_runG 129 rfl rfl _ (exec_load 23 (.tmp 8) rfl _ (.agg #[.bool zR.neg, .string zR.n, .string zR.d]) rfl (run_load_part _ 23 _ 0 3 _ [.bool zR.neg, .string zR.n, .string zR.d] _ HA8.out (by simp) Tryz.underlying23 rfl size_api_Rat)) ?_; go_frame))
    go_ret
    exact ⟨rfl, HW.out⟩
  · obtain ⟨rfl, rfl, k136, k157, k162, k166, k167, k169⟩ := HP.out hny
    have H116 : Hid (∀ W, (binOp .eql 23 (rv ny) (.agg #[.bool false, .string ⟨#[]⟩, .string ⟨#[]⟩])).run Tryz.prog W = .ok (.bool false) W) := Lib.hid (fun W => run_neR ny zR false (decide_eq_false hny) W)
    have F136 := Lib.hid k136
    have F157 := Lib.hid k157
    have F162 := Lib.hid k162
    have F166 := Lib.hid k166
    have F167 := Lib.hid k167
    have F169 := Lib.hid k169
    clear HZ HP hny k136 k157 k162 k166 k167 k169
    go_wp2_with (first | (refine wpList_dst 115 rfl ?_; refine wpList_run 115 rfl rfl _ (exec_build0 23 rfl _ (qr_nil _)) ?_; go_frame) | (refine wpList_dst 116 rfl ?_; refine wpList_run 116 rfl rfl _ (exec_bin .eql 23 _ (.tmp 114) (.tmp 115) rfl (rv ny) (.agg #[.bool false, .string ⟨#[]⟩, .string ⟨#[]⟩]) _ rfl rfl (rat_guard _ _ _ _ _) (H116.out _)) ?_; go_frame) | (refine wpList_dst 134 rfl ?_; refine wpList_run 134 rfl rfl _ (exec_load 23 (.tmp 4) rfl _ (.agg #[.bool y.neg, .string y.n, .string y.d]) rfl (run_load_part _ 23 _ 0 3 _ [.bool y.neg, .string y.n, .string y.d] _ HY.out (by simp) Tryz.underlying23 rfl size_api_Rat)) ?_; go_frame) | (refine wpList_dst 135 rfl ?_; refine wpList_run 135 rfl rfl _ (exec_load 23 (.tmp 4) rfl _ (.agg #[.bool y.neg, .string y.n, .string y.d]) rfl (run_load_part _ 23 _ 0 3 _ [.bool y.neg, .string y.n, .string y.d] _ HY.out (by simp) Tryz.underlying23 rfl size_api_Rat)) ?_; go_frame))
    refine (F136.out _).mono ?_
    rintro e w34 ⟨rfl, hb⟩
    replace HX := Lib.hid (HX.out.next hb)
    replace HY := Lib.hid (HY.out.next hb)
    replace HC := Lib.hid (HC.out.next hb)
    replace HW := Lib.hid (HW.out.trans (hb.mono HW.out.size))
    replace HE := Lib.hid (HE.out.next hb)
    replace HA7 := Lib.hid (HA7.out.next hb)
    replace HA8 := Lib.hid (HA8.out.next hb)
    replace HA9 := Lib.hid (HA9.out.next hb)
    clear hb
    go_wp2_with (first | (refine wpList_var rfl rfl 23 12 rfl rfl rfl (.tmp 137) rfl [.bool false, .string ByteArray.empty, .string ByteArray.empty] [.bool o.neg, .string o.n, .string o.d] zero_api_Rat rfl rfl rfl size_api_Rat (List.forall_mem_cons.2 ⟨rfl, (List.forall_mem_cons.2 ⟨rfl, (List.forall_mem_cons.2 ⟨rfl, fun _ h => nomatch h⟩)⟩)⟩) ?_; intro w35 HA12 HBw; replace HX := Lib.hid (HX.out.next HBw.out); replace HY := Lib.hid (HY.out.next HBw.out); replace HC := Lib.hid (HC.out.next HBw.out); replace HW := Lib.hid (HW.out.trans (HBw.out.mono HW.out.size)); replace HE := Lib.hid (HE.out.next HBw.out); replace HA7 := Lib.hid (HA7.out.next HBw.out); replace HA8 := Lib.hid (HA8.out.next HBw.out); replace HA9 := Lib.hid (HA9.out.next HBw.out); clear HBw))
    obtain ⟨g12, hg12⟩ : ∃ g, g = w34.heap.size := ⟨_, rfl⟩
    rw [← hg12] at HA12 ⊢
    clear hg12
    clear HY HC HA7 HA8
    refine late_begin (S := fun _ W => Blk W w.heap.size 23 [.bool x.neg, .string x.n, .string x.d] ∧ Blk W g9 23 [.bool x0.neg, .string x0.n, .string x0.d] ∧ Blk W g12 23 [.bool o.neg, .string o.n, .string o.d]) (by kernel_rfl) ?_
    have hX0 := HX.out.drew
    have hW0 := HW.out.drew
    have hE0 := HE.out.next (Below.refl _ _).drew
    have hA90 := HA9.out.drew
    have hA120 := HA12.out.drew
    generalize w35.drew = u0 at hX0 hW0 hE0 hA90 hA120 ⊢
    clear HX HW HE HA9 HA12
    refine late_one (i := 0) (by kernel_rfl) (op_callG (some 139) rfl rfl (by first | rfl | kernel_rfl) rfl Tryz.func9 (by kernel_rfl) (by kernel_rfl) #[] rfl (qsanity_any _ hE0) ?_)
    rintro e u1 ⟨rfl, hb⟩
    have hX1 := hX0.next hb
    have hW1 := hW0.trans (hb.mono hW0.size)
    have hE1 := hE0.next hb
    have hA91 := hA90.next hb
    have hA121 := hA120.next hb
    refine ⟨_, rfl, ⟨hX1, hA91, hA121⟩, ?_⟩
    go_frame
    clear hX0 hW0 hE0 hA90 hA120 hb
    refine late_take [] (i := 1) (some 140) rfl rfl (by first | rfl | kernel_rfl) (by kernel_rfl) (by kernel_rfl) (by kernel_rfl) (by kernel_rfl) (by kernel_rfl) (fun Ls W h => h) (.bool true) (fun _ _ _ h => h) (fun Ls W hl0 hW => exec_move (.tmp 139) rfl _ rfl) ⟨hX1, hA91, hA121⟩ ⟨hX1, hA91, hA121⟩ ?_
    go_frame
    refine late_take [] (i := 2) (some 141) rfl rfl (by first | rfl | kernel_rfl) (by kernel_rfl) (by kernel_rfl) (by kernel_rfl) (by kernel_rfl) (by kernel_rfl) (fun Ls W h => h) (.int .i64 0) (fun _ _ _ h => h) (fun Ls W hl0 hW => exec_move (.tmp 10) rfl _ rfl) ⟨hX1, hA91, hA121⟩ ⟨hX1, hA91, hA121⟩ ?_
    go_frame
    refine late_take [] (i := 3) (some 142) rfl rfl (by first | rfl | kernel_rfl) (by kernel_rfl) (by kernel_rfl) (by kernel_rfl) (by kernel_rfl) (by kernel_rfl) (fun Ls W h => h) (.bool true) (fun _ _ _ h => h) (fun Ls W hl0 hW => exec_eqT _ _ _ _ rfl .i64 (0) rfl rfl) ⟨hX1, hA91, hA121⟩ ⟨hX1, hA91, hA121⟩ ?_
    go_frame
    refine late_take [] (i := 4) (some 143) rfl rfl (by first | rfl | kernel_rfl) (by kernel_rfl) (by kernel_rfl) (by kernel_rfl) (by kernel_rfl) (by kernel_rfl) (fun Ls W h => h) (.bool true) (fun _ _ _ h => h) (fun Ls W hl0 hW => exec_pickT _ _ _ rfl (.bool true) rfl rfl) ⟨hX1, hA91, hA121⟩ ⟨hX1, hA91, hA121⟩ ?_
    go_frame
    refine late_take [] (i := 5) (some 144) rfl rfl (by first | rfl | kernel_rfl) (by kernel_rfl) (by kernel_rfl) (by kernel_rfl) (by kernel_rfl) (by kernel_rfl) (fun Ls W h => h) (.bool true) (fun _ _ _ h => h) (fun Ls W hl0 hW => exec_move (.tmp 143) rfl _ rfl) ⟨hX1, hA91, hA121⟩ ⟨hX1, hA91, hA121⟩ ?_
    go_frame
    refine late_take [] (i := 6) (some 145) rfl rfl (by first | rfl | kernel_rfl) (by kernel_rfl) (by kernel_rfl) (by kernel_rfl) (by kernel_rfl) (by kernel_rfl) (fun Ls W h => h) (.int .i64 0) (fun _ _ _ h => h) (fun Ls W hl0 hW => exec_move (.tmp 13) rfl _ rfl) ⟨hX1, hA91, hA121⟩ ⟨hX1, hA91, hA121⟩ ?_
    go_frame
    refine late_take [] (i := 7) (some 146) rfl rfl (by first | rfl | kernel_rfl) (by kernel_rfl) (by kernel_rfl) (by kernel_rfl) (by kernel_rfl) (by kernel_rfl) (fun Ls W h => h) (.bool true) (fun _ _ _ h => h) (fun Ls W hl0 hW => exec_eqT _ _ _ _ rfl .i64 (0) rfl rfl) ⟨hX1, hA91, hA121⟩ ⟨hX1, hA91, hA121⟩ ?_
    go_frame
    refine late_take [] (i := 8) (some 147) rfl rfl (by first | rfl | kernel_rfl) (by kernel_rfl) (by kernel_rfl) (by kernel_rfl) (by kernel_rfl) (by kernel_rfl) (fun Ls W h => h) (.bool true) (fun _ _ _ h => h) (fun Ls W hl0 hW => exec_pickT _ _ _ rfl (.bool true) rfl rfl) ⟨hX1, hA91, hA121⟩ ⟨hX1, hA91, hA121⟩ ?_
    go_frame
    refine late_take [] (i := 9) (some 148) rfl rfl (by first | rfl | kernel_rfl) (by kernel_rfl) (by kernel_rfl) (by kernel_rfl) (by kernel_rfl) (by kernel_rfl) (fun Ls W h => h) (.bool true) (fun _ _ _ h => h) (fun Ls W hl0 hW => exec_move (.tmp 147) rfl _ rfl) ⟨hX1, hA91, hA121⟩ ⟨hX1, hA91, hA121⟩ ?_
    go_frame
    refine late_take [] (i := 10) (some 149) rfl rfl (by first | rfl | kernel_rfl) (by kernel_rfl) (by kernel_rfl) (by kernel_rfl) (by kernel_rfl) (by kernel_rfl) (fun Ls W h => h) (rv x0) (fun _ _ _ h => h) (fun Ls W hl0 hW => exec_load 23 (.tmp 9) rfl _ (rv x0) rfl (run_load_part W 23 _ 0 3 _ [.bool x0.neg, .string x0.n, .string x0.d] _ hW.2.1 (by simp) Tryz.underlying23 rfl size_api_Rat)) ⟨hX1, hA91, hA121⟩ ⟨hX1, hA91, hA121⟩ ?_
    go_frame
    refine late_take [] (i := 11) (some 150) rfl rfl (by first | rfl | kernel_rfl) (by kernel_rfl) (by kernel_rfl) (by kernel_rfl) (by kernel_rfl) (by kernel_rfl) (fun Ls W h => h) (rv x) (fun _ _ _ h => h) (fun Ls W hl0 hW => exec_load 23 (.tmp 3) rfl _ (rv x) rfl (run_load_part W 23 _ 0 3 _ [.bool x.neg, .string x.n, .string x.d] _ hW.1 (by simp) Tryz.underlying23 rfl size_api_Rat)) ⟨hX1, hA91, hA121⟩ ⟨hX1, hA91, hA121⟩ ?_
    go_frame
    refine late_take [] (i := 12) (some 151) rfl rfl (by first | rfl | kernel_rfl) (by kernel_rfl) (by kernel_rfl) (by kernel_rfl) (by kernel_rfl) (by kernel_rfl) (fun Ls W h => h) (.agg #[.bool false, .string ⟨#[]⟩, .string ⟨#[]⟩]) (fun _ _ _ h => h) (fun Ls W hl0 hW => exec_build0 23 rfl _ (qr_nil _)) ⟨hX1, hA91, hA121⟩ ⟨hX1, hA91, hA121⟩ ?_
    go_frame
    refine late_one (i := 13) (by kernel_rfl) (op_callG (some 152) rfl rfl (by first | rfl | kernel_rfl) rfl Tryz.func24 (by kernel_rfl) (by kernel_rfl) #[rv x, .agg #[.bool false, .string ⟨#[]⟩, .string ⟨#[]⟩]] rfl (F71.out u1) ?_)
    rintro e u2 ⟨rfl, hb⟩
    have hX2 := hX1.next hb
    have hW2 := hW1.trans (hb.mono hW1.size)
    have hE2 := hE1.next hb
    have hA92 := hA91.next hb
    have hA122 := hA121.next hb
    refine ⟨_, rfl, ⟨hX2, hA92, hA122⟩, ?_⟩
    go_frame
    clear hX1 hW1 hE1 hA91 hA121 hb
    refine late_take [] (i := 14) (some 153) rfl rfl (by first | rfl | kernel_rfl) (by kernel_rfl) (by kernel_rfl) (by kernel_rfl) (by kernel_rfl) (by kernel_rfl) (fun Ls W h => h) (.bool true) (fun _ _ _ h => h) (fun Ls W hl0 hW => exec_bin .eql 23 _ _ _ rfl (rv x0) (rv x0) _ rfl rfl (rat_guard _ _ _ _ _) (run_eqRs _ _ _ _)) ⟨hX2, hA92, hA122⟩ ⟨hX2, hA92, hA122⟩ ?_
    go_frame
    refine late_take [] (i := 15) (some 154) rfl rfl (by first | rfl | kernel_rfl) (by kernel_rfl) (by kernel_rfl) (by kernel_rfl) (by kernel_rfl) (by kernel_rfl) (fun Ls W h => h) (.bool true) (fun _ _ _ h => h) (fun Ls W hl0 hW => exec_pickT _ _ _ rfl (.bool true) rfl rfl) ⟨hX2, hA92, hA122⟩ ⟨hX2, hA92, hA122⟩ ?_
    go_frame
    refine late_take [] (i := 16) (some 155) rfl rfl (by first | rfl | kernel_rfl) (by kernel_rfl) (by kernel_rfl) (by kernel_rfl) (by kernel_rfl) (by kernel_rfl) (fun Ls W h => h) (.bool true) (fun _ _ _ h => h) (fun Ls W hl0 hW => exec_move (.tmp 154) rfl _ rfl) ⟨hX2, hA92, hA122⟩ ⟨hX2, hA92, hA122⟩ ?_
    go_frame
    refine late_take [] (i := 17) (some 156) rfl rfl (by first | rfl | kernel_rfl) (by kernel_rfl) (by kernel_rfl) (by kernel_rfl) (by kernel_rfl) (by kernel_rfl) (fun Ls W h => h) (rv o) (fun _ _ _ h => h) (fun Ls W hl0 hW => exec_load 23 (.tmp 12) rfl _ (rv o) rfl (run_load_part W 23 _ 0 3 _ [.bool o.neg, .string o.n, .string o.d] _ hW.2.2 (by simp) Tryz.underlying23 rfl size_api_Rat)) ⟨hX2, hA92, hA122⟩ ⟨hX2, hA92, hA122⟩ ?_
    go_frame
    refine late_one (i := 18) (by kernel_rfl) (op_callG (some 157) rfl rfl (by first | rfl | kernel_rfl) rfl Tryz.func20 (by kernel_rfl) (by kernel_rfl) #[.int .i64 1] rfl (F157.out u2) ?_)
    rintro e u3 ⟨rfl, hb⟩
    have hX3 := hX2.next hb
    have hW3 := hW2.trans (hb.mono hW2.size)
    have hE3 := hE2.next hb
    have hA93 := hA92.next hb
    have hA123 := hA122.next hb
    refine ⟨_, rfl, ⟨hX3, hA93, hA123⟩, ?_⟩
    go_frame
    clear hX2 hW2 hE2 hA92 hA122 hb
    refine late_take [] (i := 19) (some 158) rfl rfl (by first | rfl | kernel_rfl) (by kernel_rfl) (by kernel_rfl) (by kernel_rfl) (by kernel_rfl) (by kernel_rfl) (fun Ls W h => h) (.bool true) (fun _ _ _ h => h) (fun Ls W hl0 hW => exec_bin .eql 23 _ _ _ rfl (rv o) (rv o) _ rfl rfl (rat_guard _ _ _ _ _) (run_eqRs _ _ _ _)) ⟨hX3, hA93, hA123⟩ ⟨hX3, hA93, hA123⟩ ?_
    go_frame
    refine late_take [] (i := 20) (some 159) rfl rfl (by first | rfl | kernel_rfl) (by kernel_rfl) (by kernel_rfl) (by kernel_rfl) (by kernel_rfl) (by kernel_rfl) (fun Ls W h => h) (.bool true) (fun _ _ _ h => h) (fun Ls W hl0 hW => exec_pickT _ _ _ rfl (.bool true) rfl rfl) ⟨hX3, hA93, hA123⟩ ⟨hX3, hA93, hA123⟩ ?_
    go_frame
    refine late_take [] (i := 21) (some 160) rfl rfl (by first | rfl | kernel_rfl) (by kernel_rfl) (by kernel_rfl) (by kernel_rfl) (by kernel_rfl) (by kernel_rfl) (fun Ls W h => h) (.bool true) (fun _ _ _ h => h) (fun Ls W hl0 hW => exec_move (.tmp 159) rfl _ rfl) ⟨hX3, hA93, hA123⟩ ⟨hX3, hA93, hA123⟩ ?_
    go_frame
    refine late_take [] (i := 22) (some 161) rfl rfl (by first | rfl | kernel_rfl) (by kernel_rfl) (by kernel_rfl) (by kernel_rfl) (by kernel_rfl) (by kernel_rfl) (fun Ls W h => h) (rv x0) (fun _ _ _ h => h) (fun Ls W hl0 hW => exec_load 23 (.tmp 9) rfl _ (rv x0) rfl (run_load_part W 23 _ 0 3 _ [.bool x0.neg, .string x0.n, .string x0.d] _ hW.2.1 (by simp) Tryz.underlying23 rfl size_api_Rat)) ⟨hX3, hA93, hA123⟩ ⟨hX3, hA93, hA123⟩ ?_
    go_frame
    refine late_one (i := 23) (by kernel_rfl) (op_callG (some 162) rfl rfl (by first | rfl | kernel_rfl) rfl Tryz.func18 (by kernel_rfl) (by kernel_rfl) #[rv x0] rfl (F162.out u3) ?_)
    rintro e u4 ⟨rfl, hb⟩
    have hX4 := hX3.next hb
    have hW4 := hW3.trans (hb.mono hW3.size)
    have hE4 := hE3.next hb
    have hA94 := hA93.next hb
    have hA124 := hA123.next hb
    refine ⟨_, rfl, ⟨hX4, hA94, hA124⟩, ?_⟩
    go_frame
    clear hX3 hW3 hE3 hA93 hA123 hb
    refine late_take [] (i := 24) (some 163) rfl rfl (by first | rfl | kernel_rfl) (by kernel_rfl) (by kernel_rfl) (by kernel_rfl) (by kernel_rfl) (by kernel_rfl) (fun Ls W h => h) (.bool true) (fun _ _ _ h => h) (fun Ls W hl0 hW => exec_pickT _ _ _ rfl (.bool true) rfl rfl) ⟨hX4, hA94, hA124⟩ ⟨hX4, hA94, hA124⟩ ?_
    go_frame
    refine late_take [] (i := 25) (some 164) rfl rfl (by first | rfl | kernel_rfl) (by kernel_rfl) (by kernel_rfl) (by kernel_rfl) (by kernel_rfl) (by kernel_rfl) (fun Ls W h => h) (.bool true) (fun _ _ _ h => h) (fun Ls W hl0 hW => exec_move (.tmp 163) rfl _ rfl) ⟨hX4, hA94, hA124⟩ ⟨hX4, hA94, hA124⟩ ?_
    go_frame
    refine late_take [] (i := 26) (some 165) rfl rfl (by first | rfl | kernel_rfl) (by kernel_rfl) (by kernel_rfl) (by kernel_rfl) (by kernel_rfl) (by kernel_rfl) (fun Ls W h => h) (rv x) (fun _ _ _ h => h) (fun Ls W hl0 hW => exec_load 23 (.tmp 3) rfl _ (rv x) rfl (run_load_part W 23 _ 0 3 _ [.bool x.neg, .string x.n, .string x.d] _ hW.1 (by simp) Tryz.underlying23 rfl size_api_Rat)) ⟨hX4, hA94, hA124⟩ ⟨hX4, hA94, hA124⟩ ?_
    go_frame
    refine late_take [] (i := 29) (some 168) rfl rfl (by first | rfl | kernel_rfl) (by kernel_rfl) (by kernel_rfl) (by kernel_rfl) (by kernel_rfl) (by kernel_rfl) (fun Ls W h => h) (rv x) (fun _ _ _ h => h) (fun Ls W hl0 hW => exec_load 23 (.tmp 3) rfl _ (rv x) rfl (run_load_part W 23 _ 0 3 _ [.bool x.neg, .string x.n, .string x.d] _ hW.1 (by simp) Tryz.underlying23 rfl size_api_Rat)) ⟨hX4, hA94, hA124⟩ ⟨hX4, hA94, hA124⟩ ?_
    go_frame
    refine late_one (i := 27) (by kernel_rfl) (op_callG (some 166) rfl rfl (by first | rfl | kernel_rfl) rfl Tryz.func20 (by kernel_rfl) (by kernel_rfl) #[.int .i64 (-1)] rfl (F166.out u4) ?_)
    rintro e u5 ⟨rfl, hb⟩
    have hX5 := hX4.next hb
    have hW5 := hW4.trans (hb.mono hW4.size)
    have hE5 := hE4.next hb
    have hA95 := hA94.next hb
    have hA125 := hA124.next hb
    refine ⟨_, rfl, ⟨hX5, hA95, hA125⟩, ?_⟩
    go_frame
    clear hX4 hW4 hE4 hA94 hA124 hb
    refine late_one (i := 28) (by kernel_rfl) (op_callG (some 167) rfl rfl (by first | rfl | kernel_rfl) rfl Tryz.func28 (by kernel_rfl) (by kernel_rfl) #[rv x, rv m1] rfl (F167.out u5) ?_)
    rintro e u6 ⟨rfl, hb⟩
    have hX6 := hX5.next hb
    have hW6 := hW5.trans (hb.mono hW5.size)
    have hE6 := hE5.next hb
    have hA96 := hA95.next hb
    have hA126 := hA125.next hb
    refine ⟨_, rfl, ⟨hX6, hA96, hA126⟩, ?_⟩
    go_frame
    clear hX5 hW5 hE5 hA95 hA125 hb
    refine late_one (i := 30) (by kernel_rfl) (op_callG (some 169) rfl rfl (by first | rfl | kernel_rfl) rfl Tryz.func22 (by kernel_rfl) (by kernel_rfl) #[rv x] rfl (F169.out u6) ?_)
    rintro e u7 ⟨rfl, hb⟩
    have hX7 := hX6.next hb
    have hW7 := hW6.trans (hb.mono hW6.size)
    have hE7 := hE6.next hb
    have hA97 := hA96.next hb
    have hA127 := hA126.next hb
    refine ⟨_, rfl, ⟨hX7, hA97, hA127⟩, ?_⟩
    go_frame
    clear hX6 hW6 hE6 hA96 hA126 hb
    refine late_take [] (i := 31) (some 170) rfl rfl (by first | rfl | kernel_rfl) (by kernel_rfl) (by kernel_rfl) (by kernel_rfl) (by kernel_rfl) (by kernel_rfl) (fun Ls W h => h) (.bool true) (fun _ _ _ h => h) (fun Ls W hl0 hW => exec_bin .eql 23 _ _ _ rfl (rv nx) (rv nx) _ rfl rfl (rat_guard _ _ _ _ _) (run_eqRs _ _ _ _)) ⟨hX7, hA97, hA127⟩ ⟨hX7, hA97, hA127⟩ ?_
    go_frame
    refine late_take [] (i := 32) (some 171) rfl rfl (by first | rfl | kernel_rfl) (by kernel_rfl) (by kernel_rfl) (by kernel_rfl) (by kernel_rfl) (by kernel_rfl) (fun Ls W h => h) (.bool true) (fun _ _ _ h => h) (fun Ls W hl0 hW => exec_pickT _ _ _ rfl (.bool true) rfl rfl) ⟨hX7, hA97, hA127⟩ ⟨hX7, hA97, hA127⟩ ?_
    go_frame
    refine late_take [] (i := 33) (some 6) rfl rfl (by first | rfl | kernel_rfl) (by kernel_rfl) (by kernel_rfl) (by kernel_rfl) (by kernel_rfl) (by kernel_rfl) (fun Ls W h => h) (.bool true) (fun _ _ _ h => h) (fun Ls W hl0 hW => exec_assign (.tmp 171) rfl _ rfl) ⟨hX7, hA97, hA127⟩ ⟨hX7, hA97, hA127⟩ ?_
    refine late_done (by kernel_rfl) ?_ _
    go_frame
    have HX := Lib.hid hX7
    have HW := Lib.hid hW7
    have HE := Lib.hid hE7
    have HA9 := Lib.hid hA97
    have HA12 := Lib.hid hA127
    clear hX7 hW7 hE7 hA97 hA127
    go_wp2
    go_ret
    exact ⟨rfl, HW.out⟩
end Go.Proofs.YtjfkmigaehcnbaaGreatDoor
