/- The walk of RatsAreOrdered, the whole. -/
import Derived.Test.YtibfmcohodhkbaaGreatDoorQ32b
import Derived.Deep.DeepCutAuto
namespace Go.Proofs.YtibfmcohodhkbaaGreatDoor
open Go.RowKit Hm Wm Wn

set_option maxRecDepth 1000000 in
set_option maxHeartbeats 6000000 in
theorem ord_in (x y z s t p q mn mx fi sb o : Rv) (c1 c2 c3 c64 c10 cm f k c kc c174 c182 : Int) (e : Bool) (w : World) (hE : Env w) (h18 : (∀ W, Calls Tryz.prog 6 #[.agg #[.bool x.neg, .string x.n, .string x.d], .int .i64 25] W fun e w' => e = .returned (.bool true) ∧ Below W.heap.size W w')) (h22 : (∀ W, Calls Tryz.prog 6 #[.agg #[.bool y.neg, .string y.n, .string y.d], .int .i64 25] W fun e w' => e = .returned (.bool true) ∧ Below W.heap.size W w')) (h27 : (∀ W, Calls Tryz.prog 6 #[.agg #[.bool z.neg, .string z.n, .string z.d], .int .i64 25] W fun e w' => e = .returned (.bool true) ∧ Below W.heap.size W w')) (h32 : (∀ W, Calls Tryz.prog 17 #[.agg #[.bool x.neg, .string x.n, .string x.d]] W fun e w' => e = .returned (.bool true) ∧ Below W.heap.size W w')) (h37 : (∀ W, Calls Tryz.prog 17 #[.agg #[.bool y.neg, .string y.n, .string y.d]] W fun e w' => e = .returned (.bool true) ∧ Below W.heap.size W w')) (h42 : (∀ W, Calls Tryz.prog 17 #[.agg #[.bool z.neg, .string z.n, .string z.d]] W fun e w' => e = .returned (.bool true) ∧ Below W.heap.size W w')) (h48 : (∀ W, Calls Tryz.prog 28 #[rv x, rv y] W fun e w' => e = .returned (.int .i64 c1) ∧ Below W.heap.size W w')) (h51 : (∀ W, Calls Tryz.prog 28 #[rv y, rv z] W fun e w' => e = .returned (.int .i64 c2) ∧ Below W.heap.size W w')) (h54 : (∀ W, Calls Tryz.prog 28 #[rv x, rv z] W fun e w' => e = .returned (.int .i64 c3) ∧ Below W.heap.size W w')) (h64 : (∀ W, Calls Tryz.prog 28 #[rv y, rv x] W fun e w' => e = .returned (.int .i64 c64) ∧ Below W.heap.size W w')) (h103 : (∀ W, Calls Tryz.prog 28 #[rv z, .agg #[.bool false, .string ⟨#[]⟩, .string ⟨#[]⟩]] W fun e w' => e = .returned (.int .i64 c10) ∧ Below W.heap.size W w')) (h106 : (∀ W, Calls Tryz.prog 22 #[rv x, rv z] W fun e w' => e = .returned (rv s) ∧ Below W.heap.size W w')) (h109 : (∀ W, Calls Tryz.prog 22 #[rv y, rv z] W fun e w' => e = .returned (rv t) ∧ Below W.heap.size W w')) (h110 : (∀ W, Calls Tryz.prog 28 #[rv s, rv t] W fun e w' => e = .returned (.int .i64 c1) ∧ Below W.heap.size W w')) (h116 : (∀ W, Calls Tryz.prog 26 #[rv x, rv z] W fun e w' => e = .returned (rv p) ∧ Below W.heap.size W w')) (h119 : (∀ W, Calls Tryz.prog 26 #[rv y, rv z] W fun e w' => e = .returned (rv q) ∧ Below W.heap.size W w')) (h120 : (∀ W, Calls Tryz.prog 28 #[rv p, rv q] W fun e w' => e = .returned (.int .i64 cm) ∧ Below W.heap.size W w')) (h128 : (∀ W, Calls Tryz.prog 30 #[rv x, rv y] W fun e w' => e = .returned (rv mn) ∧ Below W.heap.size W w')) (h131 : (∀ W, Calls Tryz.prog 32 #[rv x, rv y] W fun e w' => e = .returned (rv mx) ∧ Below W.heap.size W w')) (h160 : (∀ W, Calls Tryz.prog 12 #[rv x] W fun e w' => e = .returned (.tuple #[.int .i64 f, .int .i64 k]) ∧ Below W.heap.size W w')) (h165 : (∀ W, Calls Tryz.prog 14 #[rv x] W fun e w' => e = .returned (.tuple #[.int .i64 c, .int .i64 kc]) ∧ Below W.heap.size W w'))
    (h4 : (c1 = -1 ∧ c64 = 1 ∧ e = false ∧ c2 = -1 ∧ c3 = -1) ∨ (c1 = -1 ∧ c64 = 1 ∧ e = false ∧ c2 = 0 ∧ c3 = -1) ∨ (c1 = -1 ∧ c64 = 1 ∧ e = false ∧ c2 = 1 ∧ c3 = -1) ∨ (c1 = -1 ∧ c64 = 1 ∧ e = false ∧ c2 = 1 ∧ c3 = 0) ∨ (c1 = -1 ∧ c64 = 1 ∧ e = false ∧ c2 = 1 ∧ c3 = 1) ∨ (c1 = 0 ∧ c64 = 0 ∧ e = true ∧ c2 = -1 ∧ c3 = -1) ∨ (c1 = 0 ∧ c64 = 0 ∧ e = true ∧ c2 = 0 ∧ c3 = 0) ∨ (c1 = 0 ∧ c64 = 0 ∧ e = true ∧ c2 = 1 ∧ c3 = 1) ∨ (c1 = 1 ∧ c64 = -1 ∧ e = false ∧ c2 = 1 ∧ c3 = 1) ∨ (c1 = 1 ∧ c64 = -1 ∧ e = false ∧ c2 = 0 ∧ c3 = 1) ∨ (c1 = 1 ∧ c64 = -1 ∧ e = false ∧ c2 = -1 ∧ c3 = -1) ∨ (c1 = 1 ∧ c64 = -1 ∧ e = false ∧ c2 = -1 ∧ c3 = 0) ∨ (c1 = 1 ∧ c64 = -1 ∧ e = false ∧ c2 = -1 ∧ c3 = 1)) (h74 : ∀ W, (binOp .eql 23 (rv x) (rv y)).run Tryz.prog W = .ok (.bool e) W)
    (h123 : ∀ W, (binOp .mul 3 (.int .i64 c1) (.int .i64 c10)).run Tryz.prog W = .ok (.int .i64 cm) W)
    (h10 : ((c1 = -1 ∨ c1 = 0) ∧ x = mn ∧ y = mx) ∨ (c1 = 1 ∧ y = mn ∧ x = mx))
    (hh : k = 3 ∨ (k = 0 ∧ (∀ W, Calls Tryz.prog 18 #[.int .i64 f] W fun e w' => e = .returned (rv fi) ∧ Below W.heap.size W w') ∧ (∀ W, Calls Tryz.prog 28 #[rv fi, rv x] W fun e w' => e = .returned (.int .i64 c174) ∧ Below W.heap.size W w') ∧ (∀ W, Calls Tryz.prog 24 #[rv x, rv fi] W fun e w' => e = .returned (rv sb) ∧ Below W.heap.size W w') ∧ (∀ W, Calls Tryz.prog 18 #[.int .i64 1] W fun e w' => e = .returned (rv o) ∧ Below W.heap.size W w') ∧ (∀ W, Calls Tryz.prog 28 #[rv sb, rv o] W fun e w' => e = .returned (.int .i64 c182) ∧ Below W.heap.size W w') ∧ decide (0 < c174) = false ∧ decide (0 ≤ c182) = false ∧ (kc = 3 ∨ (kc = 0 ∧ (∀ W, (binOp .sub 3 (.int .i64 c) (.int .i64 f)).run Tryz.prog W = .ok (.int .i64 0) W) ∧ (∀ W, (binOp .eql 23 (rv fi) (rv x)).run Tryz.prog W = .ok (.bool true) W)) ∨ (kc = 0 ∧ (∀ W, (binOp .sub 3 (.int .i64 c) (.int .i64 f)).run Tryz.prog W = .ok (.int .i64 1) W) ∧ (∀ W, (binOp .neq 23 (rv fi) (rv x)).run Tryz.prog W = .ok (.bool true) W))))) : Calls Tryz.prog 5 #[.agg #[.bool x.neg, .string x.n, .string x.d], .agg #[.bool y.neg, .string y.n, .string y.d], .agg #[.bool z.neg, .string z.n, .string z.d]] w fun e w' => e = .returned (.bool true) ∧ Below w.heap.size w w' := by
  obtain ⟨W0, hW0, kx, ky, kz, kw⟩ := three_vars w 23 23 23 [.bool x.neg, .string x.n, .string x.d] [.bool y.neg, .string y.n, .string y.d] [.bool z.neg, .string z.n, .string z.d]
  have HX := Lib.hid kx
  have HY := Lib.hid ky
  have HC := Lib.hid kz
  have HW := Lib.hid kw
  have HE := Lib.hid (hE.next kw)
  have HE0 := Lib.hid hE
  clear kx ky kz kw hE
  have F18 := Lib.hid h18
  have F22 := Lib.hid h22
  have F27 := Lib.hid h27
  have F32 := Lib.hid h32
  have F37 := Lib.hid h37
  have F42 := Lib.hid h42
  have F48 := Lib.hid h48
  have F51 := Lib.hid h51
  have F54 := Lib.hid h54
  have F64 := Lib.hid h64
  have F103 := Lib.hid h103
  have F106 := Lib.hid h106
  have F109 := Lib.hid h109
  have F110 := Lib.hid h110
  have F116 := Lib.hid h116
  have F119 := Lib.hid h119
  have F120 := Lib.hid h120
  have F128 := Lib.hid h128
  have F131 := Lib.hid h131
  have F160 := Lib.hid h160
  have F165 := Lib.hid h165
  clear h18 h22 h27 h32 h37 h42 h48 h51 h54 h64 h103 h106 h109 h110 h116 h119 h120 h128 h131 h160 h165
  have N4 := Lib.hid h4
  have N74 := Lib.hid h74
  have N123 := Lib.hid h123
  have N10 := Lib.hid h10
  have NH := Lib.hid hh
  clear h4 h74 h123 h10 hh
  go_enter Tryz.func5, Tryz.ntmps5
  go_wp2_with fail
  try rw [← hW0]
  clear hW0
  go_wp2_with (first | (refine wpList_dst 17 rfl ?_; refine wpList_run 17 rfl rfl _ (exec_load 23 (.tmp 3) rfl _ (.agg #[.bool x.neg, .string x.n, .string x.d]) rfl (run_load_part _ 23 _ 0 3 _ [.bool x.neg, .string x.n, .string x.d] _ HX.out (by simp) Tryz.underlying23 rfl size_api_Rat)) ?_; go_frame))
  refine (F18.out _).mono ?_
  rintro e w1 ⟨rfl, hb⟩
  replace HX := Lib.hid (HX.out.next hb)
  replace HY := Lib.hid (HY.out.next hb)
  replace HC := Lib.hid (HC.out.next hb)
  replace HW := Lib.hid (HW.out.trans (hb.mono HW.out.size))
  replace HE := Lib.hid (HE.out.next hb)
  clear hb
  go_wp2_with (first | (refine wpList_dst 21 rfl ?_; refine wpList_runG 21 rfl rfl _ (exec_load 23 (.tmp 4) rfl _ (.agg #[.bool y.neg, .string y.n, .string y.d]) rfl (run_load_part _ 23 _ 0 3 _ [.bool y.neg, .string y.n, .string y.d] _ HY.out (by simp) Tryz.underlying23 rfl size_api_Rat)) ?_; go_frame))
  refine (F22.out _).mono ?_
  rintro e w2 ⟨rfl, hb⟩
  replace HX := Lib.hid (HX.out.next hb)
  replace HY := Lib.hid (HY.out.next hb)
  replace HC := Lib.hid (HC.out.next hb)
  replace HW := Lib.hid (HW.out.trans (hb.mono HW.out.size))
  replace HE := Lib.hid (HE.out.next hb)
  clear hb
  go_wp2_with (first | (refine wpList_dst 26 rfl ?_; refine wpList_runG 26 rfl rfl _ (exec_load 23 (.tmp 5) rfl _ (.agg #[.bool z.neg, .string z.n, .string z.d]) rfl (run_load_part _ 23 _ 0 3 _ [.bool z.neg, .string z.n, .string z.d] _ HC.out (by simp) Tryz.underlying23 rfl size_api_Rat)) ?_; go_frame))
  refine (F27.out _).mono ?_
  rintro e w3 ⟨rfl, hb⟩
  replace HX := Lib.hid (HX.out.next hb)
  replace HY := Lib.hid (HY.out.next hb)
  replace HC := Lib.hid (HC.out.next hb)
  replace HW := Lib.hid (HW.out.trans (hb.mono HW.out.size))
  replace HE := Lib.hid (HE.out.next hb)
  clear hb
  go_wp2_with (first | (refine wpList_dst 31 rfl ?_; refine wpList_runG 31 rfl rfl _ (exec_load 23 (.tmp 3) rfl _ (.agg #[.bool x.neg, .string x.n, .string x.d]) rfl (run_load_part _ 23 _ 0 3 _ [.bool x.neg, .string x.n, .string x.d] _ HX.out (by simp) Tryz.underlying23 rfl size_api_Rat)) ?_; go_frame))
  refine (F32.out _).mono ?_
  rintro e w4 ⟨rfl, hb⟩
  replace HX := Lib.hid (HX.out.next hb)
  replace HY := Lib.hid (HY.out.next hb)
  replace HC := Lib.hid (HC.out.next hb)
  replace HW := Lib.hid (HW.out.trans (hb.mono HW.out.size))
  replace HE := Lib.hid (HE.out.next hb)
  clear hb
  go_wp2_with (first | (refine wpList_dst 36 rfl ?_; refine wpList_runG 36 rfl rfl _ (exec_load 23 (.tmp 4) rfl _ (.agg #[.bool y.neg, .string y.n, .string y.d]) rfl (run_load_part _ 23 _ 0 3 _ [.bool y.neg, .string y.n, .string y.d] _ HY.out (by simp) Tryz.underlying23 rfl size_api_Rat)) ?_; go_frame))
  refine (F37.out _).mono ?_
  rintro e w5 ⟨rfl, hb⟩
  replace HX := Lib.hid (HX.out.next hb)
  replace HY := Lib.hid (HY.out.next hb)
  replace HC := Lib.hid (HC.out.next hb)
  replace HW := Lib.hid (HW.out.trans (hb.mono HW.out.size))
  replace HE := Lib.hid (HE.out.next hb)
  clear hb
  go_wp2_with (first | (refine wpList_dst 41 rfl ?_; refine wpList_runG 41 rfl rfl _ (exec_load 23 (.tmp 5) rfl _ (.agg #[.bool z.neg, .string z.n, .string z.d]) rfl (run_load_part _ 23 _ 0 3 _ [.bool z.neg, .string z.n, .string z.d] _ HC.out (by simp) Tryz.underlying23 rfl size_api_Rat)) ?_; go_frame))
  refine (F42.out _).mono ?_
  rintro e w6 ⟨rfl, hb⟩
  replace HX := Lib.hid (HX.out.next hb)
  replace HY := Lib.hid (HY.out.next hb)
  replace HC := Lib.hid (HC.out.next hb)
  replace HW := Lib.hid (HW.out.trans (hb.mono HW.out.size))
  replace HE := Lib.hid (HE.out.next hb)
  clear hb
  go_wp2_with fail
  refine late_begin (S := fun _ W => Blk W w.heap.size 23 [.bool x.neg, .string x.n, .string x.d] ∧ Blk W (w.heap.size + 1) 23 [.bool y.neg, .string y.n, .string y.d] ∧ Blk W (w.heap.size + 1 + 1) 23 [.bool z.neg, .string z.n, .string z.d]) (by kernel_rfl) ?_
  have hX0 := HX.out.drew
  have hY0 := HY.out.drew
  have hC0 := HC.out.drew
  have hW0 := HW.out.drew
  have hE0 := HE.out.next (Below.refl _ _).drew
  generalize w6.drew = u0 at hX0 hY0 hC0 hW0 hE0 ⊢
  clear HX HY HC HW HE
  refine late_take [] (i := 0) (some 46) rfl rfl (by first | rfl | kernel_rfl) (by kernel_rfl) (by kernel_rfl) (by kernel_rfl) (by kernel_rfl) (by kernel_rfl) (fun Ls W h => h) (rv x) (fun _ _ _ h => h) (fun Ls W hl0 hW => exec_load 23 (.tmp 3) rfl _ (rv x) rfl (run_load_part W 23 _ 0 3 _ [.bool x.neg, .string x.n, .string x.d] _ hW.1 (by simp) Tryz.underlying23 rfl size_api_Rat)) ⟨hX0, hY0, hC0⟩ ⟨hX0, hY0, hC0⟩ ?_
  go_frame
  refine late_take [] (i := 1) (some 47) rfl rfl (by first | rfl | kernel_rfl) (by kernel_rfl) (by kernel_rfl) (by kernel_rfl) (by kernel_rfl) (by kernel_rfl) (fun Ls W h => h) (rv y) (fun _ _ _ h => h) (fun Ls W hl0 hW => exec_load 23 (.tmp 4) rfl _ (rv y) rfl (run_load_part W 23 _ 0 3 _ [.bool y.neg, .string y.n, .string y.d] _ hW.2.1 (by simp) Tryz.underlying23 rfl size_api_Rat)) ⟨hX0, hY0, hC0⟩ ⟨hX0, hY0, hC0⟩ ?_
  go_frame
  refine late_take [] (i := 3) (some 49) rfl rfl (by first | rfl | kernel_rfl) (by kernel_rfl) (by kernel_rfl) (by kernel_rfl) (by kernel_rfl) (by kernel_rfl) (fun Ls W h => h) (rv y) (fun _ _ _ h => h) (fun Ls W hl0 hW => exec_load 23 (.tmp 4) rfl _ (rv y) rfl (run_load_part W 23 _ 0 3 _ [.bool y.neg, .string y.n, .string y.d] _ hW.2.1 (by simp) Tryz.underlying23 rfl size_api_Rat)) ⟨hX0, hY0, hC0⟩ ⟨hX0, hY0, hC0⟩ ?_
  go_frame
  refine late_take [] (i := 4) (some 50) rfl rfl (by first | rfl | kernel_rfl) (by kernel_rfl) (by kernel_rfl) (by kernel_rfl) (by kernel_rfl) (by kernel_rfl) (fun Ls W h => h) (rv z) (fun _ _ _ h => h) (fun Ls W hl0 hW => exec_load 23 (.tmp 5) rfl _ (rv z) rfl (run_load_part W 23 _ 0 3 _ [.bool z.neg, .string z.n, .string z.d] _ hW.2.2 (by simp) Tryz.underlying23 rfl size_api_Rat)) ⟨hX0, hY0, hC0⟩ ⟨hX0, hY0, hC0⟩ ?_
  go_frame
  refine late_take [] (i := 6) (some 52) rfl rfl (by first | rfl | kernel_rfl) (by kernel_rfl) (by kernel_rfl) (by kernel_rfl) (by kernel_rfl) (by kernel_rfl) (fun Ls W h => h) (rv x) (fun _ _ _ h => h) (fun Ls W hl0 hW => exec_load 23 (.tmp 3) rfl _ (rv x) rfl (run_load_part W 23 _ 0 3 _ [.bool x.neg, .string x.n, .string x.d] _ hW.1 (by simp) Tryz.underlying23 rfl size_api_Rat)) ⟨hX0, hY0, hC0⟩ ⟨hX0, hY0, hC0⟩ ?_
  go_frame
  refine late_take [] (i := 7) (some 53) rfl rfl (by first | rfl | kernel_rfl) (by kernel_rfl) (by kernel_rfl) (by kernel_rfl) (by kernel_rfl) (by kernel_rfl) (fun Ls W h => h) (rv z) (fun _ _ _ h => h) (fun Ls W hl0 hW => exec_load 23 (.tmp 5) rfl _ (rv z) rfl (run_load_part W 23 _ 0 3 _ [.bool z.neg, .string z.n, .string z.d] _ hW.2.2 (by simp) Tryz.underlying23 rfl size_api_Rat)) ⟨hX0, hY0, hC0⟩ ⟨hX0, hY0, hC0⟩ ?_
  go_frame
  refine late_one (i := 2) (by kernel_rfl) (op_callG (some 48) rfl rfl (by first | rfl | kernel_rfl) rfl Tryz.func28 (by kernel_rfl) (by kernel_rfl) #[rv x, rv y] rfl (F48.out u0) ?_)
  rintro e u1 ⟨rfl, hb⟩
  have hX1 := hX0.next hb
  have hY1 := hY0.next hb
  have hC1 := hC0.next hb
  have hW1 := hW0.trans (hb.mono hW0.size)
  have hE1 := hE0.next hb
  refine ⟨_, rfl, ⟨hX1, hY1, hC1⟩, ?_⟩
  go_frame
  clear hX0 hY0 hC0 hW0 hE0 hb
  refine late_one (i := 5) (by kernel_rfl) (op_callG (some 51) rfl rfl (by first | rfl | kernel_rfl) rfl Tryz.func28 (by kernel_rfl) (by kernel_rfl) #[rv y, rv z] rfl (F51.out u1) ?_)
  rintro e u2 ⟨rfl, hb⟩
  have hX2 := hX1.next hb
  have hY2 := hY1.next hb
  have hC2 := hC1.next hb
  have hW2 := hW1.trans (hb.mono hW1.size)
  have hE2 := hE1.next hb
  refine ⟨_, rfl, ⟨hX2, hY2, hC2⟩, ?_⟩
  go_frame
  clear hX1 hY1 hC1 hW1 hE1 hb
  refine late_one (i := 8) (by kernel_rfl) (op_callG (some 54) rfl rfl (by first | rfl | kernel_rfl) rfl Tryz.func28 (by kernel_rfl) (by kernel_rfl) #[rv x, rv z] rfl (F54.out u2) ?_)
  rintro e u3 ⟨rfl, hb⟩
  have hX3 := hX2.next hb
  have hY3 := hY2.next hb
  have hC3 := hC2.next hb
  have hW3 := hW2.trans (hb.mono hW2.size)
  have hE3 := hE2.next hb
  refine ⟨_, rfl, ⟨hX3, hY3, hC3⟩, ?_⟩
  go_frame
  clear hX2 hY2 hC2 hW2 hE2 hb
  refine late_take [] (i := 9) (some 7) rfl rfl (by first | rfl | kernel_rfl) (by kernel_rfl) (by kernel_rfl) (by kernel_rfl) (by kernel_rfl) (by kernel_rfl) (fun Ls W h => h) (.int .i64 c1) (fun _ _ _ h => h) (fun Ls W hl0 hW => exec_assign (.tmp 48) rfl _ rfl) ⟨hX3, hY3, hC3⟩ ⟨hX3, hY3, hC3⟩ ?_
  go_frame
  refine late_take [] (i := 10) (some 8) rfl rfl (by first | rfl | kernel_rfl) (by kernel_rfl) (by kernel_rfl) (by kernel_rfl) (by kernel_rfl) (by kernel_rfl) (fun Ls W h => h) (.int .i64 c2) (fun _ _ _ h => h) (fun Ls W hl0 hW => exec_assign (.tmp 51) rfl _ rfl) ⟨hX3, hY3, hC3⟩ ⟨hX3, hY3, hC3⟩ ?_
  go_frame
  refine late_take [] (i := 11) (some 9) rfl rfl (by first | rfl | kernel_rfl) (by kernel_rfl) (by kernel_rfl) (by kernel_rfl) (by kernel_rfl) (by kernel_rfl) (fun Ls W h => h) (.int .i64 c3) (fun _ _ _ h => h) (fun Ls W hl0 hW => exec_assign (.tmp 54) rfl _ rfl) ⟨hX3, hY3, hC3⟩ ⟨hX3, hY3, hC3⟩ ?_
  refine late_done (by kernel_rfl) ?_ _
  go_frame
  have HX := Lib.hid hX3
  have HY := Lib.hid hY3
  have HC := Lib.hid hC3
  have HW := Lib.hid hW3
  have HE := Lib.hid hE3
  clear hX3 hY3 hC3 hW3 hE3
  go_upto_region 4 with fail
  go_cut [100] (fun c wx => c = .bool false ∧ Blk wx w.heap.size 23 [.bool x.neg, .string x.n, .string x.d] ∧ Blk wx (w.heap.size + 1) 23 [.bool y.neg, .string y.n, .string y.d] ∧ Blk wx (w.heap.size + 1 + 1) 23 [.bool z.neg, .string z.n, .string z.d] ∧ Below w.heap.size w wx ∧ Env wx)
  case first =>
    rcases N4.out with ⟨rfl, rfl, rfl, rfl, rfl⟩ | ⟨rfl, rfl, rfl, rfl, rfl⟩ | ⟨rfl, rfl, rfl, rfl, rfl⟩ | ⟨rfl, rfl, rfl, rfl, rfl⟩ | ⟨rfl, rfl, rfl, rfl, rfl⟩ | ⟨rfl, rfl, rfl, rfl, rfl⟩ | ⟨rfl, rfl, rfl, rfl, rfl⟩ | ⟨rfl, rfl, rfl, rfl, rfl⟩ | ⟨rfl, rfl, rfl, rfl, rfl⟩ | ⟨rfl, rfl, rfl, rfl, rfl⟩ | ⟨rfl, rfl, rfl, rfl, rfl⟩ | ⟨rfl, rfl, rfl, rfl, rfl⟩ | ⟨rfl, rfl, rfl, rfl, rfl⟩
    all_goals
      go_wp2_with (first | (refine wpList_dst 62 rfl ?_; refine wpList_runG 62 rfl rfl _ (exec_load 23 (.tmp 4) rfl _ (.agg #[.bool y.neg, .string y.n, .string y.d]) rfl (run_load_part _ 23 _ 0 3 _ [.bool y.neg, .string y.n, .string y.d] _ HY.out (by simp) Tryz.underlying23 rfl size_api_Rat)) ?_; go_frame) | (refine wpList_dst 63 rfl ?_; refine wpList_runG 63 rfl rfl _ (exec_load 23 (.tmp 3) rfl _ (.agg #[.bool x.neg, .string x.n, .string x.d]) rfl (run_load_part _ 23 _ 0 3 _ [.bool x.neg, .string x.n, .string x.d] _ HX.out (by simp) Tryz.underlying23 rfl size_api_Rat)) ?_; go_frame))
      refine (F64.out _).mono ?_
      rintro e w7 ⟨rfl, hb⟩
      replace HX := Lib.hid (HX.out.next hb)
      replace HY := Lib.hid (HY.out.next hb)
      replace HC := Lib.hid (HC.out.next hb)
      replace HW := Lib.hid (HW.out.trans (hb.mono HW.out.size))
      replace HE := Lib.hid (HE.out.next hb)
      clear hb
      go_wp2_with (first | (refine wpList_dst 74 rfl ?_; refine wpList_runG 74 rfl rfl _ (exec_bin .eql 23 _ (.tmp 72) (.tmp 73) rfl (rv x) (rv y) _ rfl rfl (rat_guard _ _ _ _ _) (N74.out _)) ?_; go_frame) | (refine wpList_dst 72 rfl ?_; refine wpList_runG 72 rfl rfl _ (exec_load 23 (.tmp 3) rfl _ (.agg #[.bool x.neg, .string x.n, .string x.d]) rfl (run_load_part _ 23 _ 0 3 _ [.bool x.neg, .string x.n, .string x.d] _ HX.out (by simp) Tryz.underlying23 rfl size_api_Rat)) ?_; go_frame) | (refine wpList_dst 73 rfl ?_; refine wpList_runG 73 rfl rfl _ (exec_load 23 (.tmp 4) rfl _ (.agg #[.bool y.neg, .string y.n, .string y.d]) rfl (run_load_part _ 23 _ 0 3 _ [.bool y.neg, .string y.n, .string y.d] _ HY.out (by simp) Tryz.underlying23 rfl size_api_Rat)) ?_; go_frame))
      go_meet
      exact ⟨rfl, HX.out, HY.out, HC.out, HW.out, HE.out⟩
  case rest =>
    clear HX HY HC HW HE
    obtain ⟨rfl, kX, kY, kC, kW, kE⟩ := hcut
    have HX := Lib.hid kX
    have HY := Lib.hid kY
    have HC := Lib.hid kC
    have HW := Lib.hid kW
    have HE := Lib.hid kE
    clear kX kY kC kW kE
    go_upto_region 6 with fail
    rename_i K1 hK1
    exact ord_b x y z s t p q mn mx fi sb o c1 c2 c3 c10 cm f k c kc c174 c182 w _ HE0.out F103.out F106.out F109.out F110.out F116.out F119.out F120.out F128.out F131.out F160.out F165.out N123.out N10.out NH.out K1 hK1 HX.out HY.out HC.out HW.out HE.out _ _ _ _ _ _ _ _ _ _ _ _ _ _ _ _ _ _ _ _ _ _ _ _ _ _ _ _ _ _ _ _ _ _ _ _ _ _ _ _ _ _ _ _ _ _ _ _ _ _ _ _ _ _ _ _ _ _ _ _ _ _ _ _ _ _ _ _ _ _ _ _ _ _ _ _ _ _ _ _ _ _ _ _ _ _ _ _ _ _ _ _ _ _ _ _ _ _ _ _ _ _ _ _ _ _ _ _ _ _ _ _ _ _ _ _ _ _ _ _ _ _ _ _ _ _ _ _ _ _ _ _ _ _ _ _ _ _ _ _ _ _ _ _ _ _ _ _ _ _ _ _ _ _ _ _ _ _ _ _ _ _ _ _ _ _ _ _ _ _ _ _ _ _ _ _ _ _ _ _ _ _ _ _ _ _ _ _ _ _ _ _ _ _ _ _ _ _ _ _ _ _
end Go.Proofs.YtibfmcohodhkbaaGreatDoor
