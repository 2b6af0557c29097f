/- The walk of RatsAreOrdered, regions 6 to 11. -/
import Derived.Test.YtibfmcohodhkbaaGreatDoorQ32a
import Derived.Deep.DeepCutAuto
namespace Go.Proofs.YtibfmcohodhkbaaGreatDoor
open Go.RowKit Hm Wm Wn

set_option maxRecDepth 1000000 in
set_option maxHeartbeats 6000000 in
theorem ord_b (x y z s t p q mn mx fi sb o : Rv) (c1 c2 c3 c10 cm f k c kc c174 c182 : Int) (w wc : World) (hE : Env w) (h103 : (∀ W, Calls Tryz.prog 28 #[rv z, .agg #[.bool false, .string ⟨#[]⟩, .string ⟨#[]⟩]] W fun e w' => e = .returned (.int .i64 c10) ∧ Below W.heap.size W w')) (h106 : (∀ W, Calls Tryz.prog 22 #[rv x, rv z] W fun e w' => e = .returned (rv s) ∧ Below W.heap.size W w')) (h109 : (∀ W, Calls Tryz.prog 22 #[rv y, rv z] W fun e w' => e = .returned (rv t) ∧ Below W.heap.size W w')) (h110 : (∀ W, Calls Tryz.prog 28 #[rv s, rv t] W fun e w' => e = .returned (.int .i64 c1) ∧ Below W.heap.size W w')) (h116 : (∀ W, Calls Tryz.prog 26 #[rv x, rv z] W fun e w' => e = .returned (rv p) ∧ Below W.heap.size W w')) (h119 : (∀ W, Calls Tryz.prog 26 #[rv y, rv z] W fun e w' => e = .returned (rv q) ∧ Below W.heap.size W w')) (h120 : (∀ W, Calls Tryz.prog 28 #[rv p, rv q] W fun e w' => e = .returned (.int .i64 cm) ∧ Below W.heap.size W w')) (h128 : (∀ W, Calls Tryz.prog 30 #[rv x, rv y] W fun e w' => e = .returned (rv mn) ∧ Below W.heap.size W w')) (h131 : (∀ W, Calls Tryz.prog 32 #[rv x, rv y] W fun e w' => e = .returned (rv mx) ∧ Below W.heap.size W w')) (h160 : (∀ W, Calls Tryz.prog 12 #[rv x] W fun e w' => e = .returned (.tuple #[.int .i64 f, .int .i64 k]) ∧ Below W.heap.size W w')) (h165 : (∀ W, Calls Tryz.prog 14 #[rv x] W fun e w' => e = .returned (.tuple #[.int .i64 c, .int .i64 kc]) ∧ Below W.heap.size W w'))
    (h123 : ∀ W, (binOp .mul 3 (.int .i64 c1) (.int .i64 c10)).run Tryz.prog W = .ok (.int .i64 cm) W)
    (h10 : ((c1 = -1 ∨ c1 = 0) ∧ x = mn ∧ y = mx) ∨ (c1 = 1 ∧ y = mn ∧ x = mx))
    (hh : k = 3 ∨ (k = 0 ∧ (∀ W, Calls Tryz.prog 18 #[.int .i64 f] W fun e w' => e = .returned (rv fi) ∧ Below W.heap.size W w') ∧ (∀ W, Calls Tryz.prog 28 #[rv fi, rv x] W fun e w' => e = .returned (.int .i64 c174) ∧ Below W.heap.size W w') ∧ (∀ W, Calls Tryz.prog 24 #[rv x, rv fi] W fun e w' => e = .returned (rv sb) ∧ Below W.heap.size W w') ∧ (∀ W, Calls Tryz.prog 18 #[.int .i64 1] W fun e w' => e = .returned (rv o) ∧ Below W.heap.size W w') ∧ (∀ W, Calls Tryz.prog 28 #[rv sb, rv o] W fun e w' => e = .returned (.int .i64 c182) ∧ Below W.heap.size W w') ∧ decide (0 < c174) = false ∧ decide (0 ≤ c182) = false ∧ (kc = 3 ∨ (kc = 0 ∧ (∀ W, (binOp .sub 3 (.int .i64 c) (.int .i64 f)).run Tryz.prog W = .ok (.int .i64 0) W) ∧ (∀ W, (binOp .eql 23 (rv fi) (rv x)).run Tryz.prog W = .ok (.bool true) W)) ∨ (kc = 0 ∧ (∀ W, (binOp .sub 3 (.int .i64 c) (.int .i64 f)).run Tryz.prog W = .ok (.int .i64 1) W) ∧ (∀ W, (binOp .neq 23 (rv fi) (rv x)).run Tryz.prog W = .ok (.bool true) W))))) (K : Act → World → Prop) (hK : ∀ (av : Act) (wv : World), Code.wp Tryz.prog (dropS 5 law5) (bodyPost Tryz.prog Tryz.f5 (fun e w' => e = .returned (.bool true) ∧ Below w.heap.size w w')) av wv → K av wv) (kX : Blk wc w.heap.size 23 [.bool x.neg, .string x.n, .string x.d]) (kY : Blk wc (w.heap.size + 1) 23 [.bool y.neg, .string y.n, .string y.d]) (kC : Blk wc (w.heap.size + 1 + 1) 23 [.bool z.neg, .string z.n, .string z.d]) (kW : Below w.heap.size w wc) (kE : Env wc) (u17 u18 u19 u20 u21 u22 u23 u24 u25 u26 u27 u28 u29 u30 u31 u32 u33 u34 u35 u36 u37 u38 u39 u40 u41 u42 u43 u44 u45 u46 u47 u48 u49 u50 u51 u52 u53 u54 u55 u56 u57 u58 u59 u60 u61 u62 u63 u64 u65 u66 u67 u68 u69 u70 u71 u72 u73 u74 u75 u76 u77 u78 u79 u80 u81 u82 u83 u84 u85 u86 u87 u88 u89 u90 u91 u92 u93 u94 u95 u96 u97 u98 u99 u100 u101 u102 u103 u104 u105 u106 u107 u108 u109 u110 u111 u112 u113 u114 u115 u116 u117 u118 u119 u120 u121 u122 u123 u124 u125 u126 u127 u128 u129 u130 u131 u132 u133 u134 u135 u136 u137 u138 u139 u140 u141 u142 u143 u144 u145 u146 u147 u148 u149 u150 u151 u152 u153 u154 u155 u156 u157 u158 u159 u160 u161 u162 u163 u164 u165 u166 u167 u168 u169 u170 u171 u172 u173 u174 u175 u176 u177 u178 u179 u180 u181 u182 u183 u184 u185 u186 u187 u188 u189 u190 u191 u192 u193 u194 u195 u196 u197 u198 u199 u200 u201 u202 u203 u204 u205 u206 u207 u208 u209 u210 u211 u212 u213 u214 u215 u216 u217 u218 : Value) :
    Code.wp Tryz.prog (headS (dropS 4 law5)) (Exit.then K (bodyPost Tryz.prog Tryz.f5 (fun e w' => e = .returned (.bool true) ∧ Below w.heap.size w w'))) { tmps := #[.agg #[.bool x.neg, .string x.n, .string x.d], .agg #[.bool y.neg, .string y.n, .string y.d], .agg #[.bool z.neg, .string z.n, .string z.d], .pointer (some ⟨w.heap.size, 0, none⟩), .pointer (some ⟨(w.heap.size + 1), 0, none⟩), .pointer (some ⟨(w.heap.size + 1 + 1), 0, none⟩), .bool false, .int .i64 c1, .int .i64 c2, .int .i64 c3, undef, undef, undef, undef, undef, undef, undef, u17, u18, u19, u20, u21, u22, u23, u24, u25, u26, u27, u28, u29, u30, u31, u32, u33, u34, u35, u36, u37, u38, u39, u40, u41, u42, u43, u44, u45, u46, u47, u48, u49, u50, u51, u52, u53, u54, u55, u56, u57, u58, u59, u60, u61, u62, u63, u64, u65, u66, u67, u68, u69, u70, u71, u72, u73, u74, u75, u76, u77, u78, u79, u80, u81, u82, u83, u84, u85, u86, u87, u88, u89, u90, u91, u92, u93, u94, u95, u96, u97, u98, u99, u100, u101, u102, u103, u104, u105, u106, u107, u108, u109, u110, u111, u112, u113, u114, u115, u116, u117, u118, u119, u120, u121, u122, u123, u124, u125, u126, u127, u128, u129, u130, u131, u132, u133, u134, u135, u136, u137, u138, u139, u140, u141, u142, u143, u144, u145, u146, u147, u148, u149, u150, u151, u152, u153, u154, u155, u156, u157, u158, u159, u160, u161, u162, u163, u164, u165, u166, u167, u168, u169, u170, u171, u172, u173, u174, u175, u176, u177, u178, u179, u180, u181, u182, u183, u184, u185, u186, u187, u188, u189, u190, u191, u192, u193, u194, u195, u196, u197, u198, u199, u200, u201, u202, u203, u204, u205, u206, u207, u208, u209, u210, u211, u212, u213, u214, u215, u216, u217, u218], defers := [] } wc := by
  have HE0 := Lib.hid hE
  have HX := Lib.hid kX
  have HY := Lib.hid kY
  have HC := Lib.hid kC
  have HW := Lib.hid kW
  have HE := Lib.hid kE
  have F103 := Lib.hid h103
  have F106 := Lib.hid h106
  have F109 := Lib.hid h109
  have F110 := Lib.hid h110
  have F116 := Lib.hid h116
  have F119 := Lib.hid h119
  have F120 := Lib.hid h120
  have F128 := Lib.hid h128
  have F131 := Lib.hid h131
  have F160 := Lib.hid h160
  have F165 := Lib.hid h165
  have N123 := Lib.hid h123
  have N10 := Lib.hid h10
  have NH := Lib.hid hh
  clear hE h103 h106 h109 h110 h116 h119 h120 h128 h131 h160 h165 hh h123 h10 kX kY kC kW kE
  conv at hK in (dropS _ _) => whnf
  conv in (headS _) => whnf
  go_wp2_with (first | (refine wpList_dst 102 rfl ?_; refine wpList_run 102 rfl rfl _ (exec_build0 23 rfl _ (qr_nil _)) ?_; go_frame) | (refine wpList_dst 101 rfl ?_; refine wpList_run 101 rfl rfl _ (exec_load 23 (.tmp 5) rfl _ (.agg #[.bool z.neg, .string z.n, .string z.d]) rfl (run_load_part _ 23 _ 0 3 _ [.bool z.neg, .string z.n, .string z.d] _ HC.out (by simp) Tryz.underlying23 rfl size_api_Rat)) ?_; go_frame))
  refine (F103.out _).mono ?_
  rintro e w21 ⟨rfl, hb⟩
  replace HX := Lib.hid (HX.out.next hb)
  replace HY := Lib.hid (HY.out.next hb)
  replace HC := Lib.hid (HC.out.next hb)
  replace HW := Lib.hid (HW.out.trans (hb.mono HW.out.size))
  replace HE := Lib.hid (HE.out.next hb)
  clear hb
  go_wp2_with fail
  refine late_begin (S := fun _ W => Blk W w.heap.size 23 [.bool x.neg, .string x.n, .string x.d] ∧ Blk W (w.heap.size + 1) 23 [.bool y.neg, .string y.n, .string y.d] ∧ Blk W (w.heap.size + 1 + 1) 23 [.bool z.neg, .string z.n, .string z.d]) (by kernel_rfl) ?_
  have hX0 := HX.out.drew
  have hY0 := HY.out.drew
  have hC0 := HC.out.drew
  have hW0 := HW.out.drew
  have hE0 := HE.out.next (Below.refl _ _).drew
  generalize w21.drew = u0 at hX0 hY0 hC0 hW0 hE0 ⊢
  clear HX HY HC HW HE
  refine late_take [] (i := 0) (some 104) rfl rfl (by first | rfl | kernel_rfl) (by kernel_rfl) (by kernel_rfl) (by kernel_rfl) (by kernel_rfl) (by kernel_rfl) (fun Ls W h => h) (rv x) (fun _ _ _ h => h) (fun Ls W hl0 hW => exec_load 23 (.tmp 3) rfl _ (rv x) rfl (run_load_part W 23 _ 0 3 _ [.bool x.neg, .string x.n, .string x.d] _ hW.1 (by simp) Tryz.underlying23 rfl size_api_Rat)) ⟨hX0, hY0, hC0⟩ ⟨hX0, hY0, hC0⟩ ?_
  go_frame
  refine late_take [] (i := 1) (some 105) rfl rfl (by first | rfl | kernel_rfl) (by kernel_rfl) (by kernel_rfl) (by kernel_rfl) (by kernel_rfl) (by kernel_rfl) (fun Ls W h => h) (rv z) (fun _ _ _ h => h) (fun Ls W hl0 hW => exec_load 23 (.tmp 5) rfl _ (rv z) rfl (run_load_part W 23 _ 0 3 _ [.bool z.neg, .string z.n, .string z.d] _ hW.2.2 (by simp) Tryz.underlying23 rfl size_api_Rat)) ⟨hX0, hY0, hC0⟩ ⟨hX0, hY0, hC0⟩ ?_
  go_frame
  refine late_take [] (i := 3) (some 107) rfl rfl (by first | rfl | kernel_rfl) (by kernel_rfl) (by kernel_rfl) (by kernel_rfl) (by kernel_rfl) (by kernel_rfl) (fun Ls W h => h) (rv y) (fun _ _ _ h => h) (fun Ls W hl0 hW => exec_load 23 (.tmp 4) rfl _ (rv y) rfl (run_load_part W 23 _ 0 3 _ [.bool y.neg, .string y.n, .string y.d] _ hW.2.1 (by simp) Tryz.underlying23 rfl size_api_Rat)) ⟨hX0, hY0, hC0⟩ ⟨hX0, hY0, hC0⟩ ?_
  go_frame
  refine late_take [] (i := 4) (some 108) rfl rfl (by first | rfl | kernel_rfl) (by kernel_rfl) (by kernel_rfl) (by kernel_rfl) (by kernel_rfl) (by kernel_rfl) (fun Ls W h => h) (rv z) (fun _ _ _ h => h) (fun Ls W hl0 hW => exec_load 23 (.tmp 5) rfl _ (rv z) rfl (run_load_part W 23 _ 0 3 _ [.bool z.neg, .string z.n, .string z.d] _ hW.2.2 (by simp) Tryz.underlying23 rfl size_api_Rat)) ⟨hX0, hY0, hC0⟩ ⟨hX0, hY0, hC0⟩ ?_
  go_frame
  refine late_take [] (i := 7) (some 111) rfl rfl (by first | rfl | kernel_rfl) (by kernel_rfl) (by kernel_rfl) (by kernel_rfl) (by kernel_rfl) (by kernel_rfl) (fun Ls W h => h) (.int .i64 c1) (fun _ _ _ h => h) (fun Ls W hl0 hW => exec_move (.tmp 7) rfl _ rfl) ⟨hX0, hY0, hC0⟩ ⟨hX0, hY0, hC0⟩ ?_
  go_frame
  refine late_one (i := 2) (by kernel_rfl) (op_callG (some 106) rfl rfl (by first | rfl | kernel_rfl) rfl Tryz.func22 (by kernel_rfl) (by kernel_rfl) #[rv x, rv z] rfl (F106.out u0) ?_)
  rintro e u1 ⟨rfl, hb⟩
  have hX1 := hX0.next hb
  have hY1 := hY0.next hb
  have hC1 := hC0.next hb
  have hW1 := hW0.trans (hb.mono hW0.size)
  have hE1 := hE0.next hb
  refine ⟨_, rfl, ⟨hX1, hY1, hC1⟩, ?_⟩
  go_frame
  clear hX0 hY0 hC0 hW0 hE0 hb
  refine late_one (i := 5) (by kernel_rfl) (op_callG (some 109) rfl rfl (by first | rfl | kernel_rfl) rfl Tryz.func22 (by kernel_rfl) (by kernel_rfl) #[rv y, rv z] rfl (F109.out u1) ?_)
  rintro e u2 ⟨rfl, hb⟩
  have hX2 := hX1.next hb
  have hY2 := hY1.next hb
  have hC2 := hC1.next hb
  have hW2 := hW1.trans (hb.mono hW1.size)
  have hE2 := hE1.next hb
  refine ⟨_, rfl, ⟨hX2, hY2, hC2⟩, ?_⟩
  go_frame
  clear hX1 hY1 hC1 hW1 hE1 hb
  refine late_one (i := 6) (by kernel_rfl) (op_callG (some 110) rfl rfl (by first | rfl | kernel_rfl) rfl Tryz.func28 (by kernel_rfl) (by kernel_rfl) #[rv s, rv t] rfl (F110.out u2) ?_)
  rintro e u3 ⟨rfl, hb⟩
  have hX3 := hX2.next hb
  have hY3 := hY2.next hb
  have hC3 := hC2.next hb
  have hW3 := hW2.trans (hb.mono hW2.size)
  have hE3 := hE2.next hb
  refine ⟨_, rfl, ⟨hX3, hY3, hC3⟩, ?_⟩
  go_frame
  clear hX2 hY2 hC2 hW2 hE2 hb
  refine late_take [] (i := 8) (some 112) rfl rfl (by first | rfl | kernel_rfl) (by kernel_rfl) (by kernel_rfl) (by kernel_rfl) (by kernel_rfl) (by kernel_rfl) (fun Ls W h => h) (.bool false) (fun _ _ _ h => h) (fun Ls W hl0 hW => exec_neqT _ _ _ _ rfl .i64 (c1) rfl rfl) ⟨hX3, hY3, hC3⟩ ⟨hX3, hY3, hC3⟩ ?_
  go_frame
  refine late_take [] (i := 9) (some 113) rfl rfl (by first | rfl | kernel_rfl) (by kernel_rfl) (by kernel_rfl) (by kernel_rfl) (by kernel_rfl) (by kernel_rfl) (fun Ls W h => h) (.bool false) (fun _ _ _ h => h) (fun Ls W hl0 hW => exec_move (.tmp 112) rfl _ rfl) ⟨hX3, hY3, hC3⟩ ⟨hX3, hY3, hC3⟩ ?_
  go_frame
  refine late_take [] (i := 10) (some 114) rfl rfl (by first | rfl | kernel_rfl) (by kernel_rfl) (by kernel_rfl) (by kernel_rfl) (by kernel_rfl) (by kernel_rfl) (fun Ls W h => h) (rv x) (fun _ _ _ h => h) (fun Ls W hl0 hW => exec_load 23 (.tmp 3) rfl _ (rv x) rfl (run_load_part W 23 _ 0 3 _ [.bool x.neg, .string x.n, .string x.d] _ hW.1 (by simp) Tryz.underlying23 rfl size_api_Rat)) ⟨hX3, hY3, hC3⟩ ⟨hX3, hY3, hC3⟩ ?_
  go_frame
  refine late_take [] (i := 11) (some 115) rfl rfl (by first | rfl | kernel_rfl) (by kernel_rfl) (by kernel_rfl) (by kernel_rfl) (by kernel_rfl) (by kernel_rfl) (fun Ls W h => h) (rv z) (fun _ _ _ h => h) (fun Ls W hl0 hW => exec_load 23 (.tmp 5) rfl _ (rv z) rfl (run_load_part W 23 _ 0 3 _ [.bool z.neg, .string z.n, .string z.d] _ hW.2.2 (by simp) Tryz.underlying23 rfl size_api_Rat)) ⟨hX3, hY3, hC3⟩ ⟨hX3, hY3, hC3⟩ ?_
  go_frame
  refine late_take [] (i := 13) (some 117) rfl rfl (by first | rfl | kernel_rfl) (by kernel_rfl) (by kernel_rfl) (by kernel_rfl) (by kernel_rfl) (by kernel_rfl) (fun Ls W h => h) (rv y) (fun _ _ _ h => h) (fun Ls W hl0 hW => exec_load 23 (.tmp 4) rfl _ (rv y) rfl (run_load_part W 23 _ 0 3 _ [.bool y.neg, .string y.n, .string y.d] _ hW.2.1 (by simp) Tryz.underlying23 rfl size_api_Rat)) ⟨hX3, hY3, hC3⟩ ⟨hX3, hY3, hC3⟩ ?_
  go_frame
  refine late_take [] (i := 14) (some 118) rfl rfl (by first | rfl | kernel_rfl) (by kernel_rfl) (by kernel_rfl) (by kernel_rfl) (by kernel_rfl) (by kernel_rfl) (fun Ls W h => h) (rv z) (fun _ _ _ h => h) (fun Ls W hl0 hW => exec_load 23 (.tmp 5) rfl _ (rv z) rfl (run_load_part W 23 _ 0 3 _ [.bool z.neg, .string z.n, .string z.d] _ hW.2.2 (by simp) Tryz.underlying23 rfl size_api_Rat)) ⟨hX3, hY3, hC3⟩ ⟨hX3, hY3, hC3⟩ ?_
  go_frame
  refine late_take [] (i := 17) (some 121) rfl rfl (by first | rfl | kernel_rfl) (by kernel_rfl) (by kernel_rfl) (by kernel_rfl) (by kernel_rfl) (by kernel_rfl) (fun Ls W h => h) (.int .i64 c1) (fun _ _ _ h => h) (fun Ls W hl0 hW => exec_move (.tmp 7) rfl _ rfl) ⟨hX3, hY3, hC3⟩ ⟨hX3, hY3, hC3⟩ ?_
  go_frame
  refine late_take [] (i := 18) (some 122) rfl rfl (by first | rfl | kernel_rfl) (by kernel_rfl) (by kernel_rfl) (by kernel_rfl) (by kernel_rfl) (by kernel_rfl) (fun Ls W h => h) (.int .i64 c10) (fun _ _ _ h => h) (fun Ls W hl0 hW => exec_move (.tmp 10) rfl _ rfl) ⟨hX3, hY3, hC3⟩ ⟨hX3, hY3, hC3⟩ ?_
  go_frame
  refine late_take [] (i := 19) (some 123) rfl rfl (by first | rfl | kernel_rfl) (by kernel_rfl) (by kernel_rfl) (by kernel_rfl) (by kernel_rfl) (by kernel_rfl) (fun Ls W h => h) (.int .i64 cm) (fun _ _ _ h => h) (fun Ls W hl0 hW => exec_bin .mul 3 _ (.tmp 121) (.tmp 122) rfl (.int .i64 c1) (.int .i64 c10) _ rfl rfl rfl (N123.out _)) ⟨hX3, hY3, hC3⟩ ⟨hX3, hY3, hC3⟩ ?_
  go_frame
  refine late_one (i := 12) (by kernel_rfl) (op_callG (some 116) rfl rfl (by first | rfl | kernel_rfl) rfl Tryz.func26 (by kernel_rfl) (by kernel_rfl) #[rv x, rv z] rfl (F116.out u3) ?_)
  rintro e u4 ⟨rfl, hb⟩
  have hX4 := hX3.next hb
  have hY4 := hY3.next hb
  have hC4 := hC3.next hb
  have hW4 := hW3.trans (hb.mono hW3.size)
  have hE4 := hE3.next hb
  refine ⟨_, rfl, ⟨hX4, hY4, hC4⟩, ?_⟩
  go_frame
  clear hX3 hY3 hC3 hW3 hE3 hb
  refine late_one (i := 15) (by kernel_rfl) (op_callG (some 119) rfl rfl (by first | rfl | kernel_rfl) rfl Tryz.func26 (by kernel_rfl) (by kernel_rfl) #[rv y, rv z] rfl (F119.out u4) ?_)
  rintro e u5 ⟨rfl, hb⟩
  have hX5 := hX4.next hb
  have hY5 := hY4.next hb
  have hC5 := hC4.next hb
  have hW5 := hW4.trans (hb.mono hW4.size)
  have hE5 := hE4.next hb
  refine ⟨_, rfl, ⟨hX5, hY5, hC5⟩, ?_⟩
  go_frame
  clear hX4 hY4 hC4 hW4 hE4 hb
  refine late_one (i := 16) (by kernel_rfl) (op_callG (some 120) rfl rfl (by first | rfl | kernel_rfl) rfl Tryz.func28 (by kernel_rfl) (by kernel_rfl) #[rv p, rv q] rfl (F120.out u5) ?_)
  rintro e u6 ⟨rfl, hb⟩
  have hX6 := hX5.next hb
  have hY6 := hY5.next hb
  have hC6 := hC5.next hb
  have hW6 := hW5.trans (hb.mono hW5.size)
  have hE6 := hE5.next hb
  refine ⟨_, rfl, ⟨hX6, hY6, hC6⟩, ?_⟩
  go_frame
  clear hX5 hY5 hC5 hW5 hE5 hb
  refine late_take [] (i := 20) (some 124) rfl rfl (by first | rfl | kernel_rfl) (by kernel_rfl) (by kernel_rfl) (by kernel_rfl) (by kernel_rfl) (by kernel_rfl) (fun Ls W h => h) (.bool false) (fun _ _ _ h => h) (fun Ls W hl0 hW => exec_neqT _ _ _ _ rfl .i64 (cm) rfl rfl) ⟨hX6, hY6, hC6⟩ ⟨hX6, hY6, hC6⟩ ?_
  go_frame
  refine late_take [] (i := 21) (some 125) rfl rfl (by first | rfl | kernel_rfl) (by kernel_rfl) (by kernel_rfl) (by kernel_rfl) (by kernel_rfl) (by kernel_rfl) (fun Ls W h => h) (.bool false) (fun _ _ _ h => h) (fun Ls W hl0 hW => exec_pickF _ _ _ rfl (.bool false) rfl rfl) ⟨hX6, hY6, hC6⟩ ⟨hX6, hY6, hC6⟩ ?_
  refine late_done (by kernel_rfl) ?_ _
  go_frame
  have HX := Lib.hid hX6
  have HY := Lib.hid hY6
  have HC := Lib.hid hC6
  have HW := Lib.hid hW6
  have HE := Lib.hid hE6
  clear hX6 hY6 hC6 hW6 hE6
  go_wp2_with fail
  refine late_begin (S := fun _ W => Blk W w.heap.size 23 [.bool x.neg, .string x.n, .string x.d] ∧ Blk W (w.heap.size + 1) 23 [.bool y.neg, .string y.n, .string y.d] ∧ Blk W (w.heap.size + 1 + 1) 23 [.bool z.neg, .string z.n, .string z.d]) (by kernel_rfl) ?_
  have hX0 := HX.out.drew
  have hY0 := HY.out.drew
  have hC0 := HC.out.drew
  have hW0 := HW.out.drew
  have hE0 := HE.out.next (Below.refl _ _).drew
  generalize u6.drew = u0 at hX0 hY0 hC0 hW0 hE0 ⊢
  clear HX HY HC HW HE
  refine late_take [] (i := 0) (some 126) rfl rfl (by first | rfl | kernel_rfl) (by kernel_rfl) (by kernel_rfl) (by kernel_rfl) (by kernel_rfl) (by kernel_rfl) (fun Ls W h => h) (rv x) (fun _ _ _ h => h) (fun Ls W hl0 hW => exec_load 23 (.tmp 3) rfl _ (rv x) rfl (run_load_part W 23 _ 0 3 _ [.bool x.neg, .string x.n, .string x.d] _ hW.1 (by simp) Tryz.underlying23 rfl size_api_Rat)) ⟨hX0, hY0, hC0⟩ ⟨hX0, hY0, hC0⟩ ?_
  go_frame
  refine late_take [] (i := 1) (some 127) rfl rfl (by first | rfl | kernel_rfl) (by kernel_rfl) (by kernel_rfl) (by kernel_rfl) (by kernel_rfl) (by kernel_rfl) (fun Ls W h => h) (rv y) (fun _ _ _ h => h) (fun Ls W hl0 hW => exec_load 23 (.tmp 4) rfl _ (rv y) rfl (run_load_part W 23 _ 0 3 _ [.bool y.neg, .string y.n, .string y.d] _ hW.2.1 (by simp) Tryz.underlying23 rfl size_api_Rat)) ⟨hX0, hY0, hC0⟩ ⟨hX0, hY0, hC0⟩ ?_
  go_frame
  refine late_take [] (i := 3) (some 129) rfl rfl (by first | rfl | kernel_rfl) (by kernel_rfl) (by kernel_rfl) (by kernel_rfl) (by kernel_rfl) (by kernel_rfl) (fun Ls W h => h) (rv x) (fun _ _ _ h => h) (fun Ls W hl0 hW => exec_load 23 (.tmp 3) rfl _ (rv x) rfl (run_load_part W 23 _ 0 3 _ [.bool x.neg, .string x.n, .string x.d] _ hW.1 (by simp) Tryz.underlying23 rfl size_api_Rat)) ⟨hX0, hY0, hC0⟩ ⟨hX0, hY0, hC0⟩ ?_
  go_frame
  refine late_take [] (i := 4) (some 130) rfl rfl (by first | rfl | kernel_rfl) (by kernel_rfl) (by kernel_rfl) (by kernel_rfl) (by kernel_rfl) (by kernel_rfl) (fun Ls W h => h) (rv y) (fun _ _ _ h => h) (fun Ls W hl0 hW => exec_load 23 (.tmp 4) rfl _ (rv y) rfl (run_load_part W 23 _ 0 3 _ [.bool y.neg, .string y.n, .string y.d] _ hW.2.1 (by simp) Tryz.underlying23 rfl size_api_Rat)) ⟨hX0, hY0, hC0⟩ ⟨hX0, hY0, hC0⟩ ?_
  go_frame
  have hlo : w.heap.size + 1 + 1 < u0.heap.size := hC0.lt
  refine late_ccaa 2 5 6 7 128 131 11 12 (by decide) (by decide) (by decide) (by decide) (by decide) (by decide) (by decide) (by decide) (by decide) (by decide) (by decide) (by decide) rfl rfl rfl rfl rfl rfl rfl rfl (fun _ => rfl) (fun _ => rfl) (fun _ => rfl) (fun _ => rfl) rfl rfl 23 rfl rfl Tryz.func30 (by kernel_rfl) (by kernel_rfl) Tryz.func32 (by kernel_rfl) (by kernel_rfl) #[rv x, rv y] #[rv x, rv y] (rv mn) (rv mx) (fun a b c => by cases a <;> cases b <;> cases c <;> rfl) (fun a b c => by cases a <;> cases b <;> cases c <;> rfl) [.bool false, .string ByteArray.empty, .string ByteArray.empty] qr_zero (fun W => Blk W w.heap.size 23 [.bool x.neg, .string x.n, .string x.d] ∧ Blk W (w.heap.size + 1) 23 [.bool y.neg, .string y.n, .string y.d] ∧ Blk W (w.heap.size + 1 + 1) 23 [.bool z.neg, .string z.n, .string z.d] ∧ Below w.heap.size w W ∧ Env W) (fun W W' h hb => ⟨h.1.next hb, h.2.1.next hb, h.2.2.1.next hb, h.2.2.2.1.trans (hb.mono h.2.2.2.1.size), h.2.2.2.2.next hb⟩) (fun l W h => ⟨h.1, h.2.1, h.2.2.1⟩) (fun W _ => F128.out W) (fun W _ => F131.out W) (by kernel_rfl) ⟨hX0, hY0, hC0, hW0, hE0⟩ ?_
  intro g11 g12 u1 hinv hA111 hA121 hg hg11 hg12 hbw
  obtain ⟨hX1, hY1, hC1, hW1, hE1⟩ := hinv
  go_frame
  clear hX0 hY0 hC0 hW0 hE0 hbw
  refine late_one (i := 8) (by kernel_rfl) (op_store_all rfl rfl rfl 23 (.tmp 11) (.tmp 128) rfl (g11) _ [.bool false, .string ⟨#[]⟩, .string ⟨#[]⟩] [.bool mn.neg, .string mn.n, .string mn.d] rfl rfl hA111 rfl qr_size (List.forall_mem_cons.2 ⟨rfl, (List.forall_mem_cons.2 ⟨rfl, (List.forall_mem_cons.2 ⟨rfl, fun _ h => nomatch h⟩)⟩)⟩) ?_)
  intro w9 hk9 ho9
  have hX2 := ho9.blk hX1 (by omega)
  have hY2 := ho9.blk hY1 (by omega)
  have hC2 := ho9.blk hC1 (by omega)
  have hW2 := hW1.trans (ho9.below (by omega))
  have hE2 := HE0.out.next (hW1.trans (ho9.below (by omega)))
  have hA112 := hk9
  have hA122 := ho9.blk hA121 (by omega)
  refine ⟨⟨hX2, hY2, hC2⟩, ?_⟩
  go_frame
  clear hX1 hY1 hC1 hW1 hE1 hA111 hA121 hk9 ho9
  refine late_one (i := 9) (by kernel_rfl) (op_store_all rfl rfl rfl 23 (.tmp 12) (.tmp 131) rfl (g12) _ [.bool false, .string ⟨#[]⟩, .string ⟨#[]⟩] [.bool mx.neg, .string mx.n, .string mx.d] rfl rfl hA122 rfl qr_size (List.forall_mem_cons.2 ⟨rfl, (List.forall_mem_cons.2 ⟨rfl, (List.forall_mem_cons.2 ⟨rfl, fun _ h => nomatch h⟩)⟩)⟩) ?_)
  intro w9 hk9 ho9
  have hX3 := ho9.blk hX2 (by omega)
  have hY3 := ho9.blk hY2 (by omega)
  have hC3 := ho9.blk hC2 (by omega)
  have hW3 := hW2.trans (ho9.below (by omega))
  have hE3 := HE0.out.next (hW2.trans (ho9.below (by omega)))
  have hA113 := ho9.blk hA112 (by omega)
  have hA123 := hk9
  refine ⟨⟨hX3, hY3, hC3⟩, ?_⟩
  refine late_done (by kernel_rfl) ?_ _
  go_frame
  clear hX2 hY2 hC2 hW2 hE2 hA112 hA122 hk9 ho9
  have HX := Lib.hid hX3
  have HY := Lib.hid hY3
  have HC := Lib.hid hC3
  have HW := Lib.hid hW3
  have HE := Lib.hid hE3
  have HA11 := Lib.hid hA113
  have HA12 := Lib.hid hA123
  clear hX3 hY3 hC3 hW3 hE3 hA113 hA123
  clear hlo hg hg11 hg12
  go_upto_region 10 with fail
  go_cut [157] (fun c wx => c = .bool false ∧ Blk wx w.heap.size 23 [.bool x.neg, .string x.n, .string x.d] ∧ Blk wx (w.heap.size + 1) 23 [.bool y.neg, .string y.n, .string y.d] ∧ Blk wx (w.heap.size + 1 + 1) 23 [.bool z.neg, .string z.n, .string z.d] ∧ Below w.heap.size w wx ∧ Env wx)
  case first =>
    rcases N10.out with ⟨rfl | rfl, rfl, rfl⟩ | ⟨rfl, rfl, rfl⟩
    · refine wp_region_lit ?_
      have hW := (And.intro HX.out (And.intro HY.out (And.intro HC.out (And.intro HA11.out HA12.out))))
      refine wpList_run 132 rfl rfl (.int .i64 (-1)) (exec_move (.tmp 7) rfl _ rfl) ?_
      go_frame
      refine wpList_run 133 rfl rfl (.bool true) (exec_leqI _ _ _ _ rfl .i64 (-1) 0 true rfl rfl rfl) ?_
      go_frame
      refine wpList_run 134 rfl rfl (.bool true) (exec_move (.tmp 133) rfl _ rfl) ?_
      go_frame
      refine wpList_runG 135 rfl (by first | rfl | kernel_rfl) (rv x) (exec_load 23 (.tmp 11) rfl _ (rv x) rfl (run_load_part _ 23 _ 0 3 _ [.bool x.neg, .string x.n, .string x.d] _ hW.2.2.2.1 (by simp) Tryz.underlying23 rfl size_api_Rat)) ?_
      go_frame
      refine wpList_runG 136 rfl (by first | rfl | kernel_rfl) (rv x) (exec_load 23 (.tmp 3) rfl _ (rv x) rfl (run_load_part _ 23 _ 0 3 _ [.bool x.neg, .string x.n, .string x.d] _ hW.1 (by simp) Tryz.underlying23 rfl size_api_Rat)) ?_
      go_frame
      refine wpList_runG 137 rfl (by first | rfl | kernel_rfl) (.bool false) (exec_bin .neq 23 _ _ _ rfl (rv x) (rv x) _ rfl rfl (rat_guardN _ _ _ _ _) (run_sameR x _)) ?_
      go_frame
      refine wpList_runG 138 rfl (by first | rfl | kernel_rfl) (.bool false) (exec_move (.tmp 137) rfl _ rfl) ?_
      go_frame
      refine wpList_runG 139 rfl (by first | rfl | kernel_rfl) (rv y) (exec_load 23 (.tmp 12) rfl _ (rv y) rfl (run_load_part _ 23 _ 0 3 _ [.bool y.neg, .string y.n, .string y.d] _ hW.2.2.2.2 (by simp) Tryz.underlying23 rfl size_api_Rat)) ?_
      go_frame
      refine wpList_runG 140 rfl (by first | rfl | kernel_rfl) (rv y) (exec_load 23 (.tmp 4) rfl _ (rv y) rfl (run_load_part _ 23 _ 0 3 _ [.bool y.neg, .string y.n, .string y.d] _ hW.2.1 (by simp) Tryz.underlying23 rfl size_api_Rat)) ?_
      go_frame
      refine wpList_runG 141 rfl (by first | rfl | kernel_rfl) (.bool false) (exec_bin .neq 23 _ _ _ rfl (rv y) (rv y) _ rfl rfl (rat_guardN _ _ _ _ _) (run_sameR y _)) ?_
      go_frame
      refine wpList_runG 142 rfl (by first | rfl | kernel_rfl) (.bool false) (exec_pickF _ _ _ rfl (.bool false) rfl rfl) ?_
      go_frame
      refine wpList_run 143 rfl rfl (.bool false) (exec_pickT _ _ _ rfl (.bool false) rfl rfl) ?_
      go_frame
      refine wpList_run 144 rfl rfl (.bool false) (exec_move (.tmp 143) rfl _ rfl) ?_
      go_frame
      refine wpList_runG 145 rfl (by first | rfl | kernel_rfl) (.int .i64 (-1)) (exec_move (.tmp 7) rfl _ rfl) ?_
      go_frame
      refine wpList_runG 146 rfl (by first | rfl | kernel_rfl) (.bool false) (exec_gtrI _ _ _ _ rfl .i64 (-1) 0 false rfl rfl rfl) ?_
      go_frame
      refine wpList_runSkip 147 rfl (by first | rfl | kernel_rfl) (.bool false) (exec_move (.tmp 146) rfl _ rfl) 8 [148, 149, 150, 151, 152, 153, 154, 155] (by kernel_rfl) ?_
      simp only [List.drop_succ_cons, List.drop_zero, List.foldl_cons, List.foldl_nil]
      go_frame
      refine wpList_runG 156 rfl (by first | rfl | kernel_rfl) (.bool false) (exec_pickF _ _ _ rfl (.bool false) rfl rfl) ?_
      go_frame
      refine wpList_run 157 rfl rfl (.bool false) (exec_pickF _ _ _ rfl (.bool false) rfl rfl) ?_
      go_frame
      refine wpList_nil ?_
      clear hW
      go_wp2_with fail
      go_meet
      exact ⟨rfl, HX.out, HY.out, HC.out, HW.out, HE.out⟩
    · refine wp_region_lit ?_
      have hW := (And.intro HX.out (And.intro HY.out (And.intro HC.out (And.intro HA11.out HA12.out))))
      refine wpList_run 132 rfl rfl (.int .i64 0) (exec_move (.tmp 7) rfl _ rfl) ?_
      go_frame
      refine wpList_run 133 rfl rfl (.bool true) (exec_leqI _ _ _ _ rfl .i64 0 0 true rfl rfl rfl) ?_
      go_frame
      refine wpList_run 134 rfl rfl (.bool true) (exec_move (.tmp 133) rfl _ rfl) ?_
      go_frame
      refine wpList_runG 135 rfl (by first | rfl | kernel_rfl) (rv x) (exec_load 23 (.tmp 11) rfl _ (rv x) rfl (run_load_part _ 23 _ 0 3 _ [.bool x.neg, .string x.n, .string x.d] _ hW.2.2.2.1 (by simp) Tryz.underlying23 rfl size_api_Rat)) ?_
      go_frame
      refine wpList_runG 136 rfl (by first | rfl | kernel_rfl) (rv x) (exec_load 23 (.tmp 3) rfl _ (rv x) rfl (run_load_part _ 23 _ 0 3 _ [.bool x.neg, .string x.n, .string x.d] _ hW.1 (by simp) Tryz.underlying23 rfl size_api_Rat)) ?_
      go_frame
      refine wpList_runG 137 rfl (by first | rfl | kernel_rfl) (.bool false) (exec_bin .neq 23 _ _ _ rfl (rv x) (rv x) _ rfl rfl (rat_guardN _ _ _ _ _) (run_sameR x _)) ?_
      go_frame
      refine wpList_runG 138 rfl (by first | rfl | kernel_rfl) (.bool false) (exec_move (.tmp 137) rfl _ rfl) ?_
      go_frame
      refine wpList_runG 139 rfl (by first | rfl | kernel_rfl) (rv y) (exec_load 23 (.tmp 12) rfl _ (rv y) rfl (run_load_part _ 23 _ 0 3 _ [.bool y.neg, .string y.n, .string y.d] _ hW.2.2.2.2 (by simp) Tryz.underlying23 rfl size_api_Rat)) ?_
      go_frame
      refine wpList_runG 140 rfl (by first | rfl | kernel_rfl) (rv y) (exec_load 23 (.tmp 4) rfl _ (rv y) rfl (run_load_part _ 23 _ 0 3 _ [.bool y.neg, .string y.n, .string y.d] _ hW.2.1 (by simp) Tryz.underlying23 rfl size_api_Rat)) ?_
      go_frame
      refine wpList_runG 141 rfl (by first | rfl | kernel_rfl) (.bool false) (exec_bin .neq 23 _ _ _ rfl (rv y) (rv y) _ rfl rfl (rat_guardN _ _ _ _ _) (run_sameR y _)) ?_
      go_frame
      refine wpList_runG 142 rfl (by first | rfl | kernel_rfl) (.bool false) (exec_pickF _ _ _ rfl (.bool false) rfl rfl) ?_
      go_frame
      refine wpList_run 143 rfl rfl (.bool false) (exec_pickT _ _ _ rfl (.bool false) rfl rfl) ?_
      go_frame
      refine wpList_run 144 rfl rfl (.bool false) (exec_move (.tmp 143) rfl _ rfl) ?_
      go_frame
      refine wpList_runG 145 rfl (by first | rfl | kernel_rfl) (.int .i64 0) (exec_move (.tmp 7) rfl _ rfl) ?_
      go_frame
      refine wpList_runG 146 rfl (by first | rfl | kernel_rfl) (.bool false) (exec_gtrI _ _ _ _ rfl .i64 0 0 false rfl rfl rfl) ?_
      go_frame
      refine wpList_runSkip 147 rfl (by first | rfl | kernel_rfl) (.bool false) (exec_move (.tmp 146) rfl _ rfl) 8 [148, 149, 150, 151, 152, 153, 154, 155] (by kernel_rfl) ?_
      simp only [List.drop_succ_cons, List.drop_zero, List.foldl_cons, List.foldl_nil]
      go_frame
      refine wpList_runG 156 rfl (by first | rfl | kernel_rfl) (.bool false) (exec_pickF _ _ _ rfl (.bool false) rfl rfl) ?_
      go_frame
      refine wpList_run 157 rfl rfl (.bool false) (exec_pickF _ _ _ rfl (.bool false) rfl rfl) ?_
      go_frame
      refine wpList_nil ?_
      clear hW
      go_wp2_with fail
      go_meet
      exact ⟨rfl, HX.out, HY.out, HC.out, HW.out, HE.out⟩
    · refine wp_region_lit ?_
      have hW := (And.intro HX.out (And.intro HY.out (And.intro HC.out (And.intro HA11.out HA12.out))))
      refine wpList_run 132 rfl rfl (.int .i64 1) (exec_move (.tmp 7) rfl _ rfl) ?_
      go_frame
      refine wpList_run 133 rfl rfl (.bool false) (exec_leqI _ _ _ _ rfl .i64 1 0 false rfl rfl rfl) ?_
      go_frame
      refine wpList_runSkip 134 rfl (by first | rfl | kernel_rfl) (.bool false) (exec_move (.tmp 133) rfl _ rfl) 8 [135, 136, 137, 138, 139, 140, 141, 142] (by kernel_rfl) ?_
      simp only [List.drop_succ_cons, List.drop_zero, List.foldl_cons, List.foldl_nil]
      go_frame
      refine wpList_run 143 rfl rfl (.bool false) (exec_pickF _ _ _ rfl (.bool false) rfl rfl) ?_
      go_frame
      refine wpList_run 144 rfl rfl (.bool false) (exec_move (.tmp 143) rfl _ rfl) ?_
      go_frame
      refine wpList_runG 145 rfl (by first | rfl | kernel_rfl) (.int .i64 1) (exec_move (.tmp 7) rfl _ rfl) ?_
      go_frame
      refine wpList_runG 146 rfl (by first | rfl | kernel_rfl) (.bool true) (exec_gtrI _ _ _ _ rfl .i64 1 0 true rfl rfl rfl) ?_
      go_frame
      refine wpList_runG 147 rfl (by first | rfl | kernel_rfl) (.bool true) (exec_move (.tmp 146) rfl _ rfl) ?_
      go_frame
      refine wpList_runG 148 rfl (by first | rfl | kernel_rfl) (rv y) (exec_load 23 (.tmp 11) rfl _ (rv y) rfl (run_load_part _ 23 _ 0 3 _ [.bool y.neg, .string y.n, .string y.d] _ hW.2.2.2.1 (by simp) Tryz.underlying23 rfl size_api_Rat)) ?_
      go_frame
      refine wpList_runG 149 rfl (by first | rfl | kernel_rfl) (rv y) (exec_load 23 (.tmp 4) rfl _ (rv y) rfl (run_load_part _ 23 _ 0 3 _ [.bool y.neg, .string y.n, .string y.d] _ hW.2.1 (by simp) Tryz.underlying23 rfl size_api_Rat)) ?_
      go_frame
      refine wpList_runG 150 rfl (by first | rfl | kernel_rfl) (.bool false) (exec_bin .neq 23 _ _ _ rfl (rv y) (rv y) _ rfl rfl (rat_guardN _ _ _ _ _) (run_sameR y _)) ?_
      go_frame
      refine wpList_runG 151 rfl (by first | rfl | kernel_rfl) (.bool false) (exec_move (.tmp 150) rfl _ rfl) ?_
      go_frame
      refine wpList_runG 152 rfl (by first | rfl | kernel_rfl) (rv x) (exec_load 23 (.tmp 12) rfl _ (rv x) rfl (run_load_part _ 23 _ 0 3 _ [.bool x.neg, .string x.n, .string x.d] _ hW.2.2.2.2 (by simp) Tryz.underlying23 rfl size_api_Rat)) ?_
      go_frame
      refine wpList_runG 153 rfl (by first | rfl | kernel_rfl) (rv x) (exec_load 23 (.tmp 3) rfl _ (rv x) rfl (run_load_part _ 23 _ 0 3 _ [.bool x.neg, .string x.n, .string x.d] _ hW.1 (by simp) Tryz.underlying23 rfl size_api_Rat)) ?_
      go_frame
      refine wpList_runG 154 rfl (by first | rfl | kernel_rfl) (.bool false) (exec_bin .neq 23 _ _ _ rfl (rv x) (rv x) _ rfl rfl (rat_guardN _ _ _ _ _) (run_sameR x _)) ?_
      go_frame
      refine wpList_runG 155 rfl (by first | rfl | kernel_rfl) (.bool false) (exec_pickF _ _ _ rfl (.bool false) rfl rfl) ?_
      go_frame
      refine wpList_runG 156 rfl (by first | rfl | kernel_rfl) (.bool false) (exec_pickT _ _ _ rfl (.bool false) rfl rfl) ?_
      go_frame
      refine wpList_run 157 rfl rfl (.bool false) (exec_pickF _ _ _ rfl (.bool false) rfl rfl) ?_
      go_frame
      refine wpList_nil ?_
      clear hW
      go_wp2_with fail
      go_meet
      exact ⟨rfl, HX.out, HY.out, HC.out, HW.out, HE.out⟩
  case rest =>
    clear HA11 HA12 HX HY HC HW HE
    obtain ⟨rfl, kX, kY, kC, kW, kE⟩ := hcut
    have HX := Lib.hid kX
    have HY := Lib.hid kY
    have HC := Lib.hid kC
    have HW := Lib.hid kW
    have HE := Lib.hid kE
    clear kX kY kC kW kE
    go_upto_region 12 with fail
    rename_i K1 hK1
    exact ord_c x y z fi sb o c1 c2 c3 c10 f k c kc c174 c182 w _ F160.out F165.out NH.out _ _ K1 hK1 HX.out HW.out HE.out _ _ _ _ _ _ _ _ _ _ _ _ _ _ _ _ _ _ _ _ _ _ _ _ _ _ _ _ _ _ _ _ _ _ _ _ _ _ _ _ _ _ _ _ _ _ _ _ _ _ _ _ _ _ _ _ _ _ _ _ _ _ _ _ _ _ _ _ _ _ _ _ _ _ _ _ _ _ _ _ _ _ _ _ _ _ _ _ _ _ _ _ _ _ _ _ _ _ _ _ _ _ _ _ _ _ _ _ _ _ _ _ _ _ _ _ _ _ _ _ _ _ _ _ _ _ _ _ _ _ _ _ _ _ _ _ _ _ _ _ _ _ _ _ _ _ _ _ _ _ _ _ _ _ _ _ _ _ _ _ _ _ _ _ _ _ _ _ _ _ _ _ _ _ _ _ _ _ _ _ _ _ _ _ _ _ _ _ _ _ _ _ _ _ _ _ _ _ _ _ _ _
end Go.Proofs.YtibfmcohodhkbaaGreatDoor
