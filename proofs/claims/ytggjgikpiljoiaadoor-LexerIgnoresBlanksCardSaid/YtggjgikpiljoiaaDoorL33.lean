/- The walk of LexerIgnoresBlanks: the cases. -/
import Derived.Test.YtggjgikpiljoiaaDoorL32
import Derived.Test.YtggjgikpiljoiaaDoorLM7
namespace Go.Proofs.YtggjgikpiljoiaaDoor
open Go.RowKit Hm Wm Lx

theorem ia__2_uint8_0_0 (g : Nat) (W : World) : (Instr.indexAt 38 (.pointer (some ⟨g, 0, none⟩)) (.int .i64 0)).run Tryd.prog W = .ok (.pointer (some ⟨g, 0, none⟩)) W := by kernel_rfl
theorem flat_uint8 (W : World) : (isAgg 5).run Tryd.prog W = .ok false W := by kernel_rfl
theorem ia__2_uint8_1_0 (g : Nat) (W : World) : (Instr.indexAt 38 (.pointer (some ⟨g, 0, none⟩)) (.int .i64 1)).run Tryd.prog W = .ok (.pointer (some ⟨g, 1, none⟩)) W := by kernel_rfl
theorem rem_nat (x y : Nat) (hy : y ≠ 0) (W : World) : (binOp .rem 3 (.int .i64 x) (.int .i64 y)).run Tryd.prog W = .ok (.int .i64 ((x % y : Nat) : Int)) W := by
  simp [binOp, go_sem]
  rw [Int.tmod_eq_emod_of_nonneg (by omega), if_neg hy]
theorem rem_five (x : Nat) (W : World) : (binOp .rem 5 (.int .u8 x) (.int .u8 5)).run Tryd.prog W = .ok (.int .u8 ((x % 5 : Nat) : Int)) W := by
  simp [binOp, go_sem]
  exact Int.tmod_eq_emod_of_nonneg (by omega)
theorem conv_u8 (x : Nat) (h : x < 256) (W : World) : (convert 5 3 (.int .u8 x)).run Tryd.prog W = .ok (.int .i64 (x : Int)) W := by
  rw [run_convert_int W 5 3 .u8 x (by kernel_rfl) (by kernel_rfl)]
  rw [show Tryd.prog.intKind 3 = .i64 from by kernel_rfl, IntWalk.i64_in _ (by omega)]
theorem one_var (w : World) (t : TypeId) (xs : List Value) : Blk (w.alloc (.cells xs.toArray t)) w.heap.size t xs ∧ Below w.heap.size w (w.alloc (.cells xs.toArray t)) := ⟨Blk.new w t xs, (Below.refl _ _).alloc (Nat.le_refl _) _⟩
/-- The bytes of a comment: without line feeds. -/
def flt (c : List UInt8) : List UInt8 := c.filter nlf
theorem flt_next {c : List UInt8} {k : Nat} {d : UInt8} (h : c[k]? = some d) : flt (c.take (k + 1)) = if nlf d then flt (c.take k) ++ [d] else flt (c.take k) := by
  obtain ⟨hk, rfl⟩ := List.getElem?_eq_some_iff.1 h
  unfold flt
  rw [List.take_succ_eq_append_getElem hk, List.filter_append]
  cases hn : nlf c[k] <;> simp [hn]
theorem flt_len (c : List UInt8) (k : Nat) : (flt (c.take k)).length ≤ c.length := by
  have h1 := List.length_filter_le nlf (c.take k)
  have h2 := List.length_take_le' k c
  unfold flt; omega
set_option maxRecDepth 100000 in
set_option maxHeartbeats 1500000 in
theorem blanks_longa (l c : List UInt8) (pl kd : Nat) (w : World) (hE : Env w) (h : 2000 < l.length) : Calls Tryd.prog 6 #[.string (sb l), .string (sb c), .agg #[.int .u8 pl, .int .u8 kd]] w fun e w' => e = .returned (.bool true) ∧ Below w.heap.size w w' := by
  have hz : (sb l).size = l.length := sb_size l
  have hzc : (sb c).size = c.length := sb_size c
  obtain ⟨W0, hW0⟩ : ∃ W, W = w.alloc (.cells #[.int .u8 pl, .int .u8 kd] 38) := ⟨_, rfl⟩
  have hk := one_var w 38 [.int .u8 pl, .int .u8 kd]
  have HX : Hid (Blk W0 w.heap.size 38 [.int .u8 pl, .int .u8 kd]) := Lib.hid (by rw [hW0]; exact hk.1)
  have HW : Hid (Below w.heap.size w W0) := Lib.hid (by rw [hW0]; exact hk.2)
  have HE := Lib.hid (hE.next HW.out)
  clear hk hE
  have g1 : decide ((2000 : Int) < ((sb l).size : Int)) = true := decide_eq_true (by omega)
  clear hz hzc h
  go_enter Tryd.func6, Tryd.ntmps6
  go_wp2_with fail
  try rw [← hW0]
  clear hW0
  refine late_begin (S := fun _ W => Blk W w.heap.size 38 [.int .u8 pl, .int .u8 kd]) (by kernel_rfl) ?_
  have hE0 := HE.out.next (Below.refl _ _).drew
  have hW0 := HW.out.drew
  have hX0 := HX.out.drew
  generalize W0.drew = u0 at hE0 hW0 hX0 ⊢
  clear HE HW HX
  refine late_take [] (i := 0) (some 18) rfl rfl (by first | rfl | kernel_rfl) (by kernel_rfl) (by kernel_rfl) (by kernel_rfl) (by kernel_rfl) (by kernel_rfl) (fun Ls W h => h) (.pointer (some ⟨w.heap.size, 0, none⟩)) (fun _ _ _ h => h) (fun Ls W hl0 hW => exec_indexAddr 38 (.tmp 5) (.const (.int .i64 0)) rfl _ _ _ rfl rfl (ia__2_uint8_0_0 _ _)) hX0 hX0 ?_
  go_frame
  refine late_take [] (i := 1) (some 19) rfl rfl (by first | rfl | kernel_rfl) (by kernel_rfl) (by kernel_rfl) (by kernel_rfl) (by kernel_rfl) (by kernel_rfl) (fun Ls W h => h) (.int .u8 pl) (fun _ _ _ h => h) (fun Ls W hl0 hW => exec_load 5 (.tmp 18) rfl _ _ rfl (run_load_cell flat_uint8 (hW.cell 0))) hX0 hX0 ?_
  go_frame
  refine late_take [] (i := 2) (some 20) rfl rfl (by first | rfl | kernel_rfl) (by kernel_rfl) (by kernel_rfl) (by kernel_rfl) (by kernel_rfl) (by kernel_rfl) (fun Ls W h => h) (.pointer (some ⟨w.heap.size, 1, none⟩)) (fun _ _ _ h => h) (fun Ls W hl0 hW => exec_indexAddr 38 (.tmp 5) (.const (.int .i64 1)) rfl _ _ _ rfl rfl (ia__2_uint8_1_0 _ _)) hX0 hX0 ?_
  go_frame
  refine late_take [] (i := 3) (some 21) rfl rfl (by first | rfl | kernel_rfl) (by kernel_rfl) (by kernel_rfl) (by kernel_rfl) (by kernel_rfl) (by kernel_rfl) (fun Ls W h => h) (.int .u8 kd) (fun _ _ _ h => h) (fun Ls W hl0 hW => exec_load 5 (.tmp 20) rfl _ _ rfl (run_load_cell flat_uint8 (hW.cell 1))) hX0 hX0 ?_
  go_frame
  refine late_take [] (i := 4) (some 7) rfl rfl (by first | rfl | kernel_rfl) (by kernel_rfl) (by kernel_rfl) (by kernel_rfl) (by kernel_rfl) (by kernel_rfl) (fun Ls W h => h) (.int .u8 pl) (fun _ _ _ h => h) (fun Ls W hl0 hW => exec_assign (.tmp 19) rfl _ rfl) hX0 hX0 ?_
  go_frame
  refine late_take [] (i := 5) (some 8) rfl rfl (by first | rfl | kernel_rfl) (by kernel_rfl) (by kernel_rfl) (by kernel_rfl) (by kernel_rfl) (by kernel_rfl) (fun Ls W h => h) (.int .u8 kd) (fun _ _ _ h => h) (fun Ls W hl0 hW => exec_assign (.tmp 21) rfl _ rfl) hX0 hX0 ?_
  refine late_done (by kernel_rfl) ?_ _
  go_frame
  have HE := Lib.hid hE0
  have HW := Lib.hid hW0
  have HX := Lib.hid hX0
  clear hE0 hW0 hX0
  clear HX
  go_upto_region 2 with fail
  refine wp_region_lit ?_
  refine wpList_run 22 rfl rfl (.string (sb l)) (exec_move (.tmp 0) rfl _ rfl) ?_
  go_frame
  refine wpList_run 23 rfl rfl (.int .i64 (sb l).size) (exec_lenS (.tmp 22) rfl (sb l) rfl) ?_
  go_frame
  refine wpList_run 24 rfl rfl (.bool true) (exec_gtrI _ _ _ _ rfl .i64 ((sb l).size) (2000) true g1 rfl rfl) ?_
  go_frame
  refine wpList_runSkip 25 rfl (by first | rfl | kernel_rfl) (.bool true) (exec_move (.tmp 24) rfl _ rfl) 3 [26, 27, 28] (by kernel_rfl) ?_
  simp only [List.drop_succ_cons, List.drop_zero, List.foldl_cons, List.foldl_nil]
  go_frame
  refine wpList_run 29 rfl rfl (.bool true) (exec_pickT _ _ _ rfl (.bool true) rfl rfl) ?_
  go_frame
  refine wpList_nil ?_
  go_wp2_with (first | ((with_reducible refine (sanity_any _ HE.out).mono ?_); rintro e wy ⟨rfl, hb⟩; replace HE := Lib.hid (HE.out.next hb); replace HW := Lib.hid (HW.out.trans (hb.mono HW.out.size)); clear hb))
  go_ret
  exact ⟨rfl, HW.out⟩
set_option maxRecDepth 100000 in
set_option maxHeartbeats 1500000 in
theorem blanks_longb (l c : List UInt8) (pl kd : Nat) (w : World) (hE : Env w) (h0 : l.length ≤ 2000) (h : 100 < c.length) : Calls Tryd.prog 6 #[.string (sb l), .string (sb c), .agg #[.int .u8 pl, .int .u8 kd]] w fun e w' => e = .returned (.bool true) ∧ Below w.heap.size w w' := by
  have hz : (sb l).size = l.length := sb_size l
  have hzc : (sb c).size = c.length := sb_size c
  obtain ⟨W0, hW0⟩ : ∃ W, W = w.alloc (.cells #[.int .u8 pl, .int .u8 kd] 38) := ⟨_, rfl⟩
  have hk := one_var w 38 [.int .u8 pl, .int .u8 kd]
  have HX : Hid (Blk W0 w.heap.size 38 [.int .u8 pl, .int .u8 kd]) := Lib.hid (by rw [hW0]; exact hk.1)
  have HW : Hid (Below w.heap.size w W0) := Lib.hid (by rw [hW0]; exact hk.2)
  have HE := Lib.hid (hE.next HW.out)
  clear hk hE
  have g1 : decide ((2000 : Int) < ((sb l).size : Int)) = false := decide_eq_false (by omega)
  have g2 : decide ((100 : Int) < ((sb c).size : Int)) = true := decide_eq_true (by omega)
  clear hz hzc h
  go_enter Tryd.func6, Tryd.ntmps6
  go_wp2_with fail
  try rw [← hW0]
  clear hW0
  refine late_begin (S := fun _ W => Blk W w.heap.size 38 [.int .u8 pl, .int .u8 kd]) (by kernel_rfl) ?_
  have hE0 := HE.out.next (Below.refl _ _).drew
  have hW0 := HW.out.drew
  have hX0 := HX.out.drew
  generalize W0.drew = u0 at hE0 hW0 hX0 ⊢
  clear HE HW HX
  refine late_take [] (i := 0) (some 18) rfl rfl (by first | rfl | kernel_rfl) (by kernel_rfl) (by kernel_rfl) (by kernel_rfl) (by kernel_rfl) (by kernel_rfl) (fun Ls W h => h) (.pointer (some ⟨w.heap.size, 0, none⟩)) (fun _ _ _ h => h) (fun Ls W hl0 hW => exec_indexAddr 38 (.tmp 5) (.const (.int .i64 0)) rfl _ _ _ rfl rfl (ia__2_uint8_0_0 _ _)) hX0 hX0 ?_
  go_frame
  refine late_take [] (i := 1) (some 19) rfl rfl (by first | rfl | kernel_rfl) (by kernel_rfl) (by kernel_rfl) (by kernel_rfl) (by kernel_rfl) (by kernel_rfl) (fun Ls W h => h) (.int .u8 pl) (fun _ _ _ h => h) (fun Ls W hl0 hW => exec_load 5 (.tmp 18) rfl _ _ rfl (run_load_cell flat_uint8 (hW.cell 0))) hX0 hX0 ?_
  go_frame
  refine late_take [] (i := 2) (some 20) rfl rfl (by first | rfl | kernel_rfl) (by kernel_rfl) (by kernel_rfl) (by kernel_rfl) (by kernel_rfl) (by kernel_rfl) (fun Ls W h => h) (.pointer (some ⟨w.heap.size, 1, none⟩)) (fun _ _ _ h => h) (fun Ls W hl0 hW => exec_indexAddr 38 (.tmp 5) (.const (.int .i64 1)) rfl _ _ _ rfl rfl (ia__2_uint8_1_0 _ _)) hX0 hX0 ?_
  go_frame
  refine late_take [] (i := 3) (some 21) rfl rfl (by first | rfl | kernel_rfl) (by kernel_rfl) (by kernel_rfl) (by kernel_rfl) (by kernel_rfl) (by kernel_rfl) (fun Ls W h => h) (.int .u8 kd) (fun _ _ _ h => h) (fun Ls W hl0 hW => exec_load 5 (.tmp 20) rfl _ _ rfl (run_load_cell flat_uint8 (hW.cell 1))) hX0 hX0 ?_
  go_frame
  refine late_take [] (i := 4) (some 7) rfl rfl (by first | rfl | kernel_rfl) (by kernel_rfl) (by kernel_rfl) (by kernel_rfl) (by kernel_rfl) (by kernel_rfl) (fun Ls W h => h) (.int .u8 pl) (fun _ _ _ h => h) (fun Ls W hl0 hW => exec_assign (.tmp 19) rfl _ rfl) hX0 hX0 ?_
  go_frame
  refine late_take [] (i := 5) (some 8) rfl rfl (by first | rfl | kernel_rfl) (by kernel_rfl) (by kernel_rfl) (by kernel_rfl) (by kernel_rfl) (by kernel_rfl) (fun Ls W h => h) (.int .u8 kd) (fun _ _ _ h => h) (fun Ls W hl0 hW => exec_assign (.tmp 21) rfl _ rfl) hX0 hX0 ?_
  refine late_done (by kernel_rfl) ?_ _
  go_frame
  have HE := Lib.hid hE0
  have HW := Lib.hid hW0
  have HX := Lib.hid hX0
  clear hE0 hW0 hX0
  clear HX
  go_upto_region 2 with fail
  refine wp_region_lit ?_
  refine wpList_run 22 rfl rfl (.string (sb l)) (exec_move (.tmp 0) rfl _ rfl) ?_
  go_frame
  refine wpList_run 23 rfl rfl (.int .i64 (sb l).size) (exec_lenS (.tmp 22) rfl (sb l) rfl) ?_
  go_frame
  refine wpList_run 24 rfl rfl (.bool false) (exec_gtrI _ _ _ _ rfl .i64 ((sb l).size) (2000) false g1 rfl rfl) ?_
  go_frame
  refine wpList_run 25 rfl rfl (.bool false) (exec_move (.tmp 24) rfl _ rfl) ?_
  go_frame
  refine wpList_runG 26 rfl (by first | rfl | kernel_rfl) (.string (sb c)) (exec_move (.tmp 1) rfl _ rfl) ?_
  go_frame
  refine wpList_runG 27 rfl (by first | rfl | kernel_rfl) (.int .i64 (sb c).size) (exec_lenS (.tmp 26) rfl (sb c) rfl) ?_
  go_frame
  refine wpList_runG 28 rfl (by first | rfl | kernel_rfl) (.bool true) (exec_gtrI _ _ _ _ rfl .i64 ((sb c).size) (100) true g2 rfl rfl) ?_
  go_frame
  refine wpList_run 29 rfl rfl (.bool true) (exec_pickF _ _ _ rfl (.bool true) rfl rfl) ?_
  go_frame
  refine wpList_nil ?_
  go_wp2_with (first | ((with_reducible refine (sanity_any _ HE.out).mono ?_); rintro e wy ⟨rfl, hb⟩; replace HE := Lib.hid (HE.out.next hb); replace HW := Lib.hid (HW.out.trans (hb.mono HW.out.size)); clear hb))
  go_ret
  exact ⟨rfl, HW.out⟩
set_option maxRecDepth 100000 in
set_option maxHeartbeats 1500000 in
theorem blanks_bad (l c : List UInt8) (pl kd : Nat) (w : World) (hE : Env w) (hl : l.length ≤ 2000) (hc : c.length ≤ 100) (x k : Nat) (hk : k ≠ 0) (h : lex l 0 = .bad x k) : Calls Tryd.prog 6 #[.string (sb l), .string (sb c), .agg #[.int .u8 pl, .int .u8 kd]] w fun e w' => e = .returned (.bool true) ∧ Below w.heap.size w w' := by
  have hz : (sb l).size = l.length := sb_size l
  have hzc : (sb c).size = c.length := sb_size c
  obtain ⟨W0, hW0⟩ : ∃ W, W = w.alloc (.cells #[.int .u8 pl, .int .u8 kd] 38) := ⟨_, rfl⟩
  have hk := one_var w 38 [.int .u8 pl, .int .u8 kd]
  have HX : Hid (Blk W0 w.heap.size 38 [.int .u8 pl, .int .u8 kd]) := Lib.hid (by rw [hW0]; exact hk.1)
  have HW : Hid (Below w.heap.size w W0) := Lib.hid (by rw [hW0]; exact hk.2)
  have HE := Lib.hid (hE.next HW.out)
  clear hk hE
  have g1 : decide ((2000 : Int) < ((sb l).size : Int)) = false := decide_eq_false (by omega)
  have g2 : decide ((100 : Int) < ((sb c).size : Int)) = false := decide_eq_false (by omega)
  have HhL := Lib.hid (show l.length ≤ 65536 by omega)
  have Hh := Lib.hid h
  have he : ((k : Int) != 0) = true := by rw [bne_iff_ne]; omega
  clear hz hzc h hk
  go_enter Tryd.func6, Tryd.ntmps6
  go_wp2_with fail
  try rw [← hW0]
  clear hW0
  refine late_begin (S := fun _ W => Blk W w.heap.size 38 [.int .u8 pl, .int .u8 kd]) (by kernel_rfl) ?_
  have hE0 := HE.out.next (Below.refl _ _).drew
  have hW0 := HW.out.drew
  have hX0 := HX.out.drew
  generalize W0.drew = u0 at hE0 hW0 hX0 ⊢
  clear HE HW HX
  refine late_take [] (i := 0) (some 18) rfl rfl (by first | rfl | kernel_rfl) (by kernel_rfl) (by kernel_rfl) (by kernel_rfl) (by kernel_rfl) (by kernel_rfl) (fun Ls W h => h) (.pointer (some ⟨w.heap.size, 0, none⟩)) (fun _ _ _ h => h) (fun Ls W hl0 hW => exec_indexAddr 38 (.tmp 5) (.const (.int .i64 0)) rfl _ _ _ rfl rfl (ia__2_uint8_0_0 _ _)) hX0 hX0 ?_
  go_frame
  refine late_take [] (i := 1) (some 19) rfl rfl (by first | rfl | kernel_rfl) (by kernel_rfl) (by kernel_rfl) (by kernel_rfl) (by kernel_rfl) (by kernel_rfl) (fun Ls W h => h) (.int .u8 pl) (fun _ _ _ h => h) (fun Ls W hl0 hW => exec_load 5 (.tmp 18) rfl _ _ rfl (run_load_cell flat_uint8 (hW.cell 0))) hX0 hX0 ?_
  go_frame
  refine late_take [] (i := 2) (some 20) rfl rfl (by first | rfl | kernel_rfl) (by kernel_rfl) (by kernel_rfl) (by kernel_rfl) (by kernel_rfl) (by kernel_rfl) (fun Ls W h => h) (.pointer (some ⟨w.heap.size, 1, none⟩)) (fun _ _ _ h => h) (fun Ls W hl0 hW => exec_indexAddr 38 (.tmp 5) (.const (.int .i64 1)) rfl _ _ _ rfl rfl (ia__2_uint8_1_0 _ _)) hX0 hX0 ?_
  go_frame
  refine late_take [] (i := 3) (some 21) rfl rfl (by first | rfl | kernel_rfl) (by kernel_rfl) (by kernel_rfl) (by kernel_rfl) (by kernel_rfl) (by kernel_rfl) (fun Ls W h => h) (.int .u8 kd) (fun _ _ _ h => h) (fun Ls W hl0 hW => exec_load 5 (.tmp 20) rfl _ _ rfl (run_load_cell flat_uint8 (hW.cell 1))) hX0 hX0 ?_
  go_frame
  refine late_take [] (i := 4) (some 7) rfl rfl (by first | rfl | kernel_rfl) (by kernel_rfl) (by kernel_rfl) (by kernel_rfl) (by kernel_rfl) (by kernel_rfl) (fun Ls W h => h) (.int .u8 pl) (fun _ _ _ h => h) (fun Ls W hl0 hW => exec_assign (.tmp 19) rfl _ rfl) hX0 hX0 ?_
  go_frame
  refine late_take [] (i := 5) (some 8) rfl rfl (by first | rfl | kernel_rfl) (by kernel_rfl) (by kernel_rfl) (by kernel_rfl) (by kernel_rfl) (by kernel_rfl) (fun Ls W h => h) (.int .u8 kd) (fun _ _ _ h => h) (fun Ls W hl0 hW => exec_assign (.tmp 21) rfl _ rfl) hX0 hX0 ?_
  refine late_done (by kernel_rfl) ?_ _
  go_frame
  have HE := Lib.hid hE0
  have HW := Lib.hid hW0
  have HX := Lib.hid hX0
  clear hE0 hW0 hX0
  clear HX
  go_upto_region 2 with fail
  refine wp_region_lit ?_
  refine wpList_run 22 rfl rfl (.string (sb l)) (exec_move (.tmp 0) rfl _ rfl) ?_
  go_frame
  refine wpList_run 23 rfl rfl (.int .i64 (sb l).size) (exec_lenS (.tmp 22) rfl (sb l) rfl) ?_
  go_frame
  refine wpList_run 24 rfl rfl (.bool false) (exec_gtrI _ _ _ _ rfl .i64 ((sb l).size) (2000) false g1 rfl rfl) ?_
  go_frame
  refine wpList_run 25 rfl rfl (.bool false) (exec_move (.tmp 24) rfl _ rfl) ?_
  go_frame
  refine wpList_runG 26 rfl (by first | rfl | kernel_rfl) (.string (sb c)) (exec_move (.tmp 1) rfl _ rfl) ?_
  go_frame
  refine wpList_runG 27 rfl (by first | rfl | kernel_rfl) (.int .i64 (sb c).size) (exec_lenS (.tmp 26) rfl (sb c) rfl) ?_
  go_frame
  refine wpList_runG 28 rfl (by first | rfl | kernel_rfl) (.bool false) (exec_gtrI _ _ _ _ rfl .i64 ((sb c).size) (100) false g2 rfl rfl) ?_
  go_frame
  refine wpList_run 29 rfl rfl (.bool false) (exec_pickF _ _ _ rfl (.bool false) rfl rfl) ?_
  go_frame
  refine wpList_nil ?_
  go_upto_region 5 with (first | ((with_reducible refine (tok_no l x k (HhL.out) Hh.out _ HE.out).mono ?_); rintro e a1 ⟨rfl, hb⟩; replace HE := Lib.hid (HE.out.next hb); replace HW := Lib.hid (HW.out.trans (hb.mono HW.out.size)); clear hb) | (refine wpList_new rfl 26 rfl [.int .i64 0, .int .i64 0] pb_zero ?_; intro d1 HP1 HB1) | (refine wpList_store_all rfl 26 (.tmp 10) (.tmp 35) rfl a1.heap.size 26 [.int .i64 0, .int .i64 0] [.int .i64 x, .int .i64 k] rfl rfl HP1.out rfl pb_size (List.forall_mem_cons.2 ⟨rfl, (List.forall_mem_cons.2 ⟨rfl, fun _ h => nomatch h⟩)⟩) ?_; intro f1 HQ1 ho; have hb := HB1.out.trans (ho.below (Nat.le_refl _)); replace HE := Lib.hid (HE.out.next hb); replace HW := Lib.hid (HW.out.trans (hb.mono HW.out.size)); clear hb ho HP1 HB1))
  go_wp2_with (first | (refine wpList_dst 36 rfl ?_; refine wpList_run 36 rfl rfl _ (exec_fieldAddr 26 (.tmp 10) 1 rfl _ _ rfl (pb_f _ 1 (by decide) _)) ?_; go_frame) | (refine wpList_dst 37 rfl ?_; refine wpList_run 37 rfl rfl _ (exec_load 24 (.tmp 36) rfl _ (.int .i64 k) rfl (run_load_cell er_flat (HQ1.out.cell 1))) ?_; go_frame) | ((with_reducible refine (sanity_any _ HE.out).mono ?_); rintro e wy ⟨rfl, hb⟩; replace HE := Lib.hid (HE.out.next hb); replace HW := Lib.hid (HW.out.trans (hb.mono HW.out.size)); replace HQ1 := Lib.hid (HQ1.out.next hb); clear hb))
  go_ret
  exact ⟨rfl, HW.out⟩
set_option maxRecDepth 100000 in
set_option maxHeartbeats 3000000 in
theorem blanks_0e (l c : List UInt8) (pl kd : Nat) (w : World) (hE : Env w) (hl : l.length ≤ 2000) (hc : c.length ≤ 100) (hpl : pl < 256) (hkd : kd % 5 = 0) (T V : List Tok) (i tk ta tv : Nat) (ts : List UInt8) (h : lex l 0 = .ok T) (hi : pl % T.length = i) (hti : T[i]? = some ⟨tk, ta, ts, tv⟩) (hta : ta ≤ l.length) (hte : ta = l.length) (hq : lex ((l ++ [10]) ++ [32] ++ l.drop ta) 0 = .ok V) (hS : ∀ (A B : Option Addr) (cA cB : Nat) (W : World), RdT W A (T.map toT) → RdT W B (V.map toT) → Calls Tryd.prog 13 #[.slice A T.length cA, .slice B V.length cB] W fun e w' => e = .returned (.bool true) ∧ Below W.heap.size W w') : Calls Tryd.prog 6 #[.string (sb l), .string (sb c), .agg #[.int .u8 pl, .int .u8 kd]] w fun e w' => e = .returned (.bool true) ∧ Below w.heap.size w w' := by
  have hz : (sb l).size = l.length := sb_size l
  have hzc : (sb c).size = c.length := sb_size c
  obtain ⟨W0, hW0⟩ : ∃ W, W = w.alloc (.cells #[.int .u8 pl, .int .u8 kd] 38) := ⟨_, rfl⟩
  have hk := one_var w 38 [.int .u8 pl, .int .u8 kd]
  have HX : Hid (Blk W0 w.heap.size 38 [.int .u8 pl, .int .u8 kd]) := Lib.hid (by rw [hW0]; exact hk.1)
  have HW : Hid (Below w.heap.size w W0) := Lib.hid (by rw [hW0]; exact hk.2)
  have HE := Lib.hid (hE.next HW.out)
  clear hk hE
  have g1 : decide ((2000 : Int) < ((sb l).size : Int)) = false := decide_eq_false (by omega)
  have g2 : decide ((100 : Int) < ((sb c).size : Int)) = false := decide_eq_false (by omega)
  have HhL := Lib.hid (show l.length ≤ 65536 by omega)
  have Hh := Lib.hid h
  obtain ⟨B, hB⟩ : ∃ B, B = (l ++ [10]) := ⟨_, rfl⟩
  obtain ⟨S, hSS⟩ : ∃ S : List UInt8, S = [32] := ⟨_, rfl⟩
  obtain ⟨D, hD⟩ : ∃ D, D = l.drop ta := ⟨_, rfl⟩
  obtain ⟨Y, hY⟩ : ∃ Y, Y = B ++ S := ⟨_, rfl⟩
  obtain ⟨X, hX⟩ : ∃ X, X = Y ++ D := ⟨_, rfl⟩
  have hq' : lex X 0 = .ok V := by rw [hX, hY, hB, hSS, hD]; exact hq
  have hXl : B.length ≤ 2001 ∧ S.length ≤ 103 ∧ D.length ≤ 2000 := by
    have h7 := List.length_take_le' ta l
    have h8 := flt_len c c.length
    rw [List.take_length] at h8
    rw [hB, hSS, hD]
    simp only [List.length_append, List.length_drop, List.length_cons, List.length_nil]
    omega
  have hil := (List.getElem?_eq_some_iff.1 hti).1
  have hT0 : ((T.length : Int) == 0) = false := by rw [beq_eq_false_iff_ne]; omega
  have HRM := Lib.hid (show ∀ W, (binOp .rem 3 (.int .i64 pl) (.int .i64 T.length)).run Tryd.prog W = .ok (.int .i64 i) W from fun W => by rw [← hi]; exact rem_nat pl T.length (by omega) W)
  have HK5 := Lib.hid (show ∀ W, (binOp .rem 5 (.int .u8 kd) (.int .u8 5)).run Tryd.prog W = .ok (.int .u8 (0 : Int)) W from fun W => by have := rem_five kd W; rw [hkd] at this; exact this)
  have HCU := Lib.hid (conv_u8 pl hpl)
  have HTI := Lib.hid hti
  have Hq := Lib.hid hq'
  have HqL := Lib.hid (show X.length ≤ 65536 by rw [hX, hY, List.length_append, List.length_append]; omega)
  have HS := Lib.hid hS
  have HZC := Lib.hid hzc
  have e1 : ((ta : Int) == ((sb l).size : Int)) = true := by rw [beq_iff_eq]; omega
  have HHI := Lib.hid (show ∀ W, (Instr.sliceAt 9 (.string (sb l)) none (some (.int .i64 ta)) none).run Tryd.prog W = .ok (.string (sb (l.take ta))) W from fun W => by exact run_str_hi W l ta hta)
  have HLO := Lib.hid (show ∀ W, (Instr.sliceAt 9 (.string (sb l)) (some (.int .i64 ta)) none none).run Tryd.prog W = .ok (.string (sb D)) W from fun W => by rw [hD]; exact run_str_lo W l ta hta)
  have HM1 := Lib.hid (show ∀ W, (binOp .add 9 (.string ⟨#[35]⟩) (.string (sb (flt c)))).run Tryd.prog W = .ok (.string (sb (35 :: flt c))) W from fun W => cat_any [35] (flt c) (by have h8 := flt_len c c.length; rw [List.take_length] at h8; simp; omega) W)
  have HM2 := Lib.hid (show ∀ W, (binOp .add 9 (.string (sb (35 :: flt c))) (.string ⟨#[10]⟩)).run Tryd.prog W = .ok (.string (sb (35 :: (flt c ++ [10])))) W from fun W => by exact cat_any (35 :: flt c) [10] (by have h8 := flt_len c c.length; rw [List.take_length] at h8; simp; omega) W)
  have HM3 := Lib.hid (show ∀ W, (binOp .add 9 (.string (sb l)) (.string ⟨#[10]⟩)).run Tryd.prog W = .ok (.string (sb B)) W from fun W => by rw [hB]; exact cat_any l [10] (by simp; omega) W)
  have HM4 := Lib.hid (show ∀ W, (binOp .add 9 (.string (sb B)) (.string (⟨#[32]⟩))).run Tryd.prog W = .ok (.string (sb Y)) W from fun W => by
    have := cat_any B S (by omega) W
    rw [← hY] at this
    rw [hSS] at this; exact this)
  have HM5 := Lib.hid (show ∀ W, (binOp .add 9 (.string (sb Y)) (.string (sb D))).run Tryd.prog W = .ok (.string (sb X)) W from fun W => by rw [hX]; exact cat_any Y D (by rw [hY, List.length_append]; omega) W)
  clear hz hzc h hi hti hq hq' hS hkd hte hB hSS hD hY hX hXl
  go_enter Tryd.func6, Tryd.ntmps6
  go_wp2_with fail
  try rw [← hW0]
  clear hW0
  refine late_begin (S := fun _ W => Blk W w.heap.size 38 [.int .u8 pl, .int .u8 kd]) (by kernel_rfl) ?_
  have hE0 := HE.out.next (Below.refl _ _).drew
  have hW0 := HW.out.drew
  have hX0 := HX.out.drew
  generalize W0.drew = u0 at hE0 hW0 hX0 ⊢
  clear HE HW HX
  refine late_take [] (i := 0) (some 18) rfl rfl (by first | rfl | kernel_rfl) (by kernel_rfl) (by kernel_rfl) (by kernel_rfl) (by kernel_rfl) (by kernel_rfl) (fun Ls W h => h) (.pointer (some ⟨w.heap.size, 0, none⟩)) (fun _ _ _ h => h) (fun Ls W hl0 hW => exec_indexAddr 38 (.tmp 5) (.const (.int .i64 0)) rfl _ _ _ rfl rfl (ia__2_uint8_0_0 _ _)) hX0 hX0 ?_
  go_frame
  refine late_take [] (i := 1) (some 19) rfl rfl (by first | rfl | kernel_rfl) (by kernel_rfl) (by kernel_rfl) (by kernel_rfl) (by kernel_rfl) (by kernel_rfl) (fun Ls W h => h) (.int .u8 pl) (fun _ _ _ h => h) (fun Ls W hl0 hW => exec_load 5 (.tmp 18) rfl _ _ rfl (run_load_cell flat_uint8 (hW.cell 0))) hX0 hX0 ?_
  go_frame
  refine late_take [] (i := 2) (some 20) rfl rfl (by first | rfl | kernel_rfl) (by kernel_rfl) (by kernel_rfl) (by kernel_rfl) (by kernel_rfl) (by kernel_rfl) (fun Ls W h => h) (.pointer (some ⟨w.heap.size, 1, none⟩)) (fun _ _ _ h => h) (fun Ls W hl0 hW => exec_indexAddr 38 (.tmp 5) (.const (.int .i64 1)) rfl _ _ _ rfl rfl (ia__2_uint8_1_0 _ _)) hX0 hX0 ?_
  go_frame
  refine late_take [] (i := 3) (some 21) rfl rfl (by first | rfl | kernel_rfl) (by kernel_rfl) (by kernel_rfl) (by kernel_rfl) (by kernel_rfl) (by kernel_rfl) (fun Ls W h => h) (.int .u8 kd) (fun _ _ _ h => h) (fun Ls W hl0 hW => exec_load 5 (.tmp 20) rfl _ _ rfl (run_load_cell flat_uint8 (hW.cell 1))) hX0 hX0 ?_
  go_frame
  refine late_take [] (i := 4) (some 7) rfl rfl (by first | rfl | kernel_rfl) (by kernel_rfl) (by kernel_rfl) (by kernel_rfl) (by kernel_rfl) (by kernel_rfl) (fun Ls W h => h) (.int .u8 pl) (fun _ _ _ h => h) (fun Ls W hl0 hW => exec_assign (.tmp 19) rfl _ rfl) hX0 hX0 ?_
  go_frame
  refine late_take [] (i := 5) (some 8) rfl rfl (by first | rfl | kernel_rfl) (by kernel_rfl) (by kernel_rfl) (by kernel_rfl) (by kernel_rfl) (by kernel_rfl) (fun Ls W h => h) (.int .u8 kd) (fun _ _ _ h => h) (fun Ls W hl0 hW => exec_assign (.tmp 21) rfl _ rfl) hX0 hX0 ?_
  refine late_done (by kernel_rfl) ?_ _
  go_frame
  have HE := Lib.hid hE0
  have HW := Lib.hid hW0
  have HX := Lib.hid hX0
  clear hE0 hW0 hX0
  clear HX
  go_upto_region 2 with fail
  refine wp_region_lit ?_
  refine wpList_run 22 rfl rfl (.string (sb l)) (exec_move (.tmp 0) rfl _ rfl) ?_
  go_frame
  refine wpList_run 23 rfl rfl (.int .i64 (sb l).size) (exec_lenS (.tmp 22) rfl (sb l) rfl) ?_
  go_frame
  refine wpList_run 24 rfl rfl (.bool false) (exec_gtrI _ _ _ _ rfl .i64 ((sb l).size) (2000) false g1 rfl rfl) ?_
  go_frame
  refine wpList_run 25 rfl rfl (.bool false) (exec_move (.tmp 24) rfl _ rfl) ?_
  go_frame
  refine wpList_runG 26 rfl (by first | rfl | kernel_rfl) (.string (sb c)) (exec_move (.tmp 1) rfl _ rfl) ?_
  go_frame
  refine wpList_runG 27 rfl (by first | rfl | kernel_rfl) (.int .i64 (sb c).size) (exec_lenS (.tmp 26) rfl (sb c) rfl) ?_
  go_frame
  refine wpList_runG 28 rfl (by first | rfl | kernel_rfl) (.bool false) (exec_gtrI _ _ _ _ rfl .i64 ((sb c).size) (100) false g2 rfl rfl) ?_
  go_frame
  refine wpList_run 29 rfl rfl (.bool false) (exec_pickF _ _ _ rfl (.bool false) rfl rfl) ?_
  go_frame
  refine wpList_nil ?_
  go_upto_region 5 with (first | ((with_reducible refine (tok_ok l _ (HhL.out) _ HE.out Hh.out).mono ?_); rintro e a1 ⟨⟨A1, c1, rfl, hrd⟩, hb⟩; replace HE := Lib.hid (HE.out.next hb); replace HW := Lib.hid (HW.out.trans (hb.mono HW.out.size)); have HR1 := Lib.hid hrd; clear hrd hb) | (refine wpList_new rfl 26 rfl [.int .i64 0, .int .i64 0] pb_zero ?_; intro d1 HP1 HB1) | (refine wpList_store_all rfl 26 (.tmp 10) (.tmp 35) rfl a1.heap.size 26 [.int .i64 0, .int .i64 0] [.int .i64 0, .int .i64 0] rfl rfl HP1.out rfl pb_size (List.forall_mem_cons.2 ⟨rfl, (List.forall_mem_cons.2 ⟨rfl, fun _ h => nomatch h⟩)⟩) ?_; intro f1 HQ1 ho; have hb := HB1.out.trans (ho.below (Nat.le_refl _)); replace HE := Lib.hid (HE.out.next hb); replace HW := Lib.hid (HW.out.trans (hb.mono HW.out.size)); replace HR1 := Lib.hid (HR1.out.below hb); clear hb ho HP1 HB1))
  go_upto_region 7 with (first | (refine wpList_dst 36 rfl ?_; refine wpList_run 36 rfl rfl _ (exec_fieldAddr 26 (.tmp 10) 1 rfl _ _ rfl (pb_f _ 1 (by decide) _)) ?_; go_frame) | (refine wpList_dst 37 rfl ?_; refine wpList_run 37 rfl rfl _ (exec_load 24 (.tmp 36) rfl _ (.int .i64 0) rfl (run_load_cell er_flat (HQ1.out.cell 1))) ?_; go_frame))
  go_upto_region 9 with fail
  clear HQ1
  obtain ⟨b, off, rfl, hcc⟩ := HR1.out.at (show (T.map toT)[i]? = some (toT ⟨tk, ta, ts, tv⟩) by rw [List.getElem?_map, HTI.out]; rfl)
  simp only [toT] at hcc
  have HC := Lib.hid hcc
  clear hcc
  refine wp_region_lit ?_
  refine wpList_run 43 rfl rfl (.slice (some ⟨b, off, none⟩) T.length c1) (exec_move (.tmp 9) rfl _ rfl) ?_
  go_frame
  refine wpList_run 44 rfl rfl (.int .u8 pl) (exec_move (.tmp 7) rfl _ rfl) ?_
  go_frame
  refine wpList_run 45 rfl rfl (.int .i64 pl) (exec_convert 5 3 (.tmp 44) rfl _ (.int .i64 pl) rfl (HCU.out _)) ?_
  go_frame
  refine wpList_run 46 rfl rfl (.slice (some ⟨b, off, none⟩) T.length c1) (exec_move (.tmp 9) rfl _ rfl) ?_
  go_frame
  refine wpList_run 47 rfl rfl (.int .i64 T.length) (exec_lenT (.tmp 46) rfl _ T.length _ rfl) ?_
  go_frame
  refine wpList_run 48 rfl rfl (.int .i64 i) (exec_bin .rem 3 _ (.tmp 45) (.tmp 47) rfl (.int .i64 pl) (.int .i64 T.length) (.int .i64 i) rfl rfl rfl (HRM.out _)) ?_
  go_frame
  refine wpList_run 49 rfl rfl (.pointer (some ⟨b, off + i * 4, none⟩)) (exec_atT (.tmp 43) (.tmp 48) rfl b off _ c1 i hil rfl rfl) ?_
  go_frame
  refine wpList_run 50 rfl rfl (.pointer (some ⟨b, off + i * 4 + 1, none⟩)) (exec_fieldAddr 33 (.tmp 49) 1 rfl _ _ rfl (tk_f b (off + i * 4) 1 (by decide) _)) ?_
  go_frame
  refine wpList_run 51 rfl rfl (.int .i64 ta) (exec_load 3 (.tmp 50) rfl _ (.int .i64 ta) rfl (run_load_cell int_flat (HC.out 1 (.int .i64 ta) rfl))) ?_
  go_frame
  refine wpList_run 11 rfl rfl (.int .i64 ta) (exec_assign (.tmp 51) rfl _ rfl) ?_
  go_frame
  refine wpList_nil ?_
  go_wp2_with fail
  have HO := Lib.hid (OwnB.nil f1 f1.heap.size)
  have HB := Lib.hid (Below.refl f1.heap.size f1)
  go_loopw [12, 13] (fun a b' wr => ∃ k : Nat, b' = .int .i64 k ∧ k ≤ c.length ∧ Hid (OwnB wr f1.heap.size a (flt (c.take k))) ∧ Hid (Below f1.heap.size f1 wr)) (fun _ b' _ => c.length - (intOf b').toNat)
  case atStart => exact ⟨0, rfl, Nat.zero_le _, HO, HB⟩
  case round =>
    clear HO HB
    obtain ⟨k, rfl, hk, HO, HB⟩ := hrel
    have hacc := flt_len c k
    by_cases hlt : k < c.length
    · obtain ⟨d, hd⟩ : ∃ d, c[k]? = some d := ⟨c[k], List.getElem?_eq_getElem hlt⟩
      have HD := Lib.hid (show (sb c).data.toList[k]? = some d by rw [sb_list]; exact hd)
      have HN := Lib.hid (flt_next hd)
      have h1 : decide ((k : Int) < ((sb c).size : Int)) = true := decide_eq_true (by rw [HZC.out]; omega)
      clear hd
      generalize flt (c.take k) = acc at HO HN hacc
      by_cases hn : nlf d = true
      · have m10 : ((d.toNat : Int) != 10) = true := by
          have : d.toNat ≠ 10 := by simpa [nlf] using hn
          rw [bne_iff_ne]; omega
        have HN2 := Lib.hid (show flt (c.take (k + 1)) = acc ++ [d] by rw [HN.out, if_pos hn])
        clear hn HN
        go_wp2_with (first | (refine wpList_dst 60 rfl ?_; refine wpList_run 60 rfl rfl _ (exec_index 9 (.tmp 58) (.tmp 59) rfl _ _ (.int .u8 d.toNat) rfl rfl (sb_at (sb c) (k := k) HD.out _)) ?_; go_frame) | (refine wpList_dst 65 rfl ?_; refine wpList_run 65 rfl rfl _ (exec_index 9 (.tmp 63) (.tmp 64) rfl _ _ (.int .u8 d.toNat) rfl rfl (sb_at (sb c) (k := k) HD.out _)) ?_; go_frame) | (at_builtin; refine wpList_push rfl (.tmp 62) (.tmp 66) rfl f1.heap.size _ acc rfl HO.out _ d rfl HB.out.size (by omega) rfl ?_; intro v5 w5 ho5 hb5; have HO5 := Lib.hid ho5; have HB5 := Lib.hid (HB.out.trans hb5); clear ho5 hb5 HO HB))
        go_roundw
        case rel => exact ⟨k + 1, by go_num, by omega, Lib.hid (by rw [HN2.out]; exact HO5.out), HB5⟩
        case measure => simp [intOf]; omega
      · have m10 : ((d.toNat : Int) != 10) = false := by
          have : d.toNat = 10 := by simpa [nlf] using hn
          rw [this]; rfl
        have HN2 := Lib.hid (show flt (c.take (k + 1)) = acc by rw [HN.out, if_neg hn])
        clear hn HN
        go_wp2_with (first | (refine wpList_dst 60 rfl ?_; refine wpList_run 60 rfl rfl _ (exec_index 9 (.tmp 58) (.tmp 59) rfl _ _ (.int .u8 d.toNat) rfl rfl (sb_at (sb c) (k := k) HD.out _)) ?_; go_frame))
        go_roundw
        case rel => exact ⟨k + 1, by go_num, by omega, Lib.hid (by rw [HN2.out]; exact HO.out), HB⟩
        case measure => simp [intOf]; omega
    · obtain rfl : k = c.length := by omega
      have h1 : decide ((c.length : Int) < ((sb c).size : Int)) = false := decide_eq_false (by rw [HZC.out]; omega)
      have ho := HO.out
      rw [List.take_length] at ho
      replace HE := Lib.hid (HE.out.next HB.out)
      replace HR1 := Lib.hid (HR1.out.below HB.out)
      replace HW := Lib.hid (HW.out.trans (HB.out.mono HW.out.size))
      obtain ⟨A5, c5, rfl, _, hc5⟩ := ho.form
      have HO5 := Lib.hid ho
      clear ho HO HB hc5
      go_upto_region 24 with (first | (refine wpList_dst 69 rfl ?_; refine wpList_run 69 rfl rfl _ (exec_convert 39 9 (.tmp 68) rfl _ (.string (sb (flt c))) rfl (run_str (OwnB.rd HO5.out) c5)) ?_; go_frame) | (refine wpList_dst 70 rfl ?_; refine wpList_run 70 rfl rfl _ (exec_bin .add 9 _ _ (.tmp 69) rfl (.string ⟨#[35]⟩) (.string (sb (flt c))) (.string (sb (35 :: flt c))) rfl rfl rfl (HM1.out _)) ?_; go_frame) | (refine wpList_dst 71 rfl ?_; refine wpList_run 71 rfl rfl _ (exec_bin .add 9 _ (.tmp 70) _ rfl (.string (sb (35 :: flt c))) (.string ⟨#[10]⟩) (.string (sb (35 :: (flt c ++ [10])))) rfl rfl rfl (HM2.out _)) ?_; go_frame) | (refine wpList_dst 73 rfl ?_; refine wpList_run 73 rfl rfl _ (exec_bin .rem 5 _ (.tmp 72) _ rfl (.int .u8 kd) (.int .u8 5) (.int .u8 (0 : Int)) rfl rfl rfl (HK5.out _)) ?_; go_frame))
      clear HO5 HM1 HM2 HK5
      go_upto_region 27 with (first | (refine wpList_dst 82 rfl ?_; refine wpList_run 82 rfl rfl _ (exec_slice_hi 9 (.tmp 80) (.tmp 81) rfl (.string (sb l)) (.int .i64 ta) (.string (sb (l.take ta))) rfl rfl (HHI.out _)) ?_; go_frame) | (refine wpList_dst 88 rfl ?_; refine wpList_run 88 rfl rfl _ (exec_bin .add 9 _ (.tmp 87) _ rfl (.string (sb l)) (.string ⟨#[10]⟩) (.string (sb B)) rfl rfl rfl (HM3.out _)) ?_; go_frame))
      go_upto_region 28 with (first | (refine wpList_dst 92 rfl ?_; refine wpList_run 92 rfl rfl _ (exec_bin .add 9 _ (.tmp 90) (.tmp 91) rfl (.string (sb B)) (.string (⟨#[32]⟩)) (.string (sb Y)) rfl rfl rfl (HM4.out _)) ?_; go_frame) | (refine wpList_dst 95 rfl ?_; refine wpList_run 95 rfl rfl _ (exec_slice_lo 9 (.tmp 93) (.tmp 94) rfl (.string (sb l)) (.int .i64 ta) (.string (sb D)) rfl rfl (HLO.out _)) ?_; go_frame) | (refine wpList_dst 96 rfl ?_; refine wpList_run 96 rfl rfl _ (exec_bin .add 9 _ (.tmp 92) (.tmp 95) rfl (.string (sb Y)) (.string (sb D)) (.string (sb X)) rfl rfl rfl (HM5.out _)) ?_; go_frame) | ((with_reducible refine (tok_ok X _ (HqL.out) _ HE.out Hq.out).mono ?_); rintro e a2 ⟨⟨A2, c2, rfl, hrd⟩, hb⟩; replace HE := Lib.hid (HE.out.next hb); replace HW := Lib.hid (HW.out.trans (hb.mono HW.out.size)); replace HR1 := Lib.hid (HR1.out.below hb); have HR2 := Lib.hid hrd; clear hrd hb) | (refine wpList_new rfl 26 rfl [.int .i64 0, .int .i64 0] pb_zero ?_; intro d2 HP2 HB2) | (refine wpList_store_all rfl 26 (.tmp 17) (.tmp 99) rfl a2.heap.size 26 [.int .i64 0, .int .i64 0] [.int .i64 0, .int .i64 0] rfl rfl HP2.out rfl pb_size (List.forall_mem_cons.2 ⟨rfl, (List.forall_mem_cons.2 ⟨rfl, fun _ h => nomatch h⟩)⟩) ?_; intro f2 HQ2 ho; have hb := HB2.out.trans (ho.below (Nat.le_refl _)); replace HE := Lib.hid (HE.out.next hb); replace HW := Lib.hid (HW.out.trans (hb.mono HW.out.size)); replace HR1 := Lib.hid (HR1.out.below hb); replace HR2 := Lib.hid (HR2.out.below hb); clear hb ho HP2 HB2))
      go_wp2_with (first | ((with_reducible refine (sanity_any _ HE.out).mono ?_); rintro e wy ⟨rfl, hb⟩; replace HE := Lib.hid (HE.out.next hb); replace HW := Lib.hid (HW.out.trans (hb.mono HW.out.size)); replace HR1 := Lib.hid (HR1.out.below hb); replace HR2 := Lib.hid (HR2.out.below hb); replace HQ2 := Lib.hid (HQ2.out.next hb); clear hb) | (refine wpList_dst 102 rfl ?_; refine wpList_runG 102 rfl rfl _ (exec_load 26 (.tmp 17) rfl _ (.agg #[.int .i64 0, .int .i64 0]) rfl (run_load_part _ 26 _ 0 2 _ [.int .i64 0, .int .i64 0] _ HQ2.out (by simp) Tryd.underlying26 rfl pb_size)) ?_; go_frame) | (refine wpList_dst 103 rfl ?_; refine wpList_runG 103 rfl rfl _ (exec_buildF 26 #[] rfl #[] rfl _ (build_pb0 _)) ?_; go_frame) | (refine wpList_dst 104 rfl ?_; refine wpList_runG 104 rfl rfl _ (exec_bin .eql 26 _ (.tmp 102) (.tmp 103) rfl (.agg #[.int .i64 0, .int .i64 0]) (.agg #[.int .i64 0, .int .i64 0]) _ rfl rfl (pb_gd _ _ _ _ _) (pb_eq0 _)) ?_; go_frame) | ((with_reducible refine (HS.out _ _ _ _ _ HR1.out HR2.out).mono ?_); rintro e ws ⟨rfl, hb⟩; replace HE := Lib.hid (HE.out.next hb); replace HW := Lib.hid (HW.out.trans (hb.mono HW.out.size)); replace HR1 := Lib.hid (HR1.out.below hb); replace HR2 := Lib.hid (HR2.out.below hb); replace HQ2 := Lib.hid (HQ2.out.next hb); clear hb))
      refine bodyPost_ret (results_tmp (t := 6) rfl _ _ _) ?_ ?_
      · rfl
      · exact ⟨rfl, HW.out⟩
set_option maxRecDepth 100000 in
set_option maxHeartbeats 3000000 in
theorem blanks_0n (l c : List UInt8) (pl kd : Nat) (w : World) (hE : Env w) (hl : l.length ≤ 2000) (hc : c.length ≤ 100) (hpl : pl < 256) (hkd : kd % 5 = 0) (T V : List Tok) (i tk ta tv : Nat) (ts : List UInt8) (h : lex l 0 = .ok T) (hi : pl % T.length = i) (hti : T[i]? = some ⟨tk, ta, ts, tv⟩) (hta : ta ≤ l.length) (hte : ta ≠ l.length) (hq : lex ((l.take ta) ++ [32] ++ l.drop ta) 0 = .ok V) (hS : ∀ (A B : Option Addr) (cA cB : Nat) (W : World), RdT W A (T.map toT) → RdT W B (V.map toT) → Calls Tryd.prog 13 #[.slice A T.length cA, .slice B V.length cB] W fun e w' => e = .returned (.bool true) ∧ Below W.heap.size W w') : Calls Tryd.prog 6 #[.string (sb l), .string (sb c), .agg #[.int .u8 pl, .int .u8 kd]] w fun e w' => e = .returned (.bool true) ∧ Below w.heap.size w w' := by
  have hz : (sb l).size = l.length := sb_size l
  have hzc : (sb c).size = c.length := sb_size c
  obtain ⟨W0, hW0⟩ : ∃ W, W = w.alloc (.cells #[.int .u8 pl, .int .u8 kd] 38) := ⟨_, rfl⟩
  have hk := one_var w 38 [.int .u8 pl, .int .u8 kd]
  have HX : Hid (Blk W0 w.heap.size 38 [.int .u8 pl, .int .u8 kd]) := Lib.hid (by rw [hW0]; exact hk.1)
  have HW : Hid (Below w.heap.size w W0) := Lib.hid (by rw [hW0]; exact hk.2)
  have HE := Lib.hid (hE.next HW.out)
  clear hk hE
  have g1 : decide ((2000 : Int) < ((sb l).size : Int)) = false := decide_eq_false (by omega)
  have g2 : decide ((100 : Int) < ((sb c).size : Int)) = false := decide_eq_false (by omega)
  have HhL := Lib.hid (show l.length ≤ 65536 by omega)
  have Hh := Lib.hid h
  obtain ⟨B, hB⟩ : ∃ B, B = (l.take ta) := ⟨_, rfl⟩
  obtain ⟨S, hSS⟩ : ∃ S : List UInt8, S = [32] := ⟨_, rfl⟩
  obtain ⟨D, hD⟩ : ∃ D, D = l.drop ta := ⟨_, rfl⟩
  obtain ⟨Y, hY⟩ : ∃ Y, Y = B ++ S := ⟨_, rfl⟩
  obtain ⟨X, hX⟩ : ∃ X, X = Y ++ D := ⟨_, rfl⟩
  have hq' : lex X 0 = .ok V := by rw [hX, hY, hB, hSS, hD]; exact hq
  have hXl : B.length ≤ 2001 ∧ S.length ≤ 103 ∧ D.length ≤ 2000 := by
    have h7 := List.length_take_le' ta l
    have h8 := flt_len c c.length
    rw [List.take_length] at h8
    rw [hB, hSS, hD]
    simp only [List.length_drop, List.length_cons, List.length_nil]
    omega
  have hil := (List.getElem?_eq_some_iff.1 hti).1
  have hT0 : ((T.length : Int) == 0) = false := by rw [beq_eq_false_iff_ne]; omega
  have HRM := Lib.hid (show ∀ W, (binOp .rem 3 (.int .i64 pl) (.int .i64 T.length)).run Tryd.prog W = .ok (.int .i64 i) W from fun W => by rw [← hi]; exact rem_nat pl T.length (by omega) W)
  have HK5 := Lib.hid (show ∀ W, (binOp .rem 5 (.int .u8 kd) (.int .u8 5)).run Tryd.prog W = .ok (.int .u8 (0 : Int)) W from fun W => by have := rem_five kd W; rw [hkd] at this; exact this)
  have HCU := Lib.hid (conv_u8 pl hpl)
  have HTI := Lib.hid hti
  have Hq := Lib.hid hq'
  have HqL := Lib.hid (show X.length ≤ 65536 by rw [hX, hY, List.length_append, List.length_append]; omega)
  have HS := Lib.hid hS
  have HZC := Lib.hid hzc
  have e1 : ((ta : Int) == ((sb l).size : Int)) = false := by rw [beq_eq_false_iff_ne]; omega
  have HHI := Lib.hid (show ∀ W, (Instr.sliceAt 9 (.string (sb l)) none (some (.int .i64 ta)) none).run Tryd.prog W = .ok (.string (sb B)) W from fun W => by rw [hB]; exact run_str_hi W l ta hta)
  have HLO := Lib.hid (show ∀ W, (Instr.sliceAt 9 (.string (sb l)) (some (.int .i64 ta)) none none).run Tryd.prog W = .ok (.string (sb D)) W from fun W => by rw [hD]; exact run_str_lo W l ta hta)
  have HM1 := Lib.hid (show ∀ W, (binOp .add 9 (.string ⟨#[35]⟩) (.string (sb (flt c)))).run Tryd.prog W = .ok (.string (sb (35 :: flt c))) W from fun W => cat_any [35] (flt c) (by have h8 := flt_len c c.length; rw [List.take_length] at h8; simp; omega) W)
  have HM2 := Lib.hid (show ∀ W, (binOp .add 9 (.string (sb (35 :: flt c))) (.string ⟨#[10]⟩)).run Tryd.prog W = .ok (.string (sb (35 :: (flt c ++ [10])))) W from fun W => by exact cat_any (35 :: flt c) [10] (by have h8 := flt_len c c.length; rw [List.take_length] at h8; simp; omega) W)
  have HM4 := Lib.hid (show ∀ W, (binOp .add 9 (.string (sb B)) (.string (⟨#[32]⟩))).run Tryd.prog W = .ok (.string (sb Y)) W from fun W => by
    have := cat_any B S (by omega) W
    rw [← hY] at this
    rw [hSS] at this; exact this)
  have HM5 := Lib.hid (show ∀ W, (binOp .add 9 (.string (sb Y)) (.string (sb D))).run Tryd.prog W = .ok (.string (sb X)) W from fun W => by rw [hX]; exact cat_any Y D (by rw [hY, List.length_append]; omega) W)
  clear hz hzc h hi hti hq hq' hS hkd hte hB hSS hD hY hX hXl
  go_enter Tryd.func6, Tryd.ntmps6
  go_wp2_with fail
  try rw [← hW0]
  clear hW0
  refine late_begin (S := fun _ W => Blk W w.heap.size 38 [.int .u8 pl, .int .u8 kd]) (by kernel_rfl) ?_
  have hE0 := HE.out.next (Below.refl _ _).drew
  have hW0 := HW.out.drew
  have hX0 := HX.out.drew
  generalize W0.drew = u0 at hE0 hW0 hX0 ⊢
  clear HE HW HX
  refine late_take [] (i := 0) (some 18) rfl rfl (by first | rfl | kernel_rfl) (by kernel_rfl) (by kernel_rfl) (by kernel_rfl) (by kernel_rfl) (by kernel_rfl) (fun Ls W h => h) (.pointer (some ⟨w.heap.size, 0, none⟩)) (fun _ _ _ h => h) (fun Ls W hl0 hW => exec_indexAddr 38 (.tmp 5) (.const (.int .i64 0)) rfl _ _ _ rfl rfl (ia__2_uint8_0_0 _ _)) hX0 hX0 ?_
  go_frame
  refine late_take [] (i := 1) (some 19) rfl rfl (by first | rfl | kernel_rfl) (by kernel_rfl) (by kernel_rfl) (by kernel_rfl) (by kernel_rfl) (by kernel_rfl) (fun Ls W h => h) (.int .u8 pl) (fun _ _ _ h => h) (fun Ls W hl0 hW => exec_load 5 (.tmp 18) rfl _ _ rfl (run_load_cell flat_uint8 (hW.cell 0))) hX0 hX0 ?_
  go_frame
  refine late_take [] (i := 2) (some 20) rfl rfl (by first | rfl | kernel_rfl) (by kernel_rfl) (by kernel_rfl) (by kernel_rfl) (by kernel_rfl) (by kernel_rfl) (fun Ls W h => h) (.pointer (some ⟨w.heap.size, 1, none⟩)) (fun _ _ _ h => h) (fun Ls W hl0 hW => exec_indexAddr 38 (.tmp 5) (.const (.int .i64 1)) rfl _ _ _ rfl rfl (ia__2_uint8_1_0 _ _)) hX0 hX0 ?_
  go_frame
  refine late_take [] (i := 3) (some 21) rfl rfl (by first | rfl | kernel_rfl) (by kernel_rfl) (by kernel_rfl) (by kernel_rfl) (by kernel_rfl) (by kernel_rfl) (fun Ls W h => h) (.int .u8 kd) (fun _ _ _ h => h) (fun Ls W hl0 hW => exec_load 5 (.tmp 20) rfl _ _ rfl (run_load_cell flat_uint8 (hW.cell 1))) hX0 hX0 ?_
  go_frame
  refine late_take [] (i := 4) (some 7) rfl rfl (by first | rfl | kernel_rfl) (by kernel_rfl) (by kernel_rfl) (by kernel_rfl) (by kernel_rfl) (by kernel_rfl) (fun Ls W h => h) (.int .u8 pl) (fun _ _ _ h => h) (fun Ls W hl0 hW => exec_assign (.tmp 19) rfl _ rfl) hX0 hX0 ?_
  go_frame
  refine late_take [] (i := 5) (some 8) rfl rfl (by first | rfl | kernel_rfl) (by kernel_rfl) (by kernel_rfl) (by kernel_rfl) (by kernel_rfl) (by kernel_rfl) (fun Ls W h => h) (.int .u8 kd) (fun _ _ _ h => h) (fun Ls W hl0 hW => exec_assign (.tmp 21) rfl _ rfl) hX0 hX0 ?_
  refine late_done (by kernel_rfl) ?_ _
  go_frame
  have HE := Lib.hid hE0
  have HW := Lib.hid hW0
  have HX := Lib.hid hX0
  clear hE0 hW0 hX0
  clear HX
  go_upto_region 2 with fail
  refine wp_region_lit ?_
  refine wpList_run 22 rfl rfl (.string (sb l)) (exec_move (.tmp 0) rfl _ rfl) ?_
  go_frame
  refine wpList_run 23 rfl rfl (.int .i64 (sb l).size) (exec_lenS (.tmp 22) rfl (sb l) rfl) ?_
  go_frame
  refine wpList_run 24 rfl rfl (.bool false) (exec_gtrI _ _ _ _ rfl .i64 ((sb l).size) (2000) false g1 rfl rfl) ?_
  go_frame
  refine wpList_run 25 rfl rfl (.bool false) (exec_move (.tmp 24) rfl _ rfl) ?_
  go_frame
  refine wpList_runG 26 rfl (by first | rfl | kernel_rfl) (.string (sb c)) (exec_move (.tmp 1) rfl _ rfl) ?_
  go_frame
  refine wpList_runG 27 rfl (by first | rfl | kernel_rfl) (.int .i64 (sb c).size) (exec_lenS (.tmp 26) rfl (sb c) rfl) ?_
  go_frame
  refine wpList_runG 28 rfl (by first | rfl | kernel_rfl) (.bool false) (exec_gtrI _ _ _ _ rfl .i64 ((sb c).size) (100) false g2 rfl rfl) ?_
  go_frame
  refine wpList_run 29 rfl rfl (.bool false) (exec_pickF _ _ _ rfl (.bool false) rfl rfl) ?_
  go_frame
  refine wpList_nil ?_
  go_upto_region 5 with (first | ((with_reducible refine (tok_ok l _ (HhL.out) _ HE.out Hh.out).mono ?_); rintro e a1 ⟨⟨A1, c1, rfl, hrd⟩, hb⟩; replace HE := Lib.hid (HE.out.next hb); replace HW := Lib.hid (HW.out.trans (hb.mono HW.out.size)); have HR1 := Lib.hid hrd; clear hrd hb) | (refine wpList_new rfl 26 rfl [.int .i64 0, .int .i64 0] pb_zero ?_; intro d1 HP1 HB1) | (refine wpList_store_all rfl 26 (.tmp 10) (.tmp 35) rfl a1.heap.size 26 [.int .i64 0, .int .i64 0] [.int .i64 0, .int .i64 0] rfl rfl HP1.out rfl pb_size (List.forall_mem_cons.2 ⟨rfl, (List.forall_mem_cons.2 ⟨rfl, fun _ h => nomatch h⟩)⟩) ?_; intro f1 HQ1 ho; have hb := HB1.out.trans (ho.below (Nat.le_refl _)); replace HE := Lib.hid (HE.out.next hb); replace HW := Lib.hid (HW.out.trans (hb.mono HW.out.size)); replace HR1 := Lib.hid (HR1.out.below hb); clear hb ho HP1 HB1))
  go_upto_region 7 with (first | (refine wpList_dst 36 rfl ?_; refine wpList_run 36 rfl rfl _ (exec_fieldAddr 26 (.tmp 10) 1 rfl _ _ rfl (pb_f _ 1 (by decide) _)) ?_; go_frame) | (refine wpList_dst 37 rfl ?_; refine wpList_run 37 rfl rfl _ (exec_load 24 (.tmp 36) rfl _ (.int .i64 0) rfl (run_load_cell er_flat (HQ1.out.cell 1))) ?_; go_frame))
  go_upto_region 9 with fail
  clear HQ1
  obtain ⟨b, off, rfl, hcc⟩ := HR1.out.at (show (T.map toT)[i]? = some (toT ⟨tk, ta, ts, tv⟩) by rw [List.getElem?_map, HTI.out]; rfl)
  simp only [toT] at hcc
  have HC := Lib.hid hcc
  clear hcc
  refine wp_region_lit ?_
  refine wpList_run 43 rfl rfl (.slice (some ⟨b, off, none⟩) T.length c1) (exec_move (.tmp 9) rfl _ rfl) ?_
  go_frame
  refine wpList_run 44 rfl rfl (.int .u8 pl) (exec_move (.tmp 7) rfl _ rfl) ?_
  go_frame
  refine wpList_run 45 rfl rfl (.int .i64 pl) (exec_convert 5 3 (.tmp 44) rfl _ (.int .i64 pl) rfl (HCU.out _)) ?_
  go_frame
  refine wpList_run 46 rfl rfl (.slice (some ⟨b, off, none⟩) T.length c1) (exec_move (.tmp 9) rfl _ rfl) ?_
  go_frame
  refine wpList_run 47 rfl rfl (.int .i64 T.length) (exec_lenT (.tmp 46) rfl _ T.length _ rfl) ?_
  go_frame
  refine wpList_run 48 rfl rfl (.int .i64 i) (exec_bin .rem 3 _ (.tmp 45) (.tmp 47) rfl (.int .i64 pl) (.int .i64 T.length) (.int .i64 i) rfl rfl rfl (HRM.out _)) ?_
  go_frame
  refine wpList_run 49 rfl rfl (.pointer (some ⟨b, off + i * 4, none⟩)) (exec_atT (.tmp 43) (.tmp 48) rfl b off _ c1 i hil rfl rfl) ?_
  go_frame
  refine wpList_run 50 rfl rfl (.pointer (some ⟨b, off + i * 4 + 1, none⟩)) (exec_fieldAddr 33 (.tmp 49) 1 rfl _ _ rfl (tk_f b (off + i * 4) 1 (by decide) _)) ?_
  go_frame
  refine wpList_run 51 rfl rfl (.int .i64 ta) (exec_load 3 (.tmp 50) rfl _ (.int .i64 ta) rfl (run_load_cell int_flat (HC.out 1 (.int .i64 ta) rfl))) ?_
  go_frame
  refine wpList_run 11 rfl rfl (.int .i64 ta) (exec_assign (.tmp 51) rfl _ rfl) ?_
  go_frame
  refine wpList_nil ?_
  go_wp2_with fail
  have HO := Lib.hid (OwnB.nil f1 f1.heap.size)
  have HB := Lib.hid (Below.refl f1.heap.size f1)
  go_loopw [12, 13] (fun a b' wr => ∃ k : Nat, b' = .int .i64 k ∧ k ≤ c.length ∧ Hid (OwnB wr f1.heap.size a (flt (c.take k))) ∧ Hid (Below f1.heap.size f1 wr)) (fun _ b' _ => c.length - (intOf b').toNat)
  case atStart => exact ⟨0, rfl, Nat.zero_le _, HO, HB⟩
  case round =>
    clear HO HB
    obtain ⟨k, rfl, hk, HO, HB⟩ := hrel
    have hacc := flt_len c k
    by_cases hlt : k < c.length
    · obtain ⟨d, hd⟩ : ∃ d, c[k]? = some d := ⟨c[k], List.getElem?_eq_getElem hlt⟩
      have HD := Lib.hid (show (sb c).data.toList[k]? = some d by rw [sb_list]; exact hd)
      have HN := Lib.hid (flt_next hd)
      have h1 : decide ((k : Int) < ((sb c).size : Int)) = true := decide_eq_true (by rw [HZC.out]; omega)
      clear hd
      generalize flt (c.take k) = acc at HO HN hacc
      by_cases hn : nlf d = true
      · have m10 : ((d.toNat : Int) != 10) = true := by
          have : d.toNat ≠ 10 := by simpa [nlf] using hn
          rw [bne_iff_ne]; omega
        have HN2 := Lib.hid (show flt (c.take (k + 1)) = acc ++ [d] by rw [HN.out, if_pos hn])
        clear hn HN
        go_wp2_with (first | (refine wpList_dst 60 rfl ?_; refine wpList_run 60 rfl rfl _ (exec_index 9 (.tmp 58) (.tmp 59) rfl _ _ (.int .u8 d.toNat) rfl rfl (sb_at (sb c) (k := k) HD.out _)) ?_; go_frame) | (refine wpList_dst 65 rfl ?_; refine wpList_run 65 rfl rfl _ (exec_index 9 (.tmp 63) (.tmp 64) rfl _ _ (.int .u8 d.toNat) rfl rfl (sb_at (sb c) (k := k) HD.out _)) ?_; go_frame) | (at_builtin; refine wpList_push rfl (.tmp 62) (.tmp 66) rfl f1.heap.size _ acc rfl HO.out _ d rfl HB.out.size (by omega) rfl ?_; intro v5 w5 ho5 hb5; have HO5 := Lib.hid ho5; have HB5 := Lib.hid (HB.out.trans hb5); clear ho5 hb5 HO HB))
        go_roundw
        case rel => exact ⟨k + 1, by go_num, by omega, Lib.hid (by rw [HN2.out]; exact HO5.out), HB5⟩
        case measure => simp [intOf]; omega
      · have m10 : ((d.toNat : Int) != 10) = false := by
          have : d.toNat = 10 := by simpa [nlf] using hn
          rw [this]; rfl
        have HN2 := Lib.hid (show flt (c.take (k + 1)) = acc by rw [HN.out, if_neg hn])
        clear hn HN
        go_wp2_with (first | (refine wpList_dst 60 rfl ?_; refine wpList_run 60 rfl rfl _ (exec_index 9 (.tmp 58) (.tmp 59) rfl _ _ (.int .u8 d.toNat) rfl rfl (sb_at (sb c) (k := k) HD.out _)) ?_; go_frame))
        go_roundw
        case rel => exact ⟨k + 1, by go_num, by omega, Lib.hid (by rw [HN2.out]; exact HO.out), HB⟩
        case measure => simp [intOf]; omega
    · obtain rfl : k = c.length := by omega
      have h1 : decide ((c.length : Int) < ((sb c).size : Int)) = false := decide_eq_false (by rw [HZC.out]; omega)
      have ho := HO.out
      rw [List.take_length] at ho
      replace HE := Lib.hid (HE.out.next HB.out)
      replace HR1 := Lib.hid (HR1.out.below HB.out)
      replace HW := Lib.hid (HW.out.trans (HB.out.mono HW.out.size))
      obtain ⟨A5, c5, rfl, _, hc5⟩ := ho.form
      have HO5 := Lib.hid ho
      clear ho HO HB hc5
      go_upto_region 24 with (first | (refine wpList_dst 69 rfl ?_; refine wpList_run 69 rfl rfl _ (exec_convert 39 9 (.tmp 68) rfl _ (.string (sb (flt c))) rfl (run_str (OwnB.rd HO5.out) c5)) ?_; go_frame) | (refine wpList_dst 70 rfl ?_; refine wpList_run 70 rfl rfl _ (exec_bin .add 9 _ _ (.tmp 69) rfl (.string ⟨#[35]⟩) (.string (sb (flt c))) (.string (sb (35 :: flt c))) rfl rfl rfl (HM1.out _)) ?_; go_frame) | (refine wpList_dst 71 rfl ?_; refine wpList_run 71 rfl rfl _ (exec_bin .add 9 _ (.tmp 70) _ rfl (.string (sb (35 :: flt c))) (.string ⟨#[10]⟩) (.string (sb (35 :: (flt c ++ [10])))) rfl rfl rfl (HM2.out _)) ?_; go_frame) | (refine wpList_dst 73 rfl ?_; refine wpList_run 73 rfl rfl _ (exec_bin .rem 5 _ (.tmp 72) _ rfl (.int .u8 kd) (.int .u8 5) (.int .u8 (0 : Int)) rfl rfl rfl (HK5.out _)) ?_; go_frame))
      clear HO5 HM1 HM2 HK5
      go_upto_region 27 with (first | (refine wpList_dst 82 rfl ?_; refine wpList_run 82 rfl rfl _ (exec_slice_hi 9 (.tmp 80) (.tmp 81) rfl (.string (sb l)) (.int .i64 ta) (.string (sb B)) rfl rfl (HHI.out _)) ?_; go_frame))
      go_upto_region 28 with (first | (refine wpList_dst 92 rfl ?_; refine wpList_run 92 rfl rfl _ (exec_bin .add 9 _ (.tmp 90) (.tmp 91) rfl (.string (sb B)) (.string (⟨#[32]⟩)) (.string (sb Y)) rfl rfl rfl (HM4.out _)) ?_; go_frame) | (refine wpList_dst 95 rfl ?_; refine wpList_run 95 rfl rfl _ (exec_slice_lo 9 (.tmp 93) (.tmp 94) rfl (.string (sb l)) (.int .i64 ta) (.string (sb D)) rfl rfl (HLO.out _)) ?_; go_frame) | (refine wpList_dst 96 rfl ?_; refine wpList_run 96 rfl rfl _ (exec_bin .add 9 _ (.tmp 92) (.tmp 95) rfl (.string (sb Y)) (.string (sb D)) (.string (sb X)) rfl rfl rfl (HM5.out _)) ?_; go_frame) | ((with_reducible refine (tok_ok X _ (HqL.out) _ HE.out Hq.out).mono ?_); rintro e a2 ⟨⟨A2, c2, rfl, hrd⟩, hb⟩; replace HE := Lib.hid (HE.out.next hb); replace HW := Lib.hid (HW.out.trans (hb.mono HW.out.size)); replace HR1 := Lib.hid (HR1.out.below hb); have HR2 := Lib.hid hrd; clear hrd hb) | (refine wpList_new rfl 26 rfl [.int .i64 0, .int .i64 0] pb_zero ?_; intro d2 HP2 HB2) | (refine wpList_store_all rfl 26 (.tmp 17) (.tmp 99) rfl a2.heap.size 26 [.int .i64 0, .int .i64 0] [.int .i64 0, .int .i64 0] rfl rfl HP2.out rfl pb_size (List.forall_mem_cons.2 ⟨rfl, (List.forall_mem_cons.2 ⟨rfl, fun _ h => nomatch h⟩)⟩) ?_; intro f2 HQ2 ho; have hb := HB2.out.trans (ho.below (Nat.le_refl _)); replace HE := Lib.hid (HE.out.next hb); replace HW := Lib.hid (HW.out.trans (hb.mono HW.out.size)); replace HR1 := Lib.hid (HR1.out.below hb); replace HR2 := Lib.hid (HR2.out.below hb); clear hb ho HP2 HB2))
      go_wp2_with (first | ((with_reducible refine (sanity_any _ HE.out).mono ?_); rintro e wy ⟨rfl, hb⟩; replace HE := Lib.hid (HE.out.next hb); replace HW := Lib.hid (HW.out.trans (hb.mono HW.out.size)); replace HR1 := Lib.hid (HR1.out.below hb); replace HR2 := Lib.hid (HR2.out.below hb); replace HQ2 := Lib.hid (HQ2.out.next hb); clear hb) | (refine wpList_dst 102 rfl ?_; refine wpList_runG 102 rfl rfl _ (exec_load 26 (.tmp 17) rfl _ (.agg #[.int .i64 0, .int .i64 0]) rfl (run_load_part _ 26 _ 0 2 _ [.int .i64 0, .int .i64 0] _ HQ2.out (by simp) Tryd.underlying26 rfl pb_size)) ?_; go_frame) | (refine wpList_dst 103 rfl ?_; refine wpList_runG 103 rfl rfl _ (exec_buildF 26 #[] rfl #[] rfl _ (build_pb0 _)) ?_; go_frame) | (refine wpList_dst 104 rfl ?_; refine wpList_runG 104 rfl rfl _ (exec_bin .eql 26 _ (.tmp 102) (.tmp 103) rfl (.agg #[.int .i64 0, .int .i64 0]) (.agg #[.int .i64 0, .int .i64 0]) _ rfl rfl (pb_gd _ _ _ _ _) (pb_eq0 _)) ?_; go_frame) | ((with_reducible refine (HS.out _ _ _ _ _ HR1.out HR2.out).mono ?_); rintro e ws ⟨rfl, hb⟩; replace HE := Lib.hid (HE.out.next hb); replace HW := Lib.hid (HW.out.trans (hb.mono HW.out.size)); replace HR1 := Lib.hid (HR1.out.below hb); replace HR2 := Lib.hid (HR2.out.below hb); replace HQ2 := Lib.hid (HQ2.out.next hb); clear hb))
      refine bodyPost_ret (results_tmp (t := 6) rfl _ _ _) ?_ ?_
      · rfl
      · exact ⟨rfl, HW.out⟩
set_option maxRecDepth 100000 in
set_option maxHeartbeats 3000000 in
theorem blanks_1e (l c : List UInt8) (pl kd : Nat) (w : World) (hE : Env w) (hl : l.length ≤ 2000) (hc : c.length ≤ 100) (hpl : pl < 256) (hkd : kd % 5 = 1) (T V : List Tok) (i tk ta tv : Nat) (ts : List UInt8) (h : lex l 0 = .ok T) (hi : pl % T.length = i) (hti : T[i]? = some ⟨tk, ta, ts, tv⟩) (hta : ta ≤ l.length) (hte : ta = l.length) (hq : lex ((l ++ [10]) ++ [9, 13] ++ l.drop ta) 0 = .ok V) (hS : ∀ (A B : Option Addr) (cA cB : Nat) (W : World), RdT W A (T.map toT) → RdT W B (V.map toT) → Calls Tryd.prog 13 #[.slice A T.length cA, .slice B V.length cB] W fun e w' => e = .returned (.bool true) ∧ Below W.heap.size W w') : Calls Tryd.prog 6 #[.string (sb l), .string (sb c), .agg #[.int .u8 pl, .int .u8 kd]] w fun e w' => e = .returned (.bool true) ∧ Below w.heap.size w w' := by
  have hz : (sb l).size = l.length := sb_size l
  have hzc : (sb c).size = c.length := sb_size c
  obtain ⟨W0, hW0⟩ : ∃ W, W = w.alloc (.cells #[.int .u8 pl, .int .u8 kd] 38) := ⟨_, rfl⟩
  have hk := one_var w 38 [.int .u8 pl, .int .u8 kd]
  have HX : Hid (Blk W0 w.heap.size 38 [.int .u8 pl, .int .u8 kd]) := Lib.hid (by rw [hW0]; exact hk.1)
  have HW : Hid (Below w.heap.size w W0) := Lib.hid (by rw [hW0]; exact hk.2)
  have HE := Lib.hid (hE.next HW.out)
  clear hk hE
  have g1 : decide ((2000 : Int) < ((sb l).size : Int)) = false := decide_eq_false (by omega)
  have g2 : decide ((100 : Int) < ((sb c).size : Int)) = false := decide_eq_false (by omega)
  have HhL := Lib.hid (show l.length ≤ 65536 by omega)
  have Hh := Lib.hid h
  obtain ⟨B, hB⟩ : ∃ B, B = (l ++ [10]) := ⟨_, rfl⟩
  obtain ⟨S, hSS⟩ : ∃ S : List UInt8, S = [9, 13] := ⟨_, rfl⟩
  obtain ⟨D, hD⟩ : ∃ D, D = l.drop ta := ⟨_, rfl⟩
  obtain ⟨Y, hY⟩ : ∃ Y, Y = B ++ S := ⟨_, rfl⟩
  obtain ⟨X, hX⟩ : ∃ X, X = Y ++ D := ⟨_, rfl⟩
  have hq' : lex X 0 = .ok V := by rw [hX, hY, hB, hSS, hD]; exact hq
  have hXl : B.length ≤ 2001 ∧ S.length ≤ 103 ∧ D.length ≤ 2000 := by
    have h7 := List.length_take_le' ta l
    have h8 := flt_len c c.length
    rw [List.take_length] at h8
    rw [hB, hSS, hD]
    simp only [List.length_append, List.length_drop, List.length_cons, List.length_nil]
    omega
  have hil := (List.getElem?_eq_some_iff.1 hti).1
  have hT0 : ((T.length : Int) == 0) = false := by rw [beq_eq_false_iff_ne]; omega
  have HRM := Lib.hid (show ∀ W, (binOp .rem 3 (.int .i64 pl) (.int .i64 T.length)).run Tryd.prog W = .ok (.int .i64 i) W from fun W => by rw [← hi]; exact rem_nat pl T.length (by omega) W)
  have HK5 := Lib.hid (show ∀ W, (binOp .rem 5 (.int .u8 kd) (.int .u8 5)).run Tryd.prog W = .ok (.int .u8 (1 : Int)) W from fun W => by have := rem_five kd W; rw [hkd] at this; exact this)
  have HCU := Lib.hid (conv_u8 pl hpl)
  have HTI := Lib.hid hti
  have Hq := Lib.hid hq'
  have HqL := Lib.hid (show X.length ≤ 65536 by rw [hX, hY, List.length_append, List.length_append]; omega)
  have HS := Lib.hid hS
  have HZC := Lib.hid hzc
  have e1 : ((ta : Int) == ((sb l).size : Int)) = true := by rw [beq_iff_eq]; omega
  have HHI := Lib.hid (show ∀ W, (Instr.sliceAt 9 (.string (sb l)) none (some (.int .i64 ta)) none).run Tryd.prog W = .ok (.string (sb (l.take ta))) W from fun W => by exact run_str_hi W l ta hta)
  have HLO := Lib.hid (show ∀ W, (Instr.sliceAt 9 (.string (sb l)) (some (.int .i64 ta)) none none).run Tryd.prog W = .ok (.string (sb D)) W from fun W => by rw [hD]; exact run_str_lo W l ta hta)
  have HM1 := Lib.hid (show ∀ W, (binOp .add 9 (.string ⟨#[35]⟩) (.string (sb (flt c)))).run Tryd.prog W = .ok (.string (sb (35 :: flt c))) W from fun W => cat_any [35] (flt c) (by have h8 := flt_len c c.length; rw [List.take_length] at h8; simp; omega) W)
  have HM2 := Lib.hid (show ∀ W, (binOp .add 9 (.string (sb (35 :: flt c))) (.string ⟨#[10]⟩)).run Tryd.prog W = .ok (.string (sb (35 :: (flt c ++ [10])))) W from fun W => by exact cat_any (35 :: flt c) [10] (by have h8 := flt_len c c.length; rw [List.take_length] at h8; simp; omega) W)
  have HM3 := Lib.hid (show ∀ W, (binOp .add 9 (.string (sb l)) (.string ⟨#[10]⟩)).run Tryd.prog W = .ok (.string (sb B)) W from fun W => by rw [hB]; exact cat_any l [10] (by simp; omega) W)
  have HM4 := Lib.hid (show ∀ W, (binOp .add 9 (.string (sb B)) (.string (⟨#[9, 13]⟩))).run Tryd.prog W = .ok (.string (sb Y)) W from fun W => by
    have := cat_any B S (by omega) W
    rw [← hY] at this
    rw [hSS] at this; exact this)
  have HM5 := Lib.hid (show ∀ W, (binOp .add 9 (.string (sb Y)) (.string (sb D))).run Tryd.prog W = .ok (.string (sb X)) W from fun W => by rw [hX]; exact cat_any Y D (by rw [hY, List.length_append]; omega) W)
  clear hz hzc h hi hti hq hq' hS hkd hte hB hSS hD hY hX hXl
  go_enter Tryd.func6, Tryd.ntmps6
  go_wp2_with fail
  try rw [← hW0]
  clear hW0
  refine late_begin (S := fun _ W => Blk W w.heap.size 38 [.int .u8 pl, .int .u8 kd]) (by kernel_rfl) ?_
  have hE0 := HE.out.next (Below.refl _ _).drew
  have hW0 := HW.out.drew
  have hX0 := HX.out.drew
  generalize W0.drew = u0 at hE0 hW0 hX0 ⊢
  clear HE HW HX
  refine late_take [] (i := 0) (some 18) rfl rfl (by first | rfl | kernel_rfl) (by kernel_rfl) (by kernel_rfl) (by kernel_rfl) (by kernel_rfl) (by kernel_rfl) (fun Ls W h => h) (.pointer (some ⟨w.heap.size, 0, none⟩)) (fun _ _ _ h => h) (fun Ls W hl0 hW => exec_indexAddr 38 (.tmp 5) (.const (.int .i64 0)) rfl _ _ _ rfl rfl (ia__2_uint8_0_0 _ _)) hX0 hX0 ?_
  go_frame
  refine late_take [] (i := 1) (some 19) rfl rfl (by first | rfl | kernel_rfl) (by kernel_rfl) (by kernel_rfl) (by kernel_rfl) (by kernel_rfl) (by kernel_rfl) (fun Ls W h => h) (.int .u8 pl) (fun _ _ _ h => h) (fun Ls W hl0 hW => exec_load 5 (.tmp 18) rfl _ _ rfl (run_load_cell flat_uint8 (hW.cell 0))) hX0 hX0 ?_
  go_frame
  refine late_take [] (i := 2) (some 20) rfl rfl (by first | rfl | kernel_rfl) (by kernel_rfl) (by kernel_rfl) (by kernel_rfl) (by kernel_rfl) (by kernel_rfl) (fun Ls W h => h) (.pointer (some ⟨w.heap.size, 1, none⟩)) (fun _ _ _ h => h) (fun Ls W hl0 hW => exec_indexAddr 38 (.tmp 5) (.const (.int .i64 1)) rfl _ _ _ rfl rfl (ia__2_uint8_1_0 _ _)) hX0 hX0 ?_
  go_frame
  refine late_take [] (i := 3) (some 21) rfl rfl (by first | rfl | kernel_rfl) (by kernel_rfl) (by kernel_rfl) (by kernel_rfl) (by kernel_rfl) (by kernel_rfl) (fun Ls W h => h) (.int .u8 kd) (fun _ _ _ h => h) (fun Ls W hl0 hW => exec_load 5 (.tmp 20) rfl _ _ rfl (run_load_cell flat_uint8 (hW.cell 1))) hX0 hX0 ?_
  go_frame
  refine late_take [] (i := 4) (some 7) rfl rfl (by first | rfl | kernel_rfl) (by kernel_rfl) (by kernel_rfl) (by kernel_rfl) (by kernel_rfl) (by kernel_rfl) (fun Ls W h => h) (.int .u8 pl) (fun _ _ _ h => h) (fun Ls W hl0 hW => exec_assign (.tmp 19) rfl _ rfl) hX0 hX0 ?_
  go_frame
  refine late_take [] (i := 5) (some 8) rfl rfl (by first | rfl | kernel_rfl) (by kernel_rfl) (by kernel_rfl) (by kernel_rfl) (by kernel_rfl) (by kernel_rfl) (fun Ls W h => h) (.int .u8 kd) (fun _ _ _ h => h) (fun Ls W hl0 hW => exec_assign (.tmp 21) rfl _ rfl) hX0 hX0 ?_
  refine late_done (by kernel_rfl) ?_ _
  go_frame
  have HE := Lib.hid hE0
  have HW := Lib.hid hW0
  have HX := Lib.hid hX0
  clear hE0 hW0 hX0
  clear HX
  go_upto_region 2 with fail
  refine wp_region_lit ?_
  refine wpList_run 22 rfl rfl (.string (sb l)) (exec_move (.tmp 0) rfl _ rfl) ?_
  go_frame
  refine wpList_run 23 rfl rfl (.int .i64 (sb l).size) (exec_lenS (.tmp 22) rfl (sb l) rfl) ?_
  go_frame
  refine wpList_run 24 rfl rfl (.bool false) (exec_gtrI _ _ _ _ rfl .i64 ((sb l).size) (2000) false g1 rfl rfl) ?_
  go_frame
  refine wpList_run 25 rfl rfl (.bool false) (exec_move (.tmp 24) rfl _ rfl) ?_
  go_frame
  refine wpList_runG 26 rfl (by first | rfl | kernel_rfl) (.string (sb c)) (exec_move (.tmp 1) rfl _ rfl) ?_
  go_frame
  refine wpList_runG 27 rfl (by first | rfl | kernel_rfl) (.int .i64 (sb c).size) (exec_lenS (.tmp 26) rfl (sb c) rfl) ?_
  go_frame
  refine wpList_runG 28 rfl (by first | rfl | kernel_rfl) (.bool false) (exec_gtrI _ _ _ _ rfl .i64 ((sb c).size) (100) false g2 rfl rfl) ?_
  go_frame
  refine wpList_run 29 rfl rfl (.bool false) (exec_pickF _ _ _ rfl (.bool false) rfl rfl) ?_
  go_frame
  refine wpList_nil ?_
  go_upto_region 5 with (first | ((with_reducible refine (tok_ok l _ (HhL.out) _ HE.out Hh.out).mono ?_); rintro e a1 ⟨⟨A1, c1, rfl, hrd⟩, hb⟩; replace HE := Lib.hid (HE.out.next hb); replace HW := Lib.hid (HW.out.trans (hb.mono HW.out.size)); have HR1 := Lib.hid hrd; clear hrd hb) | (refine wpList_new rfl 26 rfl [.int .i64 0, .int .i64 0] pb_zero ?_; intro d1 HP1 HB1) | (refine wpList_store_all rfl 26 (.tmp 10) (.tmp 35) rfl a1.heap.size 26 [.int .i64 0, .int .i64 0] [.int .i64 0, .int .i64 0] rfl rfl HP1.out rfl pb_size (List.forall_mem_cons.2 ⟨rfl, (List.forall_mem_cons.2 ⟨rfl, fun _ h => nomatch h⟩)⟩) ?_; intro f1 HQ1 ho; have hb := HB1.out.trans (ho.below (Nat.le_refl _)); replace HE := Lib.hid (HE.out.next hb); replace HW := Lib.hid (HW.out.trans (hb.mono HW.out.size)); replace HR1 := Lib.hid (HR1.out.below hb); clear hb ho HP1 HB1))
  go_upto_region 7 with (first | (refine wpList_dst 36 rfl ?_; refine wpList_run 36 rfl rfl _ (exec_fieldAddr 26 (.tmp 10) 1 rfl _ _ rfl (pb_f _ 1 (by decide) _)) ?_; go_frame) | (refine wpList_dst 37 rfl ?_; refine wpList_run 37 rfl rfl _ (exec_load 24 (.tmp 36) rfl _ (.int .i64 0) rfl (run_load_cell er_flat (HQ1.out.cell 1))) ?_; go_frame))
  go_upto_region 9 with fail
  clear HQ1
  obtain ⟨b, off, rfl, hcc⟩ := HR1.out.at (show (T.map toT)[i]? = some (toT ⟨tk, ta, ts, tv⟩) by rw [List.getElem?_map, HTI.out]; rfl)
  simp only [toT] at hcc
  have HC := Lib.hid hcc
  clear hcc
  refine wp_region_lit ?_
  refine wpList_run 43 rfl rfl (.slice (some ⟨b, off, none⟩) T.length c1) (exec_move (.tmp 9) rfl _ rfl) ?_
  go_frame
  refine wpList_run 44 rfl rfl (.int .u8 pl) (exec_move (.tmp 7) rfl _ rfl) ?_
  go_frame
  refine wpList_run 45 rfl rfl (.int .i64 pl) (exec_convert 5 3 (.tmp 44) rfl _ (.int .i64 pl) rfl (HCU.out _)) ?_
  go_frame
  refine wpList_run 46 rfl rfl (.slice (some ⟨b, off, none⟩) T.length c1) (exec_move (.tmp 9) rfl _ rfl) ?_
  go_frame
  refine wpList_run 47 rfl rfl (.int .i64 T.length) (exec_lenT (.tmp 46) rfl _ T.length _ rfl) ?_
  go_frame
  refine wpList_run 48 rfl rfl (.int .i64 i) (exec_bin .rem 3 _ (.tmp 45) (.tmp 47) rfl (.int .i64 pl) (.int .i64 T.length) (.int .i64 i) rfl rfl rfl (HRM.out _)) ?_
  go_frame
  refine wpList_run 49 rfl rfl (.pointer (some ⟨b, off + i * 4, none⟩)) (exec_atT (.tmp 43) (.tmp 48) rfl b off _ c1 i hil rfl rfl) ?_
  go_frame
  refine wpList_run 50 rfl rfl (.pointer (some ⟨b, off + i * 4 + 1, none⟩)) (exec_fieldAddr 33 (.tmp 49) 1 rfl _ _ rfl (tk_f b (off + i * 4) 1 (by decide) _)) ?_
  go_frame
  refine wpList_run 51 rfl rfl (.int .i64 ta) (exec_load 3 (.tmp 50) rfl _ (.int .i64 ta) rfl (run_load_cell int_flat (HC.out 1 (.int .i64 ta) rfl))) ?_
  go_frame
  refine wpList_run 11 rfl rfl (.int .i64 ta) (exec_assign (.tmp 51) rfl _ rfl) ?_
  go_frame
  refine wpList_nil ?_
  go_wp2_with fail
  have HO := Lib.hid (OwnB.nil f1 f1.heap.size)
  have HB := Lib.hid (Below.refl f1.heap.size f1)
  go_loopw [12, 13] (fun a b' wr => ∃ k : Nat, b' = .int .i64 k ∧ k ≤ c.length ∧ Hid (OwnB wr f1.heap.size a (flt (c.take k))) ∧ Hid (Below f1.heap.size f1 wr)) (fun _ b' _ => c.length - (intOf b').toNat)
  case atStart => exact ⟨0, rfl, Nat.zero_le _, HO, HB⟩
  case round =>
    clear HO HB
    obtain ⟨k, rfl, hk, HO, HB⟩ := hrel
    have hacc := flt_len c k
    by_cases hlt : k < c.length
    · obtain ⟨d, hd⟩ : ∃ d, c[k]? = some d := ⟨c[k], List.getElem?_eq_getElem hlt⟩
      have HD := Lib.hid (show (sb c).data.toList[k]? = some d by rw [sb_list]; exact hd)
      have HN := Lib.hid (flt_next hd)
      have h1 : decide ((k : Int) < ((sb c).size : Int)) = true := decide_eq_true (by rw [HZC.out]; omega)
      clear hd
      generalize flt (c.take k) = acc at HO HN hacc
      by_cases hn : nlf d = true
      · have m10 : ((d.toNat : Int) != 10) = true := by
          have : d.toNat ≠ 10 := by simpa [nlf] using hn
          rw [bne_iff_ne]; omega
        have HN2 := Lib.hid (show flt (c.take (k + 1)) = acc ++ [d] by rw [HN.out, if_pos hn])
        clear hn HN
        go_wp2_with (first | (refine wpList_dst 60 rfl ?_; refine wpList_run 60 rfl rfl _ (exec_index 9 (.tmp 58) (.tmp 59) rfl _ _ (.int .u8 d.toNat) rfl rfl (sb_at (sb c) (k := k) HD.out _)) ?_; go_frame) | (refine wpList_dst 65 rfl ?_; refine wpList_run 65 rfl rfl _ (exec_index 9 (.tmp 63) (.tmp 64) rfl _ _ (.int .u8 d.toNat) rfl rfl (sb_at (sb c) (k := k) HD.out _)) ?_; go_frame) | (at_builtin; refine wpList_push rfl (.tmp 62) (.tmp 66) rfl f1.heap.size _ acc rfl HO.out _ d rfl HB.out.size (by omega) rfl ?_; intro v5 w5 ho5 hb5; have HO5 := Lib.hid ho5; have HB5 := Lib.hid (HB.out.trans hb5); clear ho5 hb5 HO HB))
        go_roundw
        case rel => exact ⟨k + 1, by go_num, by omega, Lib.hid (by rw [HN2.out]; exact HO5.out), HB5⟩
        case measure => simp [intOf]; omega
      · have m10 : ((d.toNat : Int) != 10) = false := by
          have : d.toNat = 10 := by simpa [nlf] using hn
          rw [this]; rfl
        have HN2 := Lib.hid (show flt (c.take (k + 1)) = acc by rw [HN.out, if_neg hn])
        clear hn HN
        go_wp2_with (first | (refine wpList_dst 60 rfl ?_; refine wpList_run 60 rfl rfl _ (exec_index 9 (.tmp 58) (.tmp 59) rfl _ _ (.int .u8 d.toNat) rfl rfl (sb_at (sb c) (k := k) HD.out _)) ?_; go_frame))
        go_roundw
        case rel => exact ⟨k + 1, by go_num, by omega, Lib.hid (by rw [HN2.out]; exact HO.out), HB⟩
        case measure => simp [intOf]; omega
    · obtain rfl : k = c.length := by omega
      have h1 : decide ((c.length : Int) < ((sb c).size : Int)) = false := decide_eq_false (by rw [HZC.out]; omega)
      have ho := HO.out
      rw [List.take_length] at ho
      replace HE := Lib.hid (HE.out.next HB.out)
      replace HR1 := Lib.hid (HR1.out.below HB.out)
      replace HW := Lib.hid (HW.out.trans (HB.out.mono HW.out.size))
      obtain ⟨A5, c5, rfl, _, hc5⟩ := ho.form
      have HO5 := Lib.hid ho
      clear ho HO HB hc5
      go_upto_region 24 with (first | (refine wpList_dst 69 rfl ?_; refine wpList_run 69 rfl rfl _ (exec_convert 39 9 (.tmp 68) rfl _ (.string (sb (flt c))) rfl (run_str (OwnB.rd HO5.out) c5)) ?_; go_frame) | (refine wpList_dst 70 rfl ?_; refine wpList_run 70 rfl rfl _ (exec_bin .add 9 _ _ (.tmp 69) rfl (.string ⟨#[35]⟩) (.string (sb (flt c))) (.string (sb (35 :: flt c))) rfl rfl rfl (HM1.out _)) ?_; go_frame) | (refine wpList_dst 71 rfl ?_; refine wpList_run 71 rfl rfl _ (exec_bin .add 9 _ (.tmp 70) _ rfl (.string (sb (35 :: flt c))) (.string ⟨#[10]⟩) (.string (sb (35 :: (flt c ++ [10])))) rfl rfl rfl (HM2.out _)) ?_; go_frame) | (refine wpList_dst 73 rfl ?_; refine wpList_run 73 rfl rfl _ (exec_bin .rem 5 _ (.tmp 72) _ rfl (.int .u8 kd) (.int .u8 5) (.int .u8 (1 : Int)) rfl rfl rfl (HK5.out _)) ?_; go_frame))
      clear HO5 HM1 HM2 HK5
      go_upto_region 27 with (first | (refine wpList_dst 82 rfl ?_; refine wpList_run 82 rfl rfl _ (exec_slice_hi 9 (.tmp 80) (.tmp 81) rfl (.string (sb l)) (.int .i64 ta) (.string (sb (l.take ta))) rfl rfl (HHI.out _)) ?_; go_frame) | (refine wpList_dst 88 rfl ?_; refine wpList_run 88 rfl rfl _ (exec_bin .add 9 _ (.tmp 87) _ rfl (.string (sb l)) (.string ⟨#[10]⟩) (.string (sb B)) rfl rfl rfl (HM3.out _)) ?_; go_frame))
      go_upto_region 28 with (first | (refine wpList_dst 92 rfl ?_; refine wpList_run 92 rfl rfl _ (exec_bin .add 9 _ (.tmp 90) (.tmp 91) rfl (.string (sb B)) (.string (⟨#[9, 13]⟩)) (.string (sb Y)) rfl rfl rfl (HM4.out _)) ?_; go_frame) | (refine wpList_dst 95 rfl ?_; refine wpList_run 95 rfl rfl _ (exec_slice_lo 9 (.tmp 93) (.tmp 94) rfl (.string (sb l)) (.int .i64 ta) (.string (sb D)) rfl rfl (HLO.out _)) ?_; go_frame) | (refine wpList_dst 96 rfl ?_; refine wpList_run 96 rfl rfl _ (exec_bin .add 9 _ (.tmp 92) (.tmp 95) rfl (.string (sb Y)) (.string (sb D)) (.string (sb X)) rfl rfl rfl (HM5.out _)) ?_; go_frame) | ((with_reducible refine (tok_ok X _ (HqL.out) _ HE.out Hq.out).mono ?_); rintro e a2 ⟨⟨A2, c2, rfl, hrd⟩, hb⟩; replace HE := Lib.hid (HE.out.next hb); replace HW := Lib.hid (HW.out.trans (hb.mono HW.out.size)); replace HR1 := Lib.hid (HR1.out.below hb); have HR2 := Lib.hid hrd; clear hrd hb) | (refine wpList_new rfl 26 rfl [.int .i64 0, .int .i64 0] pb_zero ?_; intro d2 HP2 HB2) | (refine wpList_store_all rfl 26 (.tmp 17) (.tmp 99) rfl a2.heap.size 26 [.int .i64 0, .int .i64 0] [.int .i64 0, .int .i64 0] rfl rfl HP2.out rfl pb_size (List.forall_mem_cons.2 ⟨rfl, (List.forall_mem_cons.2 ⟨rfl, fun _ h => nomatch h⟩)⟩) ?_; intro f2 HQ2 ho; have hb := HB2.out.trans (ho.below (Nat.le_refl _)); replace HE := Lib.hid (HE.out.next hb); replace HW := Lib.hid (HW.out.trans (hb.mono HW.out.size)); replace HR1 := Lib.hid (HR1.out.below hb); replace HR2 := Lib.hid (HR2.out.below hb); clear hb ho HP2 HB2))
      go_wp2_with (first | ((with_reducible refine (sanity_any _ HE.out).mono ?_); rintro e wy ⟨rfl, hb⟩; replace HE := Lib.hid (HE.out.next hb); replace HW := Lib.hid (HW.out.trans (hb.mono HW.out.size)); replace HR1 := Lib.hid (HR1.out.below hb); replace HR2 := Lib.hid (HR2.out.below hb); replace HQ2 := Lib.hid (HQ2.out.next hb); clear hb) | (refine wpList_dst 102 rfl ?_; refine wpList_runG 102 rfl rfl _ (exec_load 26 (.tmp 17) rfl _ (.agg #[.int .i64 0, .int .i64 0]) rfl (run_load_part _ 26 _ 0 2 _ [.int .i64 0, .int .i64 0] _ HQ2.out (by simp) Tryd.underlying26 rfl pb_size)) ?_; go_frame) | (refine wpList_dst 103 rfl ?_; refine wpList_runG 103 rfl rfl _ (exec_buildF 26 #[] rfl #[] rfl _ (build_pb0 _)) ?_; go_frame) | (refine wpList_dst 104 rfl ?_; refine wpList_runG 104 rfl rfl _ (exec_bin .eql 26 _ (.tmp 102) (.tmp 103) rfl (.agg #[.int .i64 0, .int .i64 0]) (.agg #[.int .i64 0, .int .i64 0]) _ rfl rfl (pb_gd _ _ _ _ _) (pb_eq0 _)) ?_; go_frame) | ((with_reducible refine (HS.out _ _ _ _ _ HR1.out HR2.out).mono ?_); rintro e ws ⟨rfl, hb⟩; replace HE := Lib.hid (HE.out.next hb); replace HW := Lib.hid (HW.out.trans (hb.mono HW.out.size)); replace HR1 := Lib.hid (HR1.out.below hb); replace HR2 := Lib.hid (HR2.out.below hb); replace HQ2 := Lib.hid (HQ2.out.next hb); clear hb))
      refine bodyPost_ret (results_tmp (t := 6) rfl _ _ _) ?_ ?_
      · rfl
      · exact ⟨rfl, HW.out⟩
set_option maxRecDepth 100000 in
set_option maxHeartbeats 3000000 in
theorem blanks_1n (l c : List UInt8) (pl kd : Nat) (w : World) (hE : Env w) (hl : l.length ≤ 2000) (hc : c.length ≤ 100) (hpl : pl < 256) (hkd : kd % 5 = 1) (T V : List Tok) (i tk ta tv : Nat) (ts : List UInt8) (h : lex l 0 = .ok T) (hi : pl % T.length = i) (hti : T[i]? = some ⟨tk, ta, ts, tv⟩) (hta : ta ≤ l.length) (hte : ta ≠ l.length) (hq : lex ((l.take ta) ++ [9, 13] ++ l.drop ta) 0 = .ok V) (hS : ∀ (A B : Option Addr) (cA cB : Nat) (W : World), RdT W A (T.map toT) → RdT W B (V.map toT) → Calls Tryd.prog 13 #[.slice A T.length cA, .slice B V.length cB] W fun e w' => e = .returned (.bool true) ∧ Below W.heap.size W w') : Calls Tryd.prog 6 #[.string (sb l), .string (sb c), .agg #[.int .u8 pl, .int .u8 kd]] w fun e w' => e = .returned (.bool true) ∧ Below w.heap.size w w' := by
  have hz : (sb l).size = l.length := sb_size l
  have hzc : (sb c).size = c.length := sb_size c
  obtain ⟨W0, hW0⟩ : ∃ W, W = w.alloc (.cells #[.int .u8 pl, .int .u8 kd] 38) := ⟨_, rfl⟩
  have hk := one_var w 38 [.int .u8 pl, .int .u8 kd]
  have HX : Hid (Blk W0 w.heap.size 38 [.int .u8 pl, .int .u8 kd]) := Lib.hid (by rw [hW0]; exact hk.1)
  have HW : Hid (Below w.heap.size w W0) := Lib.hid (by rw [hW0]; exact hk.2)
  have HE := Lib.hid (hE.next HW.out)
  clear hk hE
  have g1 : decide ((2000 : Int) < ((sb l).size : Int)) = false := decide_eq_false (by omega)
  have g2 : decide ((100 : Int) < ((sb c).size : Int)) = false := decide_eq_false (by omega)
  have HhL := Lib.hid (show l.length ≤ 65536 by omega)
  have Hh := Lib.hid h
  obtain ⟨B, hB⟩ : ∃ B, B = (l.take ta) := ⟨_, rfl⟩
  obtain ⟨S, hSS⟩ : ∃ S : List UInt8, S = [9, 13] := ⟨_, rfl⟩
  obtain ⟨D, hD⟩ : ∃ D, D = l.drop ta := ⟨_, rfl⟩
  obtain ⟨Y, hY⟩ : ∃ Y, Y = B ++ S := ⟨_, rfl⟩
  obtain ⟨X, hX⟩ : ∃ X, X = Y ++ D := ⟨_, rfl⟩
  have hq' : lex X 0 = .ok V := by rw [hX, hY, hB, hSS, hD]; exact hq
  have hXl : B.length ≤ 2001 ∧ S.length ≤ 103 ∧ D.length ≤ 2000 := by
    have h7 := List.length_take_le' ta l
    have h8 := flt_len c c.length
    rw [List.take_length] at h8
    rw [hB, hSS, hD]
    simp only [List.length_drop, List.length_cons, List.length_nil]
    omega
  have hil := (List.getElem?_eq_some_iff.1 hti).1
  have hT0 : ((T.length : Int) == 0) = false := by rw [beq_eq_false_iff_ne]; omega
  have HRM := Lib.hid (show ∀ W, (binOp .rem 3 (.int .i64 pl) (.int .i64 T.length)).run Tryd.prog W = .ok (.int .i64 i) W from fun W => by rw [← hi]; exact rem_nat pl T.length (by omega) W)
  have HK5 := Lib.hid (show ∀ W, (binOp .rem 5 (.int .u8 kd) (.int .u8 5)).run Tryd.prog W = .ok (.int .u8 (1 : Int)) W from fun W => by have := rem_five kd W; rw [hkd] at this; exact this)
  have HCU := Lib.hid (conv_u8 pl hpl)
  have HTI := Lib.hid hti
  have Hq := Lib.hid hq'
  have HqL := Lib.hid (show X.length ≤ 65536 by rw [hX, hY, List.length_append, List.length_append]; omega)
  have HS := Lib.hid hS
  have HZC := Lib.hid hzc
  have e1 : ((ta : Int) == ((sb l).size : Int)) = false := by rw [beq_eq_false_iff_ne]; omega
  have HHI := Lib.hid (show ∀ W, (Instr.sliceAt 9 (.string (sb l)) none (some (.int .i64 ta)) none).run Tryd.prog W = .ok (.string (sb B)) W from fun W => by rw [hB]; exact run_str_hi W l ta hta)
  have HLO := Lib.hid (show ∀ W, (Instr.sliceAt 9 (.string (sb l)) (some (.int .i64 ta)) none none).run Tryd.prog W = .ok (.string (sb D)) W from fun W => by rw [hD]; exact run_str_lo W l ta hta)
  have HM1 := Lib.hid (show ∀ W, (binOp .add 9 (.string ⟨#[35]⟩) (.string (sb (flt c)))).run Tryd.prog W = .ok (.string (sb (35 :: flt c))) W from fun W => cat_any [35] (flt c) (by have h8 := flt_len c c.length; rw [List.take_length] at h8; simp; omega) W)
  have HM2 := Lib.hid (show ∀ W, (binOp .add 9 (.string (sb (35 :: flt c))) (.string ⟨#[10]⟩)).run Tryd.prog W = .ok (.string (sb (35 :: (flt c ++ [10])))) W from fun W => by exact cat_any (35 :: flt c) [10] (by have h8 := flt_len c c.length; rw [List.take_length] at h8; simp; omega) W)
  have HM4 := Lib.hid (show ∀ W, (binOp .add 9 (.string (sb B)) (.string (⟨#[9, 13]⟩))).run Tryd.prog W = .ok (.string (sb Y)) W from fun W => by
    have := cat_any B S (by omega) W
    rw [← hY] at this
    rw [hSS] at this; exact this)
  have HM5 := Lib.hid (show ∀ W, (binOp .add 9 (.string (sb Y)) (.string (sb D))).run Tryd.prog W = .ok (.string (sb X)) W from fun W => by rw [hX]; exact cat_any Y D (by rw [hY, List.length_append]; omega) W)
  clear hz hzc h hi hti hq hq' hS hkd hte hB hSS hD hY hX hXl
  go_enter Tryd.func6, Tryd.ntmps6
  go_wp2_with fail
  try rw [← hW0]
  clear hW0
  refine late_begin (S := fun _ W => Blk W w.heap.size 38 [.int .u8 pl, .int .u8 kd]) (by kernel_rfl) ?_
  have hE0 := HE.out.next (Below.refl _ _).drew
  have hW0 := HW.out.drew
  have hX0 := HX.out.drew
  generalize W0.drew = u0 at hE0 hW0 hX0 ⊢
  clear HE HW HX
  refine late_take [] (i := 0) (some 18) rfl rfl (by first | rfl | kernel_rfl) (by kernel_rfl) (by kernel_rfl) (by kernel_rfl) (by kernel_rfl) (by kernel_rfl) (fun Ls W h => h) (.pointer (some ⟨w.heap.size, 0, none⟩)) (fun _ _ _ h => h) (fun Ls W hl0 hW => exec_indexAddr 38 (.tmp 5) (.const (.int .i64 0)) rfl _ _ _ rfl rfl (ia__2_uint8_0_0 _ _)) hX0 hX0 ?_
  go_frame
  refine late_take [] (i := 1) (some 19) rfl rfl (by first | rfl | kernel_rfl) (by kernel_rfl) (by kernel_rfl) (by kernel_rfl) (by kernel_rfl) (by kernel_rfl) (fun Ls W h => h) (.int .u8 pl) (fun _ _ _ h => h) (fun Ls W hl0 hW => exec_load 5 (.tmp 18) rfl _ _ rfl (run_load_cell flat_uint8 (hW.cell 0))) hX0 hX0 ?_
  go_frame
  refine late_take [] (i := 2) (some 20) rfl rfl (by first | rfl | kernel_rfl) (by kernel_rfl) (by kernel_rfl) (by kernel_rfl) (by kernel_rfl) (by kernel_rfl) (fun Ls W h => h) (.pointer (some ⟨w.heap.size, 1, none⟩)) (fun _ _ _ h => h) (fun Ls W hl0 hW => exec_indexAddr 38 (.tmp 5) (.const (.int .i64 1)) rfl _ _ _ rfl rfl (ia__2_uint8_1_0 _ _)) hX0 hX0 ?_
  go_frame
  refine late_take [] (i := 3) (some 21) rfl rfl (by first | rfl | kernel_rfl) (by kernel_rfl) (by kernel_rfl) (by kernel_rfl) (by kernel_rfl) (by kernel_rfl) (fun Ls W h => h) (.int .u8 kd) (fun _ _ _ h => h) (fun Ls W hl0 hW => exec_load 5 (.tmp 20) rfl _ _ rfl (run_load_cell flat_uint8 (hW.cell 1))) hX0 hX0 ?_
  go_frame
  refine late_take [] (i := 4) (some 7) rfl rfl (by first | rfl | kernel_rfl) (by kernel_rfl) (by kernel_rfl) (by kernel_rfl) (by kernel_rfl) (by kernel_rfl) (fun Ls W h => h) (.int .u8 pl) (fun _ _ _ h => h) (fun Ls W hl0 hW => exec_assign (.tmp 19) rfl _ rfl) hX0 hX0 ?_
  go_frame
  refine late_take [] (i := 5) (some 8) rfl rfl (by first | rfl | kernel_rfl) (by kernel_rfl) (by kernel_rfl) (by kernel_rfl) (by kernel_rfl) (by kernel_rfl) (fun Ls W h => h) (.int .u8 kd) (fun _ _ _ h => h) (fun Ls W hl0 hW => exec_assign (.tmp 21) rfl _ rfl) hX0 hX0 ?_
  refine late_done (by kernel_rfl) ?_ _
  go_frame
  have HE := Lib.hid hE0
  have HW := Lib.hid hW0
  have HX := Lib.hid hX0
  clear hE0 hW0 hX0
  clear HX
  go_upto_region 2 with fail
  refine wp_region_lit ?_
  refine wpList_run 22 rfl rfl (.string (sb l)) (exec_move (.tmp 0) rfl _ rfl) ?_
  go_frame
  refine wpList_run 23 rfl rfl (.int .i64 (sb l).size) (exec_lenS (.tmp 22) rfl (sb l) rfl) ?_
  go_frame
  refine wpList_run 24 rfl rfl (.bool false) (exec_gtrI _ _ _ _ rfl .i64 ((sb l).size) (2000) false g1 rfl rfl) ?_
  go_frame
  refine wpList_run 25 rfl rfl (.bool false) (exec_move (.tmp 24) rfl _ rfl) ?_
  go_frame
  refine wpList_runG 26 rfl (by first | rfl | kernel_rfl) (.string (sb c)) (exec_move (.tmp 1) rfl _ rfl) ?_
  go_frame
  refine wpList_runG 27 rfl (by first | rfl | kernel_rfl) (.int .i64 (sb c).size) (exec_lenS (.tmp 26) rfl (sb c) rfl) ?_
  go_frame
  refine wpList_runG 28 rfl (by first | rfl | kernel_rfl) (.bool false) (exec_gtrI _ _ _ _ rfl .i64 ((sb c).size) (100) false g2 rfl rfl) ?_
  go_frame
  refine wpList_run 29 rfl rfl (.bool false) (exec_pickF _ _ _ rfl (.bool false) rfl rfl) ?_
  go_frame
  refine wpList_nil ?_
  go_upto_region 5 with (first | ((with_reducible refine (tok_ok l _ (HhL.out) _ HE.out Hh.out).mono ?_); rintro e a1 ⟨⟨A1, c1, rfl, hrd⟩, hb⟩; replace HE := Lib.hid (HE.out.next hb); replace HW := Lib.hid (HW.out.trans (hb.mono HW.out.size)); have HR1 := Lib.hid hrd; clear hrd hb) | (refine wpList_new rfl 26 rfl [.int .i64 0, .int .i64 0] pb_zero ?_; intro d1 HP1 HB1) | (refine wpList_store_all rfl 26 (.tmp 10) (.tmp 35) rfl a1.heap.size 26 [.int .i64 0, .int .i64 0] [.int .i64 0, .int .i64 0] rfl rfl HP1.out rfl pb_size (List.forall_mem_cons.2 ⟨rfl, (List.forall_mem_cons.2 ⟨rfl, fun _ h => nomatch h⟩)⟩) ?_; intro f1 HQ1 ho; have hb := HB1.out.trans (ho.below (Nat.le_refl _)); replace HE := Lib.hid (HE.out.next hb); replace HW := Lib.hid (HW.out.trans (hb.mono HW.out.size)); replace HR1 := Lib.hid (HR1.out.below hb); clear hb ho HP1 HB1))
  go_upto_region 7 with (first | (refine wpList_dst 36 rfl ?_; refine wpList_run 36 rfl rfl _ (exec_fieldAddr 26 (.tmp 10) 1 rfl _ _ rfl (pb_f _ 1 (by decide) _)) ?_; go_frame) | (refine wpList_dst 37 rfl ?_; refine wpList_run 37 rfl rfl _ (exec_load 24 (.tmp 36) rfl _ (.int .i64 0) rfl (run_load_cell er_flat (HQ1.out.cell 1))) ?_; go_frame))
  go_upto_region 9 with fail
  clear HQ1
  obtain ⟨b, off, rfl, hcc⟩ := HR1.out.at (show (T.map toT)[i]? = some (toT ⟨tk, ta, ts, tv⟩) by rw [List.getElem?_map, HTI.out]; rfl)
  simp only [toT] at hcc
  have HC := Lib.hid hcc
  clear hcc
  refine wp_region_lit ?_
  refine wpList_run 43 rfl rfl (.slice (some ⟨b, off, none⟩) T.length c1) (exec_move (.tmp 9) rfl _ rfl) ?_
  go_frame
  refine wpList_run 44 rfl rfl (.int .u8 pl) (exec_move (.tmp 7) rfl _ rfl) ?_
  go_frame
  refine wpList_run 45 rfl rfl (.int .i64 pl) (exec_convert 5 3 (.tmp 44) rfl _ (.int .i64 pl) rfl (HCU.out _)) ?_
  go_frame
  refine wpList_run 46 rfl rfl (.slice (some ⟨b, off, none⟩) T.length c1) (exec_move (.tmp 9) rfl _ rfl) ?_
  go_frame
  refine wpList_run 47 rfl rfl (.int .i64 T.length) (exec_lenT (.tmp 46) rfl _ T.length _ rfl) ?_
  go_frame
  refine wpList_run 48 rfl rfl (.int .i64 i) (exec_bin .rem 3 _ (.tmp 45) (.tmp 47) rfl (.int .i64 pl) (.int .i64 T.length) (.int .i64 i) rfl rfl rfl (HRM.out _)) ?_
  go_frame
  refine wpList_run 49 rfl rfl (.pointer (some ⟨b, off + i * 4, none⟩)) (exec_atT (.tmp 43) (.tmp 48) rfl b off _ c1 i hil rfl rfl) ?_
  go_frame
  refine wpList_run 50 rfl rfl (.pointer (some ⟨b, off + i * 4 + 1, none⟩)) (exec_fieldAddr 33 (.tmp 49) 1 rfl _ _ rfl (tk_f b (off + i * 4) 1 (by decide) _)) ?_
  go_frame
  refine wpList_run 51 rfl rfl (.int .i64 ta) (exec_load 3 (.tmp 50) rfl _ (.int .i64 ta) rfl (run_load_cell int_flat (HC.out 1 (.int .i64 ta) rfl))) ?_
  go_frame
  refine wpList_run 11 rfl rfl (.int .i64 ta) (exec_assign (.tmp 51) rfl _ rfl) ?_
  go_frame
  refine wpList_nil ?_
  go_wp2_with fail
  have HO := Lib.hid (OwnB.nil f1 f1.heap.size)
  have HB := Lib.hid (Below.refl f1.heap.size f1)
  go_loopw [12, 13] (fun a b' wr => ∃ k : Nat, b' = .int .i64 k ∧ k ≤ c.length ∧ Hid (OwnB wr f1.heap.size a (flt (c.take k))) ∧ Hid (Below f1.heap.size f1 wr)) (fun _ b' _ => c.length - (intOf b').toNat)
  case atStart => exact ⟨0, rfl, Nat.zero_le _, HO, HB⟩
  case round =>
    clear HO HB
    obtain ⟨k, rfl, hk, HO, HB⟩ := hrel
    have hacc := flt_len c k
    by_cases hlt : k < c.length
    · obtain ⟨d, hd⟩ : ∃ d, c[k]? = some d := ⟨c[k], List.getElem?_eq_getElem hlt⟩
      have HD := Lib.hid (show (sb c).data.toList[k]? = some d by rw [sb_list]; exact hd)
      have HN := Lib.hid (flt_next hd)
      have h1 : decide ((k : Int) < ((sb c).size : Int)) = true := decide_eq_true (by rw [HZC.out]; omega)
      clear hd
      generalize flt (c.take k) = acc at HO HN hacc
      by_cases hn : nlf d = true
      · have m10 : ((d.toNat : Int) != 10) = true := by
          have : d.toNat ≠ 10 := by simpa [nlf] using hn
          rw [bne_iff_ne]; omega
        have HN2 := Lib.hid (show flt (c.take (k + 1)) = acc ++ [d] by rw [HN.out, if_pos hn])
        clear hn HN
        go_wp2_with (first | (refine wpList_dst 60 rfl ?_; refine wpList_run 60 rfl rfl _ (exec_index 9 (.tmp 58) (.tmp 59) rfl _ _ (.int .u8 d.toNat) rfl rfl (sb_at (sb c) (k := k) HD.out _)) ?_; go_frame) | (refine wpList_dst 65 rfl ?_; refine wpList_run 65 rfl rfl _ (exec_index 9 (.tmp 63) (.tmp 64) rfl _ _ (.int .u8 d.toNat) rfl rfl (sb_at (sb c) (k := k) HD.out _)) ?_; go_frame) | (at_builtin; refine wpList_push rfl (.tmp 62) (.tmp 66) rfl f1.heap.size _ acc rfl HO.out _ d rfl HB.out.size (by omega) rfl ?_; intro v5 w5 ho5 hb5; have HO5 := Lib.hid ho5; have HB5 := Lib.hid (HB.out.trans hb5); clear ho5 hb5 HO HB))
        go_roundw
        case rel => exact ⟨k + 1, by go_num, by omega, Lib.hid (by rw [HN2.out]; exact HO5.out), HB5⟩
        case measure => simp [intOf]; omega
      · have m10 : ((d.toNat : Int) != 10) = false := by
          have : d.toNat = 10 := by simpa [nlf] using hn
          rw [this]; rfl
        have HN2 := Lib.hid (show flt (c.take (k + 1)) = acc by rw [HN.out, if_neg hn])
        clear hn HN
        go_wp2_with (first | (refine wpList_dst 60 rfl ?_; refine wpList_run 60 rfl rfl _ (exec_index 9 (.tmp 58) (.tmp 59) rfl _ _ (.int .u8 d.toNat) rfl rfl (sb_at (sb c) (k := k) HD.out _)) ?_; go_frame))
        go_roundw
        case rel => exact ⟨k + 1, by go_num, by omega, Lib.hid (by rw [HN2.out]; exact HO.out), HB⟩
        case measure => simp [intOf]; omega
    · obtain rfl : k = c.length := by omega
      have h1 : decide ((c.length : Int) < ((sb c).size : Int)) = false := decide_eq_false (by rw [HZC.out]; omega)
      have ho := HO.out
      rw [List.take_length] at ho
      replace HE := Lib.hid (HE.out.next HB.out)
      replace HR1 := Lib.hid (HR1.out.below HB.out)
      replace HW := Lib.hid (HW.out.trans (HB.out.mono HW.out.size))
      obtain ⟨A5, c5, rfl, _, hc5⟩ := ho.form
      have HO5 := Lib.hid ho
      clear ho HO HB hc5
      go_upto_region 24 with (first | (refine wpList_dst 69 rfl ?_; refine wpList_run 69 rfl rfl _ (exec_convert 39 9 (.tmp 68) rfl _ (.string (sb (flt c))) rfl (run_str (OwnB.rd HO5.out) c5)) ?_; go_frame) | (refine wpList_dst 70 rfl ?_; refine wpList_run 70 rfl rfl _ (exec_bin .add 9 _ _ (.tmp 69) rfl (.string ⟨#[35]⟩) (.string (sb (flt c))) (.string (sb (35 :: flt c))) rfl rfl rfl (HM1.out _)) ?_; go_frame) | (refine wpList_dst 71 rfl ?_; refine wpList_run 71 rfl rfl _ (exec_bin .add 9 _ (.tmp 70) _ rfl (.string (sb (35 :: flt c))) (.string ⟨#[10]⟩) (.string (sb (35 :: (flt c ++ [10])))) rfl rfl rfl (HM2.out _)) ?_; go_frame) | (refine wpList_dst 73 rfl ?_; refine wpList_run 73 rfl rfl _ (exec_bin .rem 5 _ (.tmp 72) _ rfl (.int .u8 kd) (.int .u8 5) (.int .u8 (1 : Int)) rfl rfl rfl (HK5.out _)) ?_; go_frame))
      clear HO5 HM1 HM2 HK5
      go_upto_region 27 with (first | (refine wpList_dst 82 rfl ?_; refine wpList_run 82 rfl rfl _ (exec_slice_hi 9 (.tmp 80) (.tmp 81) rfl (.string (sb l)) (.int .i64 ta) (.string (sb B)) rfl rfl (HHI.out _)) ?_; go_frame))
      go_upto_region 28 with (first | (refine wpList_dst 92 rfl ?_; refine wpList_run 92 rfl rfl _ (exec_bin .add 9 _ (.tmp 90) (.tmp 91) rfl (.string (sb B)) (.string (⟨#[9, 13]⟩)) (.string (sb Y)) rfl rfl rfl (HM4.out _)) ?_; go_frame) | (refine wpList_dst 95 rfl ?_; refine wpList_run 95 rfl rfl _ (exec_slice_lo 9 (.tmp 93) (.tmp 94) rfl (.string (sb l)) (.int .i64 ta) (.string (sb D)) rfl rfl (HLO.out _)) ?_; go_frame) | (refine wpList_dst 96 rfl ?_; refine wpList_run 96 rfl rfl _ (exec_bin .add 9 _ (.tmp 92) (.tmp 95) rfl (.string (sb Y)) (.string (sb D)) (.string (sb X)) rfl rfl rfl (HM5.out _)) ?_; go_frame) | ((with_reducible refine (tok_ok X _ (HqL.out) _ HE.out Hq.out).mono ?_); rintro e a2 ⟨⟨A2, c2, rfl, hrd⟩, hb⟩; replace HE := Lib.hid (HE.out.next hb); replace HW := Lib.hid (HW.out.trans (hb.mono HW.out.size)); replace HR1 := Lib.hid (HR1.out.below hb); have HR2 := Lib.hid hrd; clear hrd hb) | (refine wpList_new rfl 26 rfl [.int .i64 0, .int .i64 0] pb_zero ?_; intro d2 HP2 HB2) | (refine wpList_store_all rfl 26 (.tmp 17) (.tmp 99) rfl a2.heap.size 26 [.int .i64 0, .int .i64 0] [.int .i64 0, .int .i64 0] rfl rfl HP2.out rfl pb_size (List.forall_mem_cons.2 ⟨rfl, (List.forall_mem_cons.2 ⟨rfl, fun _ h => nomatch h⟩)⟩) ?_; intro f2 HQ2 ho; have hb := HB2.out.trans (ho.below (Nat.le_refl _)); replace HE := Lib.hid (HE.out.next hb); replace HW := Lib.hid (HW.out.trans (hb.mono HW.out.size)); replace HR1 := Lib.hid (HR1.out.below hb); replace HR2 := Lib.hid (HR2.out.below hb); clear hb ho HP2 HB2))
      go_wp2_with (first | ((with_reducible refine (sanity_any _ HE.out).mono ?_); rintro e wy ⟨rfl, hb⟩; replace HE := Lib.hid (HE.out.next hb); replace HW := Lib.hid (HW.out.trans (hb.mono HW.out.size)); replace HR1 := Lib.hid (HR1.out.below hb); replace HR2 := Lib.hid (HR2.out.below hb); replace HQ2 := Lib.hid (HQ2.out.next hb); clear hb) | (refine wpList_dst 102 rfl ?_; refine wpList_runG 102 rfl rfl _ (exec_load 26 (.tmp 17) rfl _ (.agg #[.int .i64 0, .int .i64 0]) rfl (run_load_part _ 26 _ 0 2 _ [.int .i64 0, .int .i64 0] _ HQ2.out (by simp) Tryd.underlying26 rfl pb_size)) ?_; go_frame) | (refine wpList_dst 103 rfl ?_; refine wpList_runG 103 rfl rfl _ (exec_buildF 26 #[] rfl #[] rfl _ (build_pb0 _)) ?_; go_frame) | (refine wpList_dst 104 rfl ?_; refine wpList_runG 104 rfl rfl _ (exec_bin .eql 26 _ (.tmp 102) (.tmp 103) rfl (.agg #[.int .i64 0, .int .i64 0]) (.agg #[.int .i64 0, .int .i64 0]) _ rfl rfl (pb_gd _ _ _ _ _) (pb_eq0 _)) ?_; go_frame) | ((with_reducible refine (HS.out _ _ _ _ _ HR1.out HR2.out).mono ?_); rintro e ws ⟨rfl, hb⟩; replace HE := Lib.hid (HE.out.next hb); replace HW := Lib.hid (HW.out.trans (hb.mono HW.out.size)); replace HR1 := Lib.hid (HR1.out.below hb); replace HR2 := Lib.hid (HR2.out.below hb); replace HQ2 := Lib.hid (HQ2.out.next hb); clear hb))
      refine bodyPost_ret (results_tmp (t := 6) rfl _ _ _) ?_ ?_
      · rfl
      · exact ⟨rfl, HW.out⟩
set_option maxRecDepth 100000 in
set_option maxHeartbeats 3000000 in
theorem blanks_2e (l c : List UInt8) (pl kd : Nat) (w : World) (hE : Env w) (hl : l.length ≤ 2000) (hc : c.length ≤ 100) (hpl : pl < 256) (hkd : kd % 5 = 2) (T V : List Tok) (i tk ta tv : Nat) (ts : List UInt8) (h : lex l 0 = .ok T) (hi : pl % T.length = i) (hti : T[i]? = some ⟨tk, ta, ts, tv⟩) (hta : ta ≤ l.length) (hte : ta = l.length) (hq : lex ((l ++ [10]) ++ [10] ++ l.drop ta) 0 = .ok V) (hS : ∀ (A B : Option Addr) (cA cB : Nat) (W : World), RdT W A (T.map toT) → RdT W B (V.map toT) → Calls Tryd.prog 13 #[.slice A T.length cA, .slice B V.length cB] W fun e w' => e = .returned (.bool true) ∧ Below W.heap.size W w') : Calls Tryd.prog 6 #[.string (sb l), .string (sb c), .agg #[.int .u8 pl, .int .u8 kd]] w fun e w' => e = .returned (.bool true) ∧ Below w.heap.size w w' := by
  have hz : (sb l).size = l.length := sb_size l
  have hzc : (sb c).size = c.length := sb_size c
  obtain ⟨W0, hW0⟩ : ∃ W, W = w.alloc (.cells #[.int .u8 pl, .int .u8 kd] 38) := ⟨_, rfl⟩
  have hk := one_var w 38 [.int .u8 pl, .int .u8 kd]
  have HX : Hid (Blk W0 w.heap.size 38 [.int .u8 pl, .int .u8 kd]) := Lib.hid (by rw [hW0]; exact hk.1)
  have HW : Hid (Below w.heap.size w W0) := Lib.hid (by rw [hW0]; exact hk.2)
  have HE := Lib.hid (hE.next HW.out)
  clear hk hE
  have g1 : decide ((2000 : Int) < ((sb l).size : Int)) = false := decide_eq_false (by omega)
  have g2 : decide ((100 : Int) < ((sb c).size : Int)) = false := decide_eq_false (by omega)
  have HhL := Lib.hid (show l.length ≤ 65536 by omega)
  have Hh := Lib.hid h
  obtain ⟨B, hB⟩ : ∃ B, B = (l ++ [10]) := ⟨_, rfl⟩
  obtain ⟨S, hSS⟩ : ∃ S : List UInt8, S = [10] := ⟨_, rfl⟩
  obtain ⟨D, hD⟩ : ∃ D, D = l.drop ta := ⟨_, rfl⟩
  obtain ⟨Y, hY⟩ : ∃ Y, Y = B ++ S := ⟨_, rfl⟩
  obtain ⟨X, hX⟩ : ∃ X, X = Y ++ D := ⟨_, rfl⟩
  have hq' : lex X 0 = .ok V := by rw [hX, hY, hB, hSS, hD]; exact hq
  have hXl : B.length ≤ 2001 ∧ S.length ≤ 103 ∧ D.length ≤ 2000 := by
    have h7 := List.length_take_le' ta l
    have h8 := flt_len c c.length
    rw [List.take_length] at h8
    rw [hB, hSS, hD]
    simp only [List.length_append, List.length_drop, List.length_cons, List.length_nil]
    omega
  have hil := (List.getElem?_eq_some_iff.1 hti).1
  have hT0 : ((T.length : Int) == 0) = false := by rw [beq_eq_false_iff_ne]; omega
  have HRM := Lib.hid (show ∀ W, (binOp .rem 3 (.int .i64 pl) (.int .i64 T.length)).run Tryd.prog W = .ok (.int .i64 i) W from fun W => by rw [← hi]; exact rem_nat pl T.length (by omega) W)
  have HK5 := Lib.hid (show ∀ W, (binOp .rem 5 (.int .u8 kd) (.int .u8 5)).run Tryd.prog W = .ok (.int .u8 (2 : Int)) W from fun W => by have := rem_five kd W; rw [hkd] at this; exact this)
  have HCU := Lib.hid (conv_u8 pl hpl)
  have HTI := Lib.hid hti
  have Hq := Lib.hid hq'
  have HqL := Lib.hid (show X.length ≤ 65536 by rw [hX, hY, List.length_append, List.length_append]; omega)
  have HS := Lib.hid hS
  have HZC := Lib.hid hzc
  have e1 : ((ta : Int) == ((sb l).size : Int)) = true := by rw [beq_iff_eq]; omega
  have HHI := Lib.hid (show ∀ W, (Instr.sliceAt 9 (.string (sb l)) none (some (.int .i64 ta)) none).run Tryd.prog W = .ok (.string (sb (l.take ta))) W from fun W => by exact run_str_hi W l ta hta)
  have HLO := Lib.hid (show ∀ W, (Instr.sliceAt 9 (.string (sb l)) (some (.int .i64 ta)) none none).run Tryd.prog W = .ok (.string (sb D)) W from fun W => by rw [hD]; exact run_str_lo W l ta hta)
  have HM1 := Lib.hid (show ∀ W, (binOp .add 9 (.string ⟨#[35]⟩) (.string (sb (flt c)))).run Tryd.prog W = .ok (.string (sb (35 :: flt c))) W from fun W => cat_any [35] (flt c) (by have h8 := flt_len c c.length; rw [List.take_length] at h8; simp; omega) W)
  have HM2 := Lib.hid (show ∀ W, (binOp .add 9 (.string (sb (35 :: flt c))) (.string ⟨#[10]⟩)).run Tryd.prog W = .ok (.string (sb (35 :: (flt c ++ [10])))) W from fun W => by exact cat_any (35 :: flt c) [10] (by have h8 := flt_len c c.length; rw [List.take_length] at h8; simp; omega) W)
  have HM3 := Lib.hid (show ∀ W, (binOp .add 9 (.string (sb l)) (.string ⟨#[10]⟩)).run Tryd.prog W = .ok (.string (sb B)) W from fun W => by rw [hB]; exact cat_any l [10] (by simp; omega) W)
  have HM4 := Lib.hid (show ∀ W, (binOp .add 9 (.string (sb B)) (.string (⟨#[10]⟩))).run Tryd.prog W = .ok (.string (sb Y)) W from fun W => by
    have := cat_any B S (by omega) W
    rw [← hY] at this
    rw [hSS] at this; exact this)
  have HM5 := Lib.hid (show ∀ W, (binOp .add 9 (.string (sb Y)) (.string (sb D))).run Tryd.prog W = .ok (.string (sb X)) W from fun W => by rw [hX]; exact cat_any Y D (by rw [hY, List.length_append]; omega) W)
  clear hz hzc h hi hti hq hq' hS hkd hte hB hSS hD hY hX hXl
  go_enter Tryd.func6, Tryd.ntmps6
  go_wp2_with fail
  try rw [← hW0]
  clear hW0
  refine late_begin (S := fun _ W => Blk W w.heap.size 38 [.int .u8 pl, .int .u8 kd]) (by kernel_rfl) ?_
  have hE0 := HE.out.next (Below.refl _ _).drew
  have hW0 := HW.out.drew
  have hX0 := HX.out.drew
  generalize W0.drew = u0 at hE0 hW0 hX0 ⊢
  clear HE HW HX
  refine late_take [] (i := 0) (some 18) rfl rfl (by first | rfl | kernel_rfl) (by kernel_rfl) (by kernel_rfl) (by kernel_rfl) (by kernel_rfl) (by kernel_rfl) (fun Ls W h => h) (.pointer (some ⟨w.heap.size, 0, none⟩)) (fun _ _ _ h => h) (fun Ls W hl0 hW => exec_indexAddr 38 (.tmp 5) (.const (.int .i64 0)) rfl _ _ _ rfl rfl (ia__2_uint8_0_0 _ _)) hX0 hX0 ?_
  go_frame
  refine late_take [] (i := 1) (some 19) rfl rfl (by first | rfl | kernel_rfl) (by kernel_rfl) (by kernel_rfl) (by kernel_rfl) (by kernel_rfl) (by kernel_rfl) (fun Ls W h => h) (.int .u8 pl) (fun _ _ _ h => h) (fun Ls W hl0 hW => exec_load 5 (.tmp 18) rfl _ _ rfl (run_load_cell flat_uint8 (hW.cell 0))) hX0 hX0 ?_
  go_frame
  refine late_take [] (i := 2) (some 20) rfl rfl (by first | rfl | kernel_rfl) (by kernel_rfl) (by kernel_rfl) (by kernel_rfl) (by kernel_rfl) (by kernel_rfl) (fun Ls W h => h) (.pointer (some ⟨w.heap.size, 1, none⟩)) (fun _ _ _ h => h) (fun Ls W hl0 hW => exec_indexAddr 38 (.tmp 5) (.const (.int .i64 1)) rfl _ _ _ rfl rfl (ia__2_uint8_1_0 _ _)) hX0 hX0 ?_
  go_frame
  refine late_take [] (i := 3) (some 21) rfl rfl (by first | rfl | kernel_rfl) (by kernel_rfl) (by kernel_rfl) (by kernel_rfl) (by kernel_rfl) (by kernel_rfl) (fun Ls W h => h) (.int .u8 kd) (fun _ _ _ h => h) (fun Ls W hl0 hW => exec_load 5 (.tmp 20) rfl _ _ rfl (run_load_cell flat_uint8 (hW.cell 1))) hX0 hX0 ?_
  go_frame
  refine late_take [] (i := 4) (some 7) rfl rfl (by first | rfl | kernel_rfl) (by kernel_rfl) (by kernel_rfl) (by kernel_rfl) (by kernel_rfl) (by kernel_rfl) (fun Ls W h => h) (.int .u8 pl) (fun _ _ _ h => h) (fun Ls W hl0 hW => exec_assign (.tmp 19) rfl _ rfl) hX0 hX0 ?_
  go_frame
  refine late_take [] (i := 5) (some 8) rfl rfl (by first | rfl | kernel_rfl) (by kernel_rfl) (by kernel_rfl) (by kernel_rfl) (by kernel_rfl) (by kernel_rfl) (fun Ls W h => h) (.int .u8 kd) (fun _ _ _ h => h) (fun Ls W hl0 hW => exec_assign (.tmp 21) rfl _ rfl) hX0 hX0 ?_
  refine late_done (by kernel_rfl) ?_ _
  go_frame
  have HE := Lib.hid hE0
  have HW := Lib.hid hW0
  have HX := Lib.hid hX0
  clear hE0 hW0 hX0
  clear HX
  go_upto_region 2 with fail
  refine wp_region_lit ?_
  refine wpList_run 22 rfl rfl (.string (sb l)) (exec_move (.tmp 0) rfl _ rfl) ?_
  go_frame
  refine wpList_run 23 rfl rfl (.int .i64 (sb l).size) (exec_lenS (.tmp 22) rfl (sb l) rfl) ?_
  go_frame
  refine wpList_run 24 rfl rfl (.bool false) (exec_gtrI _ _ _ _ rfl .i64 ((sb l).size) (2000) false g1 rfl rfl) ?_
  go_frame
  refine wpList_run 25 rfl rfl (.bool false) (exec_move (.tmp 24) rfl _ rfl) ?_
  go_frame
  refine wpList_runG 26 rfl (by first | rfl | kernel_rfl) (.string (sb c)) (exec_move (.tmp 1) rfl _ rfl) ?_
  go_frame
  refine wpList_runG 27 rfl (by first | rfl | kernel_rfl) (.int .i64 (sb c).size) (exec_lenS (.tmp 26) rfl (sb c) rfl) ?_
  go_frame
  refine wpList_runG 28 rfl (by first | rfl | kernel_rfl) (.bool false) (exec_gtrI _ _ _ _ rfl .i64 ((sb c).size) (100) false g2 rfl rfl) ?_
  go_frame
  refine wpList_run 29 rfl rfl (.bool false) (exec_pickF _ _ _ rfl (.bool false) rfl rfl) ?_
  go_frame
  refine wpList_nil ?_
  go_upto_region 5 with (first | ((with_reducible refine (tok_ok l _ (HhL.out) _ HE.out Hh.out).mono ?_); rintro e a1 ⟨⟨A1, c1, rfl, hrd⟩, hb⟩; replace HE := Lib.hid (HE.out.next hb); replace HW := Lib.hid (HW.out.trans (hb.mono HW.out.size)); have HR1 := Lib.hid hrd; clear hrd hb) | (refine wpList_new rfl 26 rfl [.int .i64 0, .int .i64 0] pb_zero ?_; intro d1 HP1 HB1) | (refine wpList_store_all rfl 26 (.tmp 10) (.tmp 35) rfl a1.heap.size 26 [.int .i64 0, .int .i64 0] [.int .i64 0, .int .i64 0] rfl rfl HP1.out rfl pb_size (List.forall_mem_cons.2 ⟨rfl, (List.forall_mem_cons.2 ⟨rfl, fun _ h => nomatch h⟩)⟩) ?_; intro f1 HQ1 ho; have hb := HB1.out.trans (ho.below (Nat.le_refl _)); replace HE := Lib.hid (HE.out.next hb); replace HW := Lib.hid (HW.out.trans (hb.mono HW.out.size)); replace HR1 := Lib.hid (HR1.out.below hb); clear hb ho HP1 HB1))
  go_upto_region 7 with (first | (refine wpList_dst 36 rfl ?_; refine wpList_run 36 rfl rfl _ (exec_fieldAddr 26 (.tmp 10) 1 rfl _ _ rfl (pb_f _ 1 (by decide) _)) ?_; go_frame) | (refine wpList_dst 37 rfl ?_; refine wpList_run 37 rfl rfl _ (exec_load 24 (.tmp 36) rfl _ (.int .i64 0) rfl (run_load_cell er_flat (HQ1.out.cell 1))) ?_; go_frame))
  go_upto_region 9 with fail
  clear HQ1
  obtain ⟨b, off, rfl, hcc⟩ := HR1.out.at (show (T.map toT)[i]? = some (toT ⟨tk, ta, ts, tv⟩) by rw [List.getElem?_map, HTI.out]; rfl)
  simp only [toT] at hcc
  have HC := Lib.hid hcc
  clear hcc
  refine wp_region_lit ?_
  refine wpList_run 43 rfl rfl (.slice (some ⟨b, off, none⟩) T.length c1) (exec_move (.tmp 9) rfl _ rfl) ?_
  go_frame
  refine wpList_run 44 rfl rfl (.int .u8 pl) (exec_move (.tmp 7) rfl _ rfl) ?_
  go_frame
  refine wpList_run 45 rfl rfl (.int .i64 pl) (exec_convert 5 3 (.tmp 44) rfl _ (.int .i64 pl) rfl (HCU.out _)) ?_
  go_frame
  refine wpList_run 46 rfl rfl (.slice (some ⟨b, off, none⟩) T.length c1) (exec_move (.tmp 9) rfl _ rfl) ?_
  go_frame
  refine wpList_run 47 rfl rfl (.int .i64 T.length) (exec_lenT (.tmp 46) rfl _ T.length _ rfl) ?_
  go_frame
  refine wpList_run 48 rfl rfl (.int .i64 i) (exec_bin .rem 3 _ (.tmp 45) (.tmp 47) rfl (.int .i64 pl) (.int .i64 T.length) (.int .i64 i) rfl rfl rfl (HRM.out _)) ?_
  go_frame
  refine wpList_run 49 rfl rfl (.pointer (some ⟨b, off + i * 4, none⟩)) (exec_atT (.tmp 43) (.tmp 48) rfl b off _ c1 i hil rfl rfl) ?_
  go_frame
  refine wpList_run 50 rfl rfl (.pointer (some ⟨b, off + i * 4 + 1, none⟩)) (exec_fieldAddr 33 (.tmp 49) 1 rfl _ _ rfl (tk_f b (off + i * 4) 1 (by decide) _)) ?_
  go_frame
  refine wpList_run 51 rfl rfl (.int .i64 ta) (exec_load 3 (.tmp 50) rfl _ (.int .i64 ta) rfl (run_load_cell int_flat (HC.out 1 (.int .i64 ta) rfl))) ?_
  go_frame
  refine wpList_run 11 rfl rfl (.int .i64 ta) (exec_assign (.tmp 51) rfl _ rfl) ?_
  go_frame
  refine wpList_nil ?_
  go_wp2_with fail
  have HO := Lib.hid (OwnB.nil f1 f1.heap.size)
  have HB := Lib.hid (Below.refl f1.heap.size f1)
  go_loopw [12, 13] (fun a b' wr => ∃ k : Nat, b' = .int .i64 k ∧ k ≤ c.length ∧ Hid (OwnB wr f1.heap.size a (flt (c.take k))) ∧ Hid (Below f1.heap.size f1 wr)) (fun _ b' _ => c.length - (intOf b').toNat)
  case atStart => exact ⟨0, rfl, Nat.zero_le _, HO, HB⟩
  case round =>
    clear HO HB
    obtain ⟨k, rfl, hk, HO, HB⟩ := hrel
    have hacc := flt_len c k
    by_cases hlt : k < c.length
    · obtain ⟨d, hd⟩ : ∃ d, c[k]? = some d := ⟨c[k], List.getElem?_eq_getElem hlt⟩
      have HD := Lib.hid (show (sb c).data.toList[k]? = some d by rw [sb_list]; exact hd)
      have HN := Lib.hid (flt_next hd)
      have h1 : decide ((k : Int) < ((sb c).size : Int)) = true := decide_eq_true (by rw [HZC.out]; omega)
      clear hd
      generalize flt (c.take k) = acc at HO HN hacc
      by_cases hn : nlf d = true
      · have m10 : ((d.toNat : Int) != 10) = true := by
          have : d.toNat ≠ 10 := by simpa [nlf] using hn
          rw [bne_iff_ne]; omega
        have HN2 := Lib.hid (show flt (c.take (k + 1)) = acc ++ [d] by rw [HN.out, if_pos hn])
        clear hn HN
        go_wp2_with (first | (refine wpList_dst 60 rfl ?_; refine wpList_run 60 rfl rfl _ (exec_index 9 (.tmp 58) (.tmp 59) rfl _ _ (.int .u8 d.toNat) rfl rfl (sb_at (sb c) (k := k) HD.out _)) ?_; go_frame) | (refine wpList_dst 65 rfl ?_; refine wpList_run 65 rfl rfl _ (exec_index 9 (.tmp 63) (.tmp 64) rfl _ _ (.int .u8 d.toNat) rfl rfl (sb_at (sb c) (k := k) HD.out _)) ?_; go_frame) | (at_builtin; refine wpList_push rfl (.tmp 62) (.tmp 66) rfl f1.heap.size _ acc rfl HO.out _ d rfl HB.out.size (by omega) rfl ?_; intro v5 w5 ho5 hb5; have HO5 := Lib.hid ho5; have HB5 := Lib.hid (HB.out.trans hb5); clear ho5 hb5 HO HB))
        go_roundw
        case rel => exact ⟨k + 1, by go_num, by omega, Lib.hid (by rw [HN2.out]; exact HO5.out), HB5⟩
        case measure => simp [intOf]; omega
      · have m10 : ((d.toNat : Int) != 10) = false := by
          have : d.toNat = 10 := by simpa [nlf] using hn
          rw [this]; rfl
        have HN2 := Lib.hid (show flt (c.take (k + 1)) = acc by rw [HN.out, if_neg hn])
        clear hn HN
        go_wp2_with (first | (refine wpList_dst 60 rfl ?_; refine wpList_run 60 rfl rfl _ (exec_index 9 (.tmp 58) (.tmp 59) rfl _ _ (.int .u8 d.toNat) rfl rfl (sb_at (sb c) (k := k) HD.out _)) ?_; go_frame))
        go_roundw
        case rel => exact ⟨k + 1, by go_num, by omega, Lib.hid (by rw [HN2.out]; exact HO.out), HB⟩
        case measure => simp [intOf]; omega
    · obtain rfl : k = c.length := by omega
      have h1 : decide ((c.length : Int) < ((sb c).size : Int)) = false := decide_eq_false (by rw [HZC.out]; omega)
      have ho := HO.out
      rw [List.take_length] at ho
      replace HE := Lib.hid (HE.out.next HB.out)
      replace HR1 := Lib.hid (HR1.out.below HB.out)
      replace HW := Lib.hid (HW.out.trans (HB.out.mono HW.out.size))
      obtain ⟨A5, c5, rfl, _, hc5⟩ := ho.form
      have HO5 := Lib.hid ho
      clear ho HO HB hc5
      go_upto_region 24 with (first | (refine wpList_dst 69 rfl ?_; refine wpList_run 69 rfl rfl _ (exec_convert 39 9 (.tmp 68) rfl _ (.string (sb (flt c))) rfl (run_str (OwnB.rd HO5.out) c5)) ?_; go_frame) | (refine wpList_dst 70 rfl ?_; refine wpList_run 70 rfl rfl _ (exec_bin .add 9 _ _ (.tmp 69) rfl (.string ⟨#[35]⟩) (.string (sb (flt c))) (.string (sb (35 :: flt c))) rfl rfl rfl (HM1.out _)) ?_; go_frame) | (refine wpList_dst 71 rfl ?_; refine wpList_run 71 rfl rfl _ (exec_bin .add 9 _ (.tmp 70) _ rfl (.string (sb (35 :: flt c))) (.string ⟨#[10]⟩) (.string (sb (35 :: (flt c ++ [10])))) rfl rfl rfl (HM2.out _)) ?_; go_frame) | (refine wpList_dst 73 rfl ?_; refine wpList_run 73 rfl rfl _ (exec_bin .rem 5 _ (.tmp 72) _ rfl (.int .u8 kd) (.int .u8 5) (.int .u8 (2 : Int)) rfl rfl rfl (HK5.out _)) ?_; go_frame))
      clear HO5 HM1 HM2 HK5
      go_upto_region 27 with (first | (refine wpList_dst 82 rfl ?_; refine wpList_run 82 rfl rfl _ (exec_slice_hi 9 (.tmp 80) (.tmp 81) rfl (.string (sb l)) (.int .i64 ta) (.string (sb (l.take ta))) rfl rfl (HHI.out _)) ?_; go_frame) | (refine wpList_dst 88 rfl ?_; refine wpList_run 88 rfl rfl _ (exec_bin .add 9 _ (.tmp 87) _ rfl (.string (sb l)) (.string ⟨#[10]⟩) (.string (sb B)) rfl rfl rfl (HM3.out _)) ?_; go_frame))
      go_upto_region 28 with (first | (refine wpList_dst 92 rfl ?_; refine wpList_run 92 rfl rfl _ (exec_bin .add 9 _ (.tmp 90) (.tmp 91) rfl (.string (sb B)) (.string (⟨#[10]⟩)) (.string (sb Y)) rfl rfl rfl (HM4.out _)) ?_; go_frame) | (refine wpList_dst 95 rfl ?_; refine wpList_run 95 rfl rfl _ (exec_slice_lo 9 (.tmp 93) (.tmp 94) rfl (.string (sb l)) (.int .i64 ta) (.string (sb D)) rfl rfl (HLO.out _)) ?_; go_frame) | (refine wpList_dst 96 rfl ?_; refine wpList_run 96 rfl rfl _ (exec_bin .add 9 _ (.tmp 92) (.tmp 95) rfl (.string (sb Y)) (.string (sb D)) (.string (sb X)) rfl rfl rfl (HM5.out _)) ?_; go_frame) | ((with_reducible refine (tok_ok X _ (HqL.out) _ HE.out Hq.out).mono ?_); rintro e a2 ⟨⟨A2, c2, rfl, hrd⟩, hb⟩; replace HE := Lib.hid (HE.out.next hb); replace HW := Lib.hid (HW.out.trans (hb.mono HW.out.size)); replace HR1 := Lib.hid (HR1.out.below hb); have HR2 := Lib.hid hrd; clear hrd hb) | (refine wpList_new rfl 26 rfl [.int .i64 0, .int .i64 0] pb_zero ?_; intro d2 HP2 HB2) | (refine wpList_store_all rfl 26 (.tmp 17) (.tmp 99) rfl a2.heap.size 26 [.int .i64 0, .int .i64 0] [.int .i64 0, .int .i64 0] rfl rfl HP2.out rfl pb_size (List.forall_mem_cons.2 ⟨rfl, (List.forall_mem_cons.2 ⟨rfl, fun _ h => nomatch h⟩)⟩) ?_; intro f2 HQ2 ho; have hb := HB2.out.trans (ho.below (Nat.le_refl _)); replace HE := Lib.hid (HE.out.next hb); replace HW := Lib.hid (HW.out.trans (hb.mono HW.out.size)); replace HR1 := Lib.hid (HR1.out.below hb); replace HR2 := Lib.hid (HR2.out.below hb); clear hb ho HP2 HB2))
      go_wp2_with (first | ((with_reducible refine (sanity_any _ HE.out).mono ?_); rintro e wy ⟨rfl, hb⟩; replace HE := Lib.hid (HE.out.next hb); replace HW := Lib.hid (HW.out.trans (hb.mono HW.out.size)); replace HR1 := Lib.hid (HR1.out.below hb); replace HR2 := Lib.hid (HR2.out.below hb); replace HQ2 := Lib.hid (HQ2.out.next hb); clear hb) | (refine wpList_dst 102 rfl ?_; refine wpList_runG 102 rfl rfl _ (exec_load 26 (.tmp 17) rfl _ (.agg #[.int .i64 0, .int .i64 0]) rfl (run_load_part _ 26 _ 0 2 _ [.int .i64 0, .int .i64 0] _ HQ2.out (by simp) Tryd.underlying26 rfl pb_size)) ?_; go_frame) | (refine wpList_dst 103 rfl ?_; refine wpList_runG 103 rfl rfl _ (exec_buildF 26 #[] rfl #[] rfl _ (build_pb0 _)) ?_; go_frame) | (refine wpList_dst 104 rfl ?_; refine wpList_runG 104 rfl rfl _ (exec_bin .eql 26 _ (.tmp 102) (.tmp 103) rfl (.agg #[.int .i64 0, .int .i64 0]) (.agg #[.int .i64 0, .int .i64 0]) _ rfl rfl (pb_gd _ _ _ _ _) (pb_eq0 _)) ?_; go_frame) | ((with_reducible refine (HS.out _ _ _ _ _ HR1.out HR2.out).mono ?_); rintro e ws ⟨rfl, hb⟩; replace HE := Lib.hid (HE.out.next hb); replace HW := Lib.hid (HW.out.trans (hb.mono HW.out.size)); replace HR1 := Lib.hid (HR1.out.below hb); replace HR2 := Lib.hid (HR2.out.below hb); replace HQ2 := Lib.hid (HQ2.out.next hb); clear hb))
      refine bodyPost_ret (results_tmp (t := 6) rfl _ _ _) ?_ ?_
      · rfl
      · exact ⟨rfl, HW.out⟩
set_option maxRecDepth 100000 in
set_option maxHeartbeats 3000000 in
theorem blanks_2n (l c : List UInt8) (pl kd : Nat) (w : World) (hE : Env w) (hl : l.length ≤ 2000) (hc : c.length ≤ 100) (hpl : pl < 256) (hkd : kd % 5 = 2) (T V : List Tok) (i tk ta tv : Nat) (ts : List UInt8) (h : lex l 0 = .ok T) (hi : pl % T.length = i) (hti : T[i]? = some ⟨tk, ta, ts, tv⟩) (hta : ta ≤ l.length) (hte : ta ≠ l.length) (hq : lex ((l.take ta) ++ [10] ++ l.drop ta) 0 = .ok V) (hS : ∀ (A B : Option Addr) (cA cB : Nat) (W : World), RdT W A (T.map toT) → RdT W B (V.map toT) → Calls Tryd.prog 13 #[.slice A T.length cA, .slice B V.length cB] W fun e w' => e = .returned (.bool true) ∧ Below W.heap.size W w') : Calls Tryd.prog 6 #[.string (sb l), .string (sb c), .agg #[.int .u8 pl, .int .u8 kd]] w fun e w' => e = .returned (.bool true) ∧ Below w.heap.size w w' := by
  have hz : (sb l).size = l.length := sb_size l
  have hzc : (sb c).size = c.length := sb_size c
  obtain ⟨W0, hW0⟩ : ∃ W, W = w.alloc (.cells #[.int .u8 pl, .int .u8 kd] 38) := ⟨_, rfl⟩
  have hk := one_var w 38 [.int .u8 pl, .int .u8 kd]
  have HX : Hid (Blk W0 w.heap.size 38 [.int .u8 pl, .int .u8 kd]) := Lib.hid (by rw [hW0]; exact hk.1)
  have HW : Hid (Below w.heap.size w W0) := Lib.hid (by rw [hW0]; exact hk.2)
  have HE := Lib.hid (hE.next HW.out)
  clear hk hE
  have g1 : decide ((2000 : Int) < ((sb l).size : Int)) = false := decide_eq_false (by omega)
  have g2 : decide ((100 : Int) < ((sb c).size : Int)) = false := decide_eq_false (by omega)
  have HhL := Lib.hid (show l.length ≤ 65536 by omega)
  have Hh := Lib.hid h
  obtain ⟨B, hB⟩ : ∃ B, B = (l.take ta) := ⟨_, rfl⟩
  obtain ⟨S, hSS⟩ : ∃ S : List UInt8, S = [10] := ⟨_, rfl⟩
  obtain ⟨D, hD⟩ : ∃ D, D = l.drop ta := ⟨_, rfl⟩
  obtain ⟨Y, hY⟩ : ∃ Y, Y = B ++ S := ⟨_, rfl⟩
  obtain ⟨X, hX⟩ : ∃ X, X = Y ++ D := ⟨_, rfl⟩
  have hq' : lex X 0 = .ok V := by rw [hX, hY, hB, hSS, hD]; exact hq
  have hXl : B.length ≤ 2001 ∧ S.length ≤ 103 ∧ D.length ≤ 2000 := by
    have h7 := List.length_take_le' ta l
    have h8 := flt_len c c.length
    rw [List.take_length] at h8
    rw [hB, hSS, hD]
    simp only [List.length_drop, List.length_cons, List.length_nil]
    omega
  have hil := (List.getElem?_eq_some_iff.1 hti).1
  have hT0 : ((T.length : Int) == 0) = false := by rw [beq_eq_false_iff_ne]; omega
  have HRM := Lib.hid (show ∀ W, (binOp .rem 3 (.int .i64 pl) (.int .i64 T.length)).run Tryd.prog W = .ok (.int .i64 i) W from fun W => by rw [← hi]; exact rem_nat pl T.length (by omega) W)
  have HK5 := Lib.hid (show ∀ W, (binOp .rem 5 (.int .u8 kd) (.int .u8 5)).run Tryd.prog W = .ok (.int .u8 (2 : Int)) W from fun W => by have := rem_five kd W; rw [hkd] at this; exact this)
  have HCU := Lib.hid (conv_u8 pl hpl)
  have HTI := Lib.hid hti
  have Hq := Lib.hid hq'
  have HqL := Lib.hid (show X.length ≤ 65536 by rw [hX, hY, List.length_append, List.length_append]; omega)
  have HS := Lib.hid hS
  have HZC := Lib.hid hzc
  have e1 : ((ta : Int) == ((sb l).size : Int)) = false := by rw [beq_eq_false_iff_ne]; omega
  have HHI := Lib.hid (show ∀ W, (Instr.sliceAt 9 (.string (sb l)) none (some (.int .i64 ta)) none).run Tryd.prog W = .ok (.string (sb B)) W from fun W => by rw [hB]; exact run_str_hi W l ta hta)
  have HLO := Lib.hid (show ∀ W, (Instr.sliceAt 9 (.string (sb l)) (some (.int .i64 ta)) none none).run Tryd.prog W = .ok (.string (sb D)) W from fun W => by rw [hD]; exact run_str_lo W l ta hta)
  have HM1 := Lib.hid (show ∀ W, (binOp .add 9 (.string ⟨#[35]⟩) (.string (sb (flt c)))).run Tryd.prog W = .ok (.string (sb (35 :: flt c))) W from fun W => cat_any [35] (flt c) (by have h8 := flt_len c c.length; rw [List.take_length] at h8; simp; omega) W)
  have HM2 := Lib.hid (show ∀ W, (binOp .add 9 (.string (sb (35 :: flt c))) (.string ⟨#[10]⟩)).run Tryd.prog W = .ok (.string (sb (35 :: (flt c ++ [10])))) W from fun W => by exact cat_any (35 :: flt c) [10] (by have h8 := flt_len c c.length; rw [List.take_length] at h8; simp; omega) W)
  have HM4 := Lib.hid (show ∀ W, (binOp .add 9 (.string (sb B)) (.string (⟨#[10]⟩))).run Tryd.prog W = .ok (.string (sb Y)) W from fun W => by
    have := cat_any B S (by omega) W
    rw [← hY] at this
    rw [hSS] at this; exact this)
  have HM5 := Lib.hid (show ∀ W, (binOp .add 9 (.string (sb Y)) (.string (sb D))).run Tryd.prog W = .ok (.string (sb X)) W from fun W => by rw [hX]; exact cat_any Y D (by rw [hY, List.length_append]; omega) W)
  clear hz hzc h hi hti hq hq' hS hkd hte hB hSS hD hY hX hXl
  go_enter Tryd.func6, Tryd.ntmps6
  go_wp2_with fail
  try rw [← hW0]
  clear hW0
  refine late_begin (S := fun _ W => Blk W w.heap.size 38 [.int .u8 pl, .int .u8 kd]) (by kernel_rfl) ?_
  have hE0 := HE.out.next (Below.refl _ _).drew
  have hW0 := HW.out.drew
  have hX0 := HX.out.drew
  generalize W0.drew = u0 at hE0 hW0 hX0 ⊢
  clear HE HW HX
  refine late_take [] (i := 0) (some 18) rfl rfl (by first | rfl | kernel_rfl) (by kernel_rfl) (by kernel_rfl) (by kernel_rfl) (by kernel_rfl) (by kernel_rfl) (fun Ls W h => h) (.pointer (some ⟨w.heap.size, 0, none⟩)) (fun _ _ _ h => h) (fun Ls W hl0 hW => exec_indexAddr 38 (.tmp 5) (.const (.int .i64 0)) rfl _ _ _ rfl rfl (ia__2_uint8_0_0 _ _)) hX0 hX0 ?_
  go_frame
  refine late_take [] (i := 1) (some 19) rfl rfl (by first | rfl | kernel_rfl) (by kernel_rfl) (by kernel_rfl) (by kernel_rfl) (by kernel_rfl) (by kernel_rfl) (fun Ls W h => h) (.int .u8 pl) (fun _ _ _ h => h) (fun Ls W hl0 hW => exec_load 5 (.tmp 18) rfl _ _ rfl (run_load_cell flat_uint8 (hW.cell 0))) hX0 hX0 ?_
  go_frame
  refine late_take [] (i := 2) (some 20) rfl rfl (by first | rfl | kernel_rfl) (by kernel_rfl) (by kernel_rfl) (by kernel_rfl) (by kernel_rfl) (by kernel_rfl) (fun Ls W h => h) (.pointer (some ⟨w.heap.size, 1, none⟩)) (fun _ _ _ h => h) (fun Ls W hl0 hW => exec_indexAddr 38 (.tmp 5) (.const (.int .i64 1)) rfl _ _ _ rfl rfl (ia__2_uint8_1_0 _ _)) hX0 hX0 ?_
  go_frame
  refine late_take [] (i := 3) (some 21) rfl rfl (by first | rfl | kernel_rfl) (by kernel_rfl) (by kernel_rfl) (by kernel_rfl) (by kernel_rfl) (by kernel_rfl) (fun Ls W h => h) (.int .u8 kd) (fun _ _ _ h => h) (fun Ls W hl0 hW => exec_load 5 (.tmp 20) rfl _ _ rfl (run_load_cell flat_uint8 (hW.cell 1))) hX0 hX0 ?_
  go_frame
  refine late_take [] (i := 4) (some 7) rfl rfl (by first | rfl | kernel_rfl) (by kernel_rfl) (by kernel_rfl) (by kernel_rfl) (by kernel_rfl) (by kernel_rfl) (fun Ls W h => h) (.int .u8 pl) (fun _ _ _ h => h) (fun Ls W hl0 hW => exec_assign (.tmp 19) rfl _ rfl) hX0 hX0 ?_
  go_frame
  refine late_take [] (i := 5) (some 8) rfl rfl (by first | rfl | kernel_rfl) (by kernel_rfl) (by kernel_rfl) (by kernel_rfl) (by kernel_rfl) (by kernel_rfl) (fun Ls W h => h) (.int .u8 kd) (fun _ _ _ h => h) (fun Ls W hl0 hW => exec_assign (.tmp 21) rfl _ rfl) hX0 hX0 ?_
  refine late_done (by kernel_rfl) ?_ _
  go_frame
  have HE := Lib.hid hE0
  have HW := Lib.hid hW0
  have HX := Lib.hid hX0
  clear hE0 hW0 hX0
  clear HX
  go_upto_region 2 with fail
  refine wp_region_lit ?_
  refine wpList_run 22 rfl rfl (.string (sb l)) (exec_move (.tmp 0) rfl _ rfl) ?_
  go_frame
  refine wpList_run 23 rfl rfl (.int .i64 (sb l).size) (exec_lenS (.tmp 22) rfl (sb l) rfl) ?_
  go_frame
  refine wpList_run 24 rfl rfl (.bool false) (exec_gtrI _ _ _ _ rfl .i64 ((sb l).size) (2000) false g1 rfl rfl) ?_
  go_frame
  refine wpList_run 25 rfl rfl (.bool false) (exec_move (.tmp 24) rfl _ rfl) ?_
  go_frame
  refine wpList_runG 26 rfl (by first | rfl | kernel_rfl) (.string (sb c)) (exec_move (.tmp 1) rfl _ rfl) ?_
  go_frame
  refine wpList_runG 27 rfl (by first | rfl | kernel_rfl) (.int .i64 (sb c).size) (exec_lenS (.tmp 26) rfl (sb c) rfl) ?_
  go_frame
  refine wpList_runG 28 rfl (by first | rfl | kernel_rfl) (.bool false) (exec_gtrI _ _ _ _ rfl .i64 ((sb c).size) (100) false g2 rfl rfl) ?_
  go_frame
  refine wpList_run 29 rfl rfl (.bool false) (exec_pickF _ _ _ rfl (.bool false) rfl rfl) ?_
  go_frame
  refine wpList_nil ?_
  go_upto_region 5 with (first | ((with_reducible refine (tok_ok l _ (HhL.out) _ HE.out Hh.out).mono ?_); rintro e a1 ⟨⟨A1, c1, rfl, hrd⟩, hb⟩; replace HE := Lib.hid (HE.out.next hb); replace HW := Lib.hid (HW.out.trans (hb.mono HW.out.size)); have HR1 := Lib.hid hrd; clear hrd hb) | (refine wpList_new rfl 26 rfl [.int .i64 0, .int .i64 0] pb_zero ?_; intro d1 HP1 HB1) | (refine wpList_store_all rfl 26 (.tmp 10) (.tmp 35) rfl a1.heap.size 26 [.int .i64 0, .int .i64 0] [.int .i64 0, .int .i64 0] rfl rfl HP1.out rfl pb_size (List.forall_mem_cons.2 ⟨rfl, (List.forall_mem_cons.2 ⟨rfl, fun _ h => nomatch h⟩)⟩) ?_; intro f1 HQ1 ho; have hb := HB1.out.trans (ho.below (Nat.le_refl _)); replace HE := Lib.hid (HE.out.next hb); replace HW := Lib.hid (HW.out.trans (hb.mono HW.out.size)); replace HR1 := Lib.hid (HR1.out.below hb); clear hb ho HP1 HB1))
  go_upto_region 7 with (first | (refine wpList_dst 36 rfl ?_; refine wpList_run 36 rfl rfl _ (exec_fieldAddr 26 (.tmp 10) 1 rfl _ _ rfl (pb_f _ 1 (by decide) _)) ?_; go_frame) | (refine wpList_dst 37 rfl ?_; refine wpList_run 37 rfl rfl _ (exec_load 24 (.tmp 36) rfl _ (.int .i64 0) rfl (run_load_cell er_flat (HQ1.out.cell 1))) ?_; go_frame))
  go_upto_region 9 with fail
  clear HQ1
  obtain ⟨b, off, rfl, hcc⟩ := HR1.out.at (show (T.map toT)[i]? = some (toT ⟨tk, ta, ts, tv⟩) by rw [List.getElem?_map, HTI.out]; rfl)
  simp only [toT] at hcc
  have HC := Lib.hid hcc
  clear hcc
  refine wp_region_lit ?_
  refine wpList_run 43 rfl rfl (.slice (some ⟨b, off, none⟩) T.length c1) (exec_move (.tmp 9) rfl _ rfl) ?_
  go_frame
  refine wpList_run 44 rfl rfl (.int .u8 pl) (exec_move (.tmp 7) rfl _ rfl) ?_
  go_frame
  refine wpList_run 45 rfl rfl (.int .i64 pl) (exec_convert 5 3 (.tmp 44) rfl _ (.int .i64 pl) rfl (HCU.out _)) ?_
  go_frame
  refine wpList_run 46 rfl rfl (.slice (some ⟨b, off, none⟩) T.length c1) (exec_move (.tmp 9) rfl _ rfl) ?_
  go_frame
  refine wpList_run 47 rfl rfl (.int .i64 T.length) (exec_lenT (.tmp 46) rfl _ T.length _ rfl) ?_
  go_frame
  refine wpList_run 48 rfl rfl (.int .i64 i) (exec_bin .rem 3 _ (.tmp 45) (.tmp 47) rfl (.int .i64 pl) (.int .i64 T.length) (.int .i64 i) rfl rfl rfl (HRM.out _)) ?_
  go_frame
  refine wpList_run 49 rfl rfl (.pointer (some ⟨b, off + i * 4, none⟩)) (exec_atT (.tmp 43) (.tmp 48) rfl b off _ c1 i hil rfl rfl) ?_
  go_frame
  refine wpList_run 50 rfl rfl (.pointer (some ⟨b, off + i * 4 + 1, none⟩)) (exec_fieldAddr 33 (.tmp 49) 1 rfl _ _ rfl (tk_f b (off + i * 4) 1 (by decide) _)) ?_
  go_frame
  refine wpList_run 51 rfl rfl (.int .i64 ta) (exec_load 3 (.tmp 50) rfl _ (.int .i64 ta) rfl (run_load_cell int_flat (HC.out 1 (.int .i64 ta) rfl))) ?_
  go_frame
  refine wpList_run 11 rfl rfl (.int .i64 ta) (exec_assign (.tmp 51) rfl _ rfl) ?_
  go_frame
  refine wpList_nil ?_
  go_wp2_with fail
  have HO := Lib.hid (OwnB.nil f1 f1.heap.size)
  have HB := Lib.hid (Below.refl f1.heap.size f1)
  go_loopw [12, 13] (fun a b' wr => ∃ k : Nat, b' = .int .i64 k ∧ k ≤ c.length ∧ Hid (OwnB wr f1.heap.size a (flt (c.take k))) ∧ Hid (Below f1.heap.size f1 wr)) (fun _ b' _ => c.length - (intOf b').toNat)
  case atStart => exact ⟨0, rfl, Nat.zero_le _, HO, HB⟩
  case round =>
    clear HO HB
    obtain ⟨k, rfl, hk, HO, HB⟩ := hrel
    have hacc := flt_len c k
    by_cases hlt : k < c.length
    · obtain ⟨d, hd⟩ : ∃ d, c[k]? = some d := ⟨c[k], List.getElem?_eq_getElem hlt⟩
      have HD := Lib.hid (show (sb c).data.toList[k]? = some d by rw [sb_list]; exact hd)
      have HN := Lib.hid (flt_next hd)
      have h1 : decide ((k : Int) < ((sb c).size : Int)) = true := decide_eq_true (by rw [HZC.out]; omega)
      clear hd
      generalize flt (c.take k) = acc at HO HN hacc
      by_cases hn : nlf d = true
      · have m10 : ((d.toNat : Int) != 10) = true := by
          have : d.toNat ≠ 10 := by simpa [nlf] using hn
          rw [bne_iff_ne]; omega
        have HN2 := Lib.hid (show flt (c.take (k + 1)) = acc ++ [d] by rw [HN.out, if_pos hn])
        clear hn HN
        go_wp2_with (first | (refine wpList_dst 60 rfl ?_; refine wpList_run 60 rfl rfl _ (exec_index 9 (.tmp 58) (.tmp 59) rfl _ _ (.int .u8 d.toNat) rfl rfl (sb_at (sb c) (k := k) HD.out _)) ?_; go_frame) | (refine wpList_dst 65 rfl ?_; refine wpList_run 65 rfl rfl _ (exec_index 9 (.tmp 63) (.tmp 64) rfl _ _ (.int .u8 d.toNat) rfl rfl (sb_at (sb c) (k := k) HD.out _)) ?_; go_frame) | (at_builtin; refine wpList_push rfl (.tmp 62) (.tmp 66) rfl f1.heap.size _ acc rfl HO.out _ d rfl HB.out.size (by omega) rfl ?_; intro v5 w5 ho5 hb5; have HO5 := Lib.hid ho5; have HB5 := Lib.hid (HB.out.trans hb5); clear ho5 hb5 HO HB))
        go_roundw
        case rel => exact ⟨k + 1, by go_num, by omega, Lib.hid (by rw [HN2.out]; exact HO5.out), HB5⟩
        case measure => simp [intOf]; omega
      · have m10 : ((d.toNat : Int) != 10) = false := by
          have : d.toNat = 10 := by simpa [nlf] using hn
          rw [this]; rfl
        have HN2 := Lib.hid (show flt (c.take (k + 1)) = acc by rw [HN.out, if_neg hn])
        clear hn HN
        go_wp2_with (first | (refine wpList_dst 60 rfl ?_; refine wpList_run 60 rfl rfl _ (exec_index 9 (.tmp 58) (.tmp 59) rfl _ _ (.int .u8 d.toNat) rfl rfl (sb_at (sb c) (k := k) HD.out _)) ?_; go_frame))
        go_roundw
        case rel => exact ⟨k + 1, by go_num, by omega, Lib.hid (by rw [HN2.out]; exact HO.out), HB⟩
        case measure => simp [intOf]; omega
    · obtain rfl : k = c.length := by omega
      have h1 : decide ((c.length : Int) < ((sb c).size : Int)) = false := decide_eq_false (by rw [HZC.out]; omega)
      have ho := HO.out
      rw [List.take_length] at ho
      replace HE := Lib.hid (HE.out.next HB.out)
      replace HR1 := Lib.hid (HR1.out.below HB.out)
      replace HW := Lib.hid (HW.out.trans (HB.out.mono HW.out.size))
      obtain ⟨A5, c5, rfl, _, hc5⟩ := ho.form
      have HO5 := Lib.hid ho
      clear ho HO HB hc5
      go_upto_region 24 with (first | (refine wpList_dst 69 rfl ?_; refine wpList_run 69 rfl rfl _ (exec_convert 39 9 (.tmp 68) rfl _ (.string (sb (flt c))) rfl (run_str (OwnB.rd HO5.out) c5)) ?_; go_frame) | (refine wpList_dst 70 rfl ?_; refine wpList_run 70 rfl rfl _ (exec_bin .add 9 _ _ (.tmp 69) rfl (.string ⟨#[35]⟩) (.string (sb (flt c))) (.string (sb (35 :: flt c))) rfl rfl rfl (HM1.out _)) ?_; go_frame) | (refine wpList_dst 71 rfl ?_; refine wpList_run 71 rfl rfl _ (exec_bin .add 9 _ (.tmp 70) _ rfl (.string (sb (35 :: flt c))) (.string ⟨#[10]⟩) (.string (sb (35 :: (flt c ++ [10])))) rfl rfl rfl (HM2.out _)) ?_; go_frame) | (refine wpList_dst 73 rfl ?_; refine wpList_run 73 rfl rfl _ (exec_bin .rem 5 _ (.tmp 72) _ rfl (.int .u8 kd) (.int .u8 5) (.int .u8 (2 : Int)) rfl rfl rfl (HK5.out _)) ?_; go_frame))
      clear HO5 HM1 HM2 HK5
      go_upto_region 27 with (first | (refine wpList_dst 82 rfl ?_; refine wpList_run 82 rfl rfl _ (exec_slice_hi 9 (.tmp 80) (.tmp 81) rfl (.string (sb l)) (.int .i64 ta) (.string (sb B)) rfl rfl (HHI.out _)) ?_; go_frame))
      go_upto_region 28 with (first | (refine wpList_dst 92 rfl ?_; refine wpList_run 92 rfl rfl _ (exec_bin .add 9 _ (.tmp 90) (.tmp 91) rfl (.string (sb B)) (.string (⟨#[10]⟩)) (.string (sb Y)) rfl rfl rfl (HM4.out _)) ?_; go_frame) | (refine wpList_dst 95 rfl ?_; refine wpList_run 95 rfl rfl _ (exec_slice_lo 9 (.tmp 93) (.tmp 94) rfl (.string (sb l)) (.int .i64 ta) (.string (sb D)) rfl rfl (HLO.out _)) ?_; go_frame) | (refine wpList_dst 96 rfl ?_; refine wpList_run 96 rfl rfl _ (exec_bin .add 9 _ (.tmp 92) (.tmp 95) rfl (.string (sb Y)) (.string (sb D)) (.string (sb X)) rfl rfl rfl (HM5.out _)) ?_; go_frame) | ((with_reducible refine (tok_ok X _ (HqL.out) _ HE.out Hq.out).mono ?_); rintro e a2 ⟨⟨A2, c2, rfl, hrd⟩, hb⟩; replace HE := Lib.hid (HE.out.next hb); replace HW := Lib.hid (HW.out.trans (hb.mono HW.out.size)); replace HR1 := Lib.hid (HR1.out.below hb); have HR2 := Lib.hid hrd; clear hrd hb) | (refine wpList_new rfl 26 rfl [.int .i64 0, .int .i64 0] pb_zero ?_; intro d2 HP2 HB2) | (refine wpList_store_all rfl 26 (.tmp 17) (.tmp 99) rfl a2.heap.size 26 [.int .i64 0, .int .i64 0] [.int .i64 0, .int .i64 0] rfl rfl HP2.out rfl pb_size (List.forall_mem_cons.2 ⟨rfl, (List.forall_mem_cons.2 ⟨rfl, fun _ h => nomatch h⟩)⟩) ?_; intro f2 HQ2 ho; have hb := HB2.out.trans (ho.below (Nat.le_refl _)); replace HE := Lib.hid (HE.out.next hb); replace HW := Lib.hid (HW.out.trans (hb.mono HW.out.size)); replace HR1 := Lib.hid (HR1.out.below hb); replace HR2 := Lib.hid (HR2.out.below hb); clear hb ho HP2 HB2))
      go_wp2_with (first | ((with_reducible refine (sanity_any _ HE.out).mono ?_); rintro e wy ⟨rfl, hb⟩; replace HE := Lib.hid (HE.out.next hb); replace HW := Lib.hid (HW.out.trans (hb.mono HW.out.size)); replace HR1 := Lib.hid (HR1.out.below hb); replace HR2 := Lib.hid (HR2.out.below hb); replace HQ2 := Lib.hid (HQ2.out.next hb); clear hb) | (refine wpList_dst 102 rfl ?_; refine wpList_runG 102 rfl rfl _ (exec_load 26 (.tmp 17) rfl _ (.agg #[.int .i64 0, .int .i64 0]) rfl (run_load_part _ 26 _ 0 2 _ [.int .i64 0, .int .i64 0] _ HQ2.out (by simp) Tryd.underlying26 rfl pb_size)) ?_; go_frame) | (refine wpList_dst 103 rfl ?_; refine wpList_runG 103 rfl rfl _ (exec_buildF 26 #[] rfl #[] rfl _ (build_pb0 _)) ?_; go_frame) | (refine wpList_dst 104 rfl ?_; refine wpList_runG 104 rfl rfl _ (exec_bin .eql 26 _ (.tmp 102) (.tmp 103) rfl (.agg #[.int .i64 0, .int .i64 0]) (.agg #[.int .i64 0, .int .i64 0]) _ rfl rfl (pb_gd _ _ _ _ _) (pb_eq0 _)) ?_; go_frame) | ((with_reducible refine (HS.out _ _ _ _ _ HR1.out HR2.out).mono ?_); rintro e ws ⟨rfl, hb⟩; replace HE := Lib.hid (HE.out.next hb); replace HW := Lib.hid (HW.out.trans (hb.mono HW.out.size)); replace HR1 := Lib.hid (HR1.out.below hb); replace HR2 := Lib.hid (HR2.out.below hb); replace HQ2 := Lib.hid (HQ2.out.next hb); clear hb))
      refine bodyPost_ret (results_tmp (t := 6) rfl _ _ _) ?_ ?_
      · rfl
      · exact ⟨rfl, HW.out⟩
set_option maxRecDepth 100000 in
set_option maxHeartbeats 3000000 in
theorem blanks_re (l c : List UInt8) (pl kd : Nat) (w : World) (hE : Env w) (hl : l.length ≤ 2000) (hc : c.length ≤ 100) (hpl : pl < 256) (r : Nat) (hkd : kd % 5 = r) (hr : r ≠ 0 ∧ r ≠ 1 ∧ r ≠ 2) (T V : List Tok) (i tk ta tv : Nat) (ts : List UInt8) (h : lex l 0 = .ok T) (hi : pl % T.length = i) (hti : T[i]? = some ⟨tk, ta, ts, tv⟩) (hta : ta ≤ l.length) (hte : ta = l.length) (hq : lex ((l ++ [10]) ++ (35 :: (flt c ++ [10])) ++ l.drop ta) 0 = .ok V) (hS : ∀ (A B : Option Addr) (cA cB : Nat) (W : World), RdT W A (T.map toT) → RdT W B (V.map toT) → Calls Tryd.prog 13 #[.slice A T.length cA, .slice B V.length cB] W fun e w' => e = .returned (.bool true) ∧ Below W.heap.size W w') : Calls Tryd.prog 6 #[.string (sb l), .string (sb c), .agg #[.int .u8 pl, .int .u8 kd]] w fun e w' => e = .returned (.bool true) ∧ Below w.heap.size w w' := by
  have hz : (sb l).size = l.length := sb_size l
  have hzc : (sb c).size = c.length := sb_size c
  obtain ⟨W0, hW0⟩ : ∃ W, W = w.alloc (.cells #[.int .u8 pl, .int .u8 kd] 38) := ⟨_, rfl⟩
  have hk := one_var w 38 [.int .u8 pl, .int .u8 kd]
  have HX : Hid (Blk W0 w.heap.size 38 [.int .u8 pl, .int .u8 kd]) := Lib.hid (by rw [hW0]; exact hk.1)
  have HW : Hid (Below w.heap.size w W0) := Lib.hid (by rw [hW0]; exact hk.2)
  have HE := Lib.hid (hE.next HW.out)
  clear hk hE
  have g1 : decide ((2000 : Int) < ((sb l).size : Int)) = false := decide_eq_false (by omega)
  have g2 : decide ((100 : Int) < ((sb c).size : Int)) = false := decide_eq_false (by omega)
  have HhL := Lib.hid (show l.length ≤ 65536 by omega)
  have Hh := Lib.hid h
  obtain ⟨B, hB⟩ : ∃ B, B = (l ++ [10]) := ⟨_, rfl⟩
  obtain ⟨S, hSS⟩ : ∃ S : List UInt8, S = (35 :: (flt c ++ [10])) := ⟨_, rfl⟩
  obtain ⟨D, hD⟩ : ∃ D, D = l.drop ta := ⟨_, rfl⟩
  obtain ⟨Y, hY⟩ : ∃ Y, Y = B ++ S := ⟨_, rfl⟩
  obtain ⟨X, hX⟩ : ∃ X, X = Y ++ D := ⟨_, rfl⟩
  have hq' : lex X 0 = .ok V := by rw [hX, hY, hB, hSS, hD]; exact hq
  have hXl : B.length ≤ 2001 ∧ S.length ≤ 103 ∧ D.length ≤ 2000 := by
    have h7 := List.length_take_le' ta l
    have h8 := flt_len c c.length
    rw [List.take_length] at h8
    rw [hB, hSS, hD]
    simp only [List.length_append, List.length_drop, List.length_cons, List.length_nil]
    omega
  have hil := (List.getElem?_eq_some_iff.1 hti).1
  have hT0 : ((T.length : Int) == 0) = false := by rw [beq_eq_false_iff_ne]; omega
  have HRM := Lib.hid (show ∀ W, (binOp .rem 3 (.int .i64 pl) (.int .i64 T.length)).run Tryd.prog W = .ok (.int .i64 i) W from fun W => by rw [← hi]; exact rem_nat pl T.length (by omega) W)
  have HK5 := Lib.hid (show ∀ W, (binOp .rem 5 (.int .u8 kd) (.int .u8 5)).run Tryd.prog W = .ok (.int .u8 r) W from fun W => by have := rem_five kd W; rw [hkd] at this; exact this)
  have HCU := Lib.hid (conv_u8 pl hpl)
  have HTI := Lib.hid hti
  have Hq := Lib.hid hq'
  have HqL := Lib.hid (show X.length ≤ 65536 by rw [hX, hY, List.length_append, List.length_append]; omega)
  have HS := Lib.hid hS
  have HZC := Lib.hid hzc
  have e1 : ((ta : Int) == ((sb l).size : Int)) = true := by rw [beq_iff_eq]; omega
  have HHI := Lib.hid (show ∀ W, (Instr.sliceAt 9 (.string (sb l)) none (some (.int .i64 ta)) none).run Tryd.prog W = .ok (.string (sb (l.take ta))) W from fun W => by exact run_str_hi W l ta hta)
  have HLO := Lib.hid (show ∀ W, (Instr.sliceAt 9 (.string (sb l)) (some (.int .i64 ta)) none none).run Tryd.prog W = .ok (.string (sb D)) W from fun W => by rw [hD]; exact run_str_lo W l ta hta)
  have HM1 := Lib.hid (show ∀ W, (binOp .add 9 (.string ⟨#[35]⟩) (.string (sb (flt c)))).run Tryd.prog W = .ok (.string (sb (35 :: flt c))) W from fun W => cat_any [35] (flt c) (by have h8 := flt_len c c.length; rw [List.take_length] at h8; simp; omega) W)
  have HM2 := Lib.hid (show ∀ W, (binOp .add 9 (.string (sb (35 :: flt c))) (.string ⟨#[10]⟩)).run Tryd.prog W = .ok (.string (sb S)) W from fun W => by rw [hSS]; exact cat_any (35 :: flt c) [10] (by have h8 := flt_len c c.length; rw [List.take_length] at h8; simp; omega) W)
  have HM3 := Lib.hid (show ∀ W, (binOp .add 9 (.string (sb l)) (.string ⟨#[10]⟩)).run Tryd.prog W = .ok (.string (sb B)) W from fun W => by rw [hB]; exact cat_any l [10] (by simp; omega) W)
  have HM4 := Lib.hid (show ∀ W, (binOp .add 9 (.string (sb B)) (.string (sb S))).run Tryd.prog W = .ok (.string (sb Y)) W from fun W => by
    have := cat_any B S (by omega) W
    rw [← hY] at this
    exact this)
  have HM5 := Lib.hid (show ∀ W, (binOp .add 9 (.string (sb Y)) (.string (sb D))).run Tryd.prog W = .ok (.string (sb X)) W from fun W => by rw [hX]; exact cat_any Y D (by rw [hY, List.length_append]; omega) W)
  have r0 : ((r : Int) == 0) = false := by rw [beq_eq_false_iff_ne]; omega
  have r1 : ((r : Int) == 1) = false := by rw [beq_eq_false_iff_ne]; omega
  have r2 : ((r : Int) == 2) = false := by rw [beq_eq_false_iff_ne]; omega
  clear hz hzc h hi hti hq hq' hS hkd hte hB hSS hD hY hX hXl hr
  go_enter Tryd.func6, Tryd.ntmps6
  go_wp2_with fail
  try rw [← hW0]
  clear hW0
  refine late_begin (S := fun _ W => Blk W w.heap.size 38 [.int .u8 pl, .int .u8 kd]) (by kernel_rfl) ?_
  have hE0 := HE.out.next (Below.refl _ _).drew
  have hW0 := HW.out.drew
  have hX0 := HX.out.drew
  generalize W0.drew = u0 at hE0 hW0 hX0 ⊢
  clear HE HW HX
  refine late_take [] (i := 0) (some 18) rfl rfl (by first | rfl | kernel_rfl) (by kernel_rfl) (by kernel_rfl) (by kernel_rfl) (by kernel_rfl) (by kernel_rfl) (fun Ls W h => h) (.pointer (some ⟨w.heap.size, 0, none⟩)) (fun _ _ _ h => h) (fun Ls W hl0 hW => exec_indexAddr 38 (.tmp 5) (.const (.int .i64 0)) rfl _ _ _ rfl rfl (ia__2_uint8_0_0 _ _)) hX0 hX0 ?_
  go_frame
  refine late_take [] (i := 1) (some 19) rfl rfl (by first | rfl | kernel_rfl) (by kernel_rfl) (by kernel_rfl) (by kernel_rfl) (by kernel_rfl) (by kernel_rfl) (fun Ls W h => h) (.int .u8 pl) (fun _ _ _ h => h) (fun Ls W hl0 hW => exec_load 5 (.tmp 18) rfl _ _ rfl (run_load_cell flat_uint8 (hW.cell 0))) hX0 hX0 ?_
  go_frame
  refine late_take [] (i := 2) (some 20) rfl rfl (by first | rfl | kernel_rfl) (by kernel_rfl) (by kernel_rfl) (by kernel_rfl) (by kernel_rfl) (by kernel_rfl) (fun Ls W h => h) (.pointer (some ⟨w.heap.size, 1, none⟩)) (fun _ _ _ h => h) (fun Ls W hl0 hW => exec_indexAddr 38 (.tmp 5) (.const (.int .i64 1)) rfl _ _ _ rfl rfl (ia__2_uint8_1_0 _ _)) hX0 hX0 ?_
  go_frame
  refine late_take [] (i := 3) (some 21) rfl rfl (by first | rfl | kernel_rfl) (by kernel_rfl) (by kernel_rfl) (by kernel_rfl) (by kernel_rfl) (by kernel_rfl) (fun Ls W h => h) (.int .u8 kd) (fun _ _ _ h => h) (fun Ls W hl0 hW => exec_load 5 (.tmp 20) rfl _ _ rfl (run_load_cell flat_uint8 (hW.cell 1))) hX0 hX0 ?_
  go_frame
  refine late_take [] (i := 4) (some 7) rfl rfl (by first | rfl | kernel_rfl) (by kernel_rfl) (by kernel_rfl) (by kernel_rfl) (by kernel_rfl) (by kernel_rfl) (fun Ls W h => h) (.int .u8 pl) (fun _ _ _ h => h) (fun Ls W hl0 hW => exec_assign (.tmp 19) rfl _ rfl) hX0 hX0 ?_
  go_frame
  refine late_take [] (i := 5) (some 8) rfl rfl (by first | rfl | kernel_rfl) (by kernel_rfl) (by kernel_rfl) (by kernel_rfl) (by kernel_rfl) (by kernel_rfl) (fun Ls W h => h) (.int .u8 kd) (fun _ _ _ h => h) (fun Ls W hl0 hW => exec_assign (.tmp 21) rfl _ rfl) hX0 hX0 ?_
  refine late_done (by kernel_rfl) ?_ _
  go_frame
  have HE := Lib.hid hE0
  have HW := Lib.hid hW0
  have HX := Lib.hid hX0
  clear hE0 hW0 hX0
  clear HX
  go_upto_region 2 with fail
  refine wp_region_lit ?_
  refine wpList_run 22 rfl rfl (.string (sb l)) (exec_move (.tmp 0) rfl _ rfl) ?_
  go_frame
  refine wpList_run 23 rfl rfl (.int .i64 (sb l).size) (exec_lenS (.tmp 22) rfl (sb l) rfl) ?_
  go_frame
  refine wpList_run 24 rfl rfl (.bool false) (exec_gtrI _ _ _ _ rfl .i64 ((sb l).size) (2000) false g1 rfl rfl) ?_
  go_frame
  refine wpList_run 25 rfl rfl (.bool false) (exec_move (.tmp 24) rfl _ rfl) ?_
  go_frame
  refine wpList_runG 26 rfl (by first | rfl | kernel_rfl) (.string (sb c)) (exec_move (.tmp 1) rfl _ rfl) ?_
  go_frame
  refine wpList_runG 27 rfl (by first | rfl | kernel_rfl) (.int .i64 (sb c).size) (exec_lenS (.tmp 26) rfl (sb c) rfl) ?_
  go_frame
  refine wpList_runG 28 rfl (by first | rfl | kernel_rfl) (.bool false) (exec_gtrI _ _ _ _ rfl .i64 ((sb c).size) (100) false g2 rfl rfl) ?_
  go_frame
  refine wpList_run 29 rfl rfl (.bool false) (exec_pickF _ _ _ rfl (.bool false) rfl rfl) ?_
  go_frame
  refine wpList_nil ?_
  go_upto_region 5 with (first | ((with_reducible refine (tok_ok l _ (HhL.out) _ HE.out Hh.out).mono ?_); rintro e a1 ⟨⟨A1, c1, rfl, hrd⟩, hb⟩; replace HE := Lib.hid (HE.out.next hb); replace HW := Lib.hid (HW.out.trans (hb.mono HW.out.size)); have HR1 := Lib.hid hrd; clear hrd hb) | (refine wpList_new rfl 26 rfl [.int .i64 0, .int .i64 0] pb_zero ?_; intro d1 HP1 HB1) | (refine wpList_store_all rfl 26 (.tmp 10) (.tmp 35) rfl a1.heap.size 26 [.int .i64 0, .int .i64 0] [.int .i64 0, .int .i64 0] rfl rfl HP1.out rfl pb_size (List.forall_mem_cons.2 ⟨rfl, (List.forall_mem_cons.2 ⟨rfl, fun _ h => nomatch h⟩)⟩) ?_; intro f1 HQ1 ho; have hb := HB1.out.trans (ho.below (Nat.le_refl _)); replace HE := Lib.hid (HE.out.next hb); replace HW := Lib.hid (HW.out.trans (hb.mono HW.out.size)); replace HR1 := Lib.hid (HR1.out.below hb); clear hb ho HP1 HB1))
  go_upto_region 7 with (first | (refine wpList_dst 36 rfl ?_; refine wpList_run 36 rfl rfl _ (exec_fieldAddr 26 (.tmp 10) 1 rfl _ _ rfl (pb_f _ 1 (by decide) _)) ?_; go_frame) | (refine wpList_dst 37 rfl ?_; refine wpList_run 37 rfl rfl _ (exec_load 24 (.tmp 36) rfl _ (.int .i64 0) rfl (run_load_cell er_flat (HQ1.out.cell 1))) ?_; go_frame))
  go_upto_region 9 with fail
  clear HQ1
  obtain ⟨b, off, rfl, hcc⟩ := HR1.out.at (show (T.map toT)[i]? = some (toT ⟨tk, ta, ts, tv⟩) by rw [List.getElem?_map, HTI.out]; rfl)
  simp only [toT] at hcc
  have HC := Lib.hid hcc
  clear hcc
  refine wp_region_lit ?_
  refine wpList_run 43 rfl rfl (.slice (some ⟨b, off, none⟩) T.length c1) (exec_move (.tmp 9) rfl _ rfl) ?_
  go_frame
  refine wpList_run 44 rfl rfl (.int .u8 pl) (exec_move (.tmp 7) rfl _ rfl) ?_
  go_frame
  refine wpList_run 45 rfl rfl (.int .i64 pl) (exec_convert 5 3 (.tmp 44) rfl _ (.int .i64 pl) rfl (HCU.out _)) ?_
  go_frame
  refine wpList_run 46 rfl rfl (.slice (some ⟨b, off, none⟩) T.length c1) (exec_move (.tmp 9) rfl _ rfl) ?_
  go_frame
  refine wpList_run 47 rfl rfl (.int .i64 T.length) (exec_lenT (.tmp 46) rfl _ T.length _ rfl) ?_
  go_frame
  refine wpList_run 48 rfl rfl (.int .i64 i) (exec_bin .rem 3 _ (.tmp 45) (.tmp 47) rfl (.int .i64 pl) (.int .i64 T.length) (.int .i64 i) rfl rfl rfl (HRM.out _)) ?_
  go_frame
  refine wpList_run 49 rfl rfl (.pointer (some ⟨b, off + i * 4, none⟩)) (exec_atT (.tmp 43) (.tmp 48) rfl b off _ c1 i hil rfl rfl) ?_
  go_frame
  refine wpList_run 50 rfl rfl (.pointer (some ⟨b, off + i * 4 + 1, none⟩)) (exec_fieldAddr 33 (.tmp 49) 1 rfl _ _ rfl (tk_f b (off + i * 4) 1 (by decide) _)) ?_
  go_frame
  refine wpList_run 51 rfl rfl (.int .i64 ta) (exec_load 3 (.tmp 50) rfl _ (.int .i64 ta) rfl (run_load_cell int_flat (HC.out 1 (.int .i64 ta) rfl))) ?_
  go_frame
  refine wpList_run 11 rfl rfl (.int .i64 ta) (exec_assign (.tmp 51) rfl _ rfl) ?_
  go_frame
  refine wpList_nil ?_
  go_wp2_with fail
  have HO := Lib.hid (OwnB.nil f1 f1.heap.size)
  have HB := Lib.hid (Below.refl f1.heap.size f1)
  go_loopw [12, 13] (fun a b' wr => ∃ k : Nat, b' = .int .i64 k ∧ k ≤ c.length ∧ Hid (OwnB wr f1.heap.size a (flt (c.take k))) ∧ Hid (Below f1.heap.size f1 wr)) (fun _ b' _ => c.length - (intOf b').toNat)
  case atStart => exact ⟨0, rfl, Nat.zero_le _, HO, HB⟩
  case round =>
    clear HO HB
    obtain ⟨k, rfl, hk, HO, HB⟩ := hrel
    have hacc := flt_len c k
    by_cases hlt : k < c.length
    · obtain ⟨d, hd⟩ : ∃ d, c[k]? = some d := ⟨c[k], List.getElem?_eq_getElem hlt⟩
      have HD := Lib.hid (show (sb c).data.toList[k]? = some d by rw [sb_list]; exact hd)
      have HN := Lib.hid (flt_next hd)
      have h1 : decide ((k : Int) < ((sb c).size : Int)) = true := decide_eq_true (by rw [HZC.out]; omega)
      clear hd
      generalize flt (c.take k) = acc at HO HN hacc
      by_cases hn : nlf d = true
      · have m10 : ((d.toNat : Int) != 10) = true := by
          have : d.toNat ≠ 10 := by simpa [nlf] using hn
          rw [bne_iff_ne]; omega
        have HN2 := Lib.hid (show flt (c.take (k + 1)) = acc ++ [d] by rw [HN.out, if_pos hn])
        clear hn HN
        go_wp2_with (first | (refine wpList_dst 60 rfl ?_; refine wpList_run 60 rfl rfl _ (exec_index 9 (.tmp 58) (.tmp 59) rfl _ _ (.int .u8 d.toNat) rfl rfl (sb_at (sb c) (k := k) HD.out _)) ?_; go_frame) | (refine wpList_dst 65 rfl ?_; refine wpList_run 65 rfl rfl _ (exec_index 9 (.tmp 63) (.tmp 64) rfl _ _ (.int .u8 d.toNat) rfl rfl (sb_at (sb c) (k := k) HD.out _)) ?_; go_frame) | (at_builtin; refine wpList_push rfl (.tmp 62) (.tmp 66) rfl f1.heap.size _ acc rfl HO.out _ d rfl HB.out.size (by omega) rfl ?_; intro v5 w5 ho5 hb5; have HO5 := Lib.hid ho5; have HB5 := Lib.hid (HB.out.trans hb5); clear ho5 hb5 HO HB))
        go_roundw
        case rel => exact ⟨k + 1, by go_num, by omega, Lib.hid (by rw [HN2.out]; exact HO5.out), HB5⟩
        case measure => simp [intOf]; omega
      · have m10 : ((d.toNat : Int) != 10) = false := by
          have : d.toNat = 10 := by simpa [nlf] using hn
          rw [this]; rfl
        have HN2 := Lib.hid (show flt (c.take (k + 1)) = acc by rw [HN.out, if_neg hn])
        clear hn HN
        go_wp2_with (first | (refine wpList_dst 60 rfl ?_; refine wpList_run 60 rfl rfl _ (exec_index 9 (.tmp 58) (.tmp 59) rfl _ _ (.int .u8 d.toNat) rfl rfl (sb_at (sb c) (k := k) HD.out _)) ?_; go_frame))
        go_roundw
        case rel => exact ⟨k + 1, by go_num, by omega, Lib.hid (by rw [HN2.out]; exact HO.out), HB⟩
        case measure => simp [intOf]; omega
    · obtain rfl : k = c.length := by omega
      have h1 : decide ((c.length : Int) < ((sb c).size : Int)) = false := decide_eq_false (by rw [HZC.out]; omega)
      have ho := HO.out
      rw [List.take_length] at ho
      replace HE := Lib.hid (HE.out.next HB.out)
      replace HR1 := Lib.hid (HR1.out.below HB.out)
      replace HW := Lib.hid (HW.out.trans (HB.out.mono HW.out.size))
      obtain ⟨A5, c5, rfl, _, hc5⟩ := ho.form
      have HO5 := Lib.hid ho
      clear ho HO HB hc5
      go_upto_region 24 with (first | (refine wpList_dst 69 rfl ?_; refine wpList_run 69 rfl rfl _ (exec_convert 39 9 (.tmp 68) rfl _ (.string (sb (flt c))) rfl (run_str (OwnB.rd HO5.out) c5)) ?_; go_frame) | (refine wpList_dst 70 rfl ?_; refine wpList_run 70 rfl rfl _ (exec_bin .add 9 _ _ (.tmp 69) rfl (.string ⟨#[35]⟩) (.string (sb (flt c))) (.string (sb (35 :: flt c))) rfl rfl rfl (HM1.out _)) ?_; go_frame) | (refine wpList_dst 71 rfl ?_; refine wpList_run 71 rfl rfl _ (exec_bin .add 9 _ (.tmp 70) _ rfl (.string (sb (35 :: flt c))) (.string ⟨#[10]⟩) (.string (sb S)) rfl rfl rfl (HM2.out _)) ?_; go_frame) | (refine wpList_dst 73 rfl ?_; refine wpList_run 73 rfl rfl _ (exec_bin .rem 5 _ (.tmp 72) _ rfl (.int .u8 kd) (.int .u8 5) (.int .u8 r) rfl rfl rfl (HK5.out _)) ?_; go_frame))
      clear HO5 HM1 HM2 HK5
      go_upto_region 27 with (first | (refine wpList_dst 82 rfl ?_; refine wpList_run 82 rfl rfl _ (exec_slice_hi 9 (.tmp 80) (.tmp 81) rfl (.string (sb l)) (.int .i64 ta) (.string (sb (l.take ta))) rfl rfl (HHI.out _)) ?_; go_frame) | (refine wpList_dst 88 rfl ?_; refine wpList_run 88 rfl rfl _ (exec_bin .add 9 _ (.tmp 87) _ rfl (.string (sb l)) (.string ⟨#[10]⟩) (.string (sb B)) rfl rfl rfl (HM3.out _)) ?_; go_frame))
      go_upto_region 28 with (first | (refine wpList_dst 92 rfl ?_; refine wpList_run 92 rfl rfl _ (exec_bin .add 9 _ (.tmp 90) (.tmp 91) rfl (.string (sb B)) (.string (sb S)) (.string (sb Y)) rfl rfl rfl (HM4.out _)) ?_; go_frame) | (refine wpList_dst 95 rfl ?_; refine wpList_run 95 rfl rfl _ (exec_slice_lo 9 (.tmp 93) (.tmp 94) rfl (.string (sb l)) (.int .i64 ta) (.string (sb D)) rfl rfl (HLO.out _)) ?_; go_frame) | (refine wpList_dst 96 rfl ?_; refine wpList_run 96 rfl rfl _ (exec_bin .add 9 _ (.tmp 92) (.tmp 95) rfl (.string (sb Y)) (.string (sb D)) (.string (sb X)) rfl rfl rfl (HM5.out _)) ?_; go_frame) | ((with_reducible refine (tok_ok X _ (HqL.out) _ HE.out Hq.out).mono ?_); rintro e a2 ⟨⟨A2, c2, rfl, hrd⟩, hb⟩; replace HE := Lib.hid (HE.out.next hb); replace HW := Lib.hid (HW.out.trans (hb.mono HW.out.size)); replace HR1 := Lib.hid (HR1.out.below hb); have HR2 := Lib.hid hrd; clear hrd hb) | (refine wpList_new rfl 26 rfl [.int .i64 0, .int .i64 0] pb_zero ?_; intro d2 HP2 HB2) | (refine wpList_store_all rfl 26 (.tmp 17) (.tmp 99) rfl a2.heap.size 26 [.int .i64 0, .int .i64 0] [.int .i64 0, .int .i64 0] rfl rfl HP2.out rfl pb_size (List.forall_mem_cons.2 ⟨rfl, (List.forall_mem_cons.2 ⟨rfl, fun _ h => nomatch h⟩)⟩) ?_; intro f2 HQ2 ho; have hb := HB2.out.trans (ho.below (Nat.le_refl _)); replace HE := Lib.hid (HE.out.next hb); replace HW := Lib.hid (HW.out.trans (hb.mono HW.out.size)); replace HR1 := Lib.hid (HR1.out.below hb); replace HR2 := Lib.hid (HR2.out.below hb); clear hb ho HP2 HB2))
      go_wp2_with (first | ((with_reducible refine (sanity_any _ HE.out).mono ?_); rintro e wy ⟨rfl, hb⟩; replace HE := Lib.hid (HE.out.next hb); replace HW := Lib.hid (HW.out.trans (hb.mono HW.out.size)); replace HR1 := Lib.hid (HR1.out.below hb); replace HR2 := Lib.hid (HR2.out.below hb); replace HQ2 := Lib.hid (HQ2.out.next hb); clear hb) | (refine wpList_dst 102 rfl ?_; refine wpList_runG 102 rfl rfl _ (exec_load 26 (.tmp 17) rfl _ (.agg #[.int .i64 0, .int .i64 0]) rfl (run_load_part _ 26 _ 0 2 _ [.int .i64 0, .int .i64 0] _ HQ2.out (by simp) Tryd.underlying26 rfl pb_size)) ?_; go_frame) | (refine wpList_dst 103 rfl ?_; refine wpList_runG 103 rfl rfl _ (exec_buildF 26 #[] rfl #[] rfl _ (build_pb0 _)) ?_; go_frame) | (refine wpList_dst 104 rfl ?_; refine wpList_runG 104 rfl rfl _ (exec_bin .eql 26 _ (.tmp 102) (.tmp 103) rfl (.agg #[.int .i64 0, .int .i64 0]) (.agg #[.int .i64 0, .int .i64 0]) _ rfl rfl (pb_gd _ _ _ _ _) (pb_eq0 _)) ?_; go_frame) | ((with_reducible refine (HS.out _ _ _ _ _ HR1.out HR2.out).mono ?_); rintro e ws ⟨rfl, hb⟩; replace HE := Lib.hid (HE.out.next hb); replace HW := Lib.hid (HW.out.trans (hb.mono HW.out.size)); replace HR1 := Lib.hid (HR1.out.below hb); replace HR2 := Lib.hid (HR2.out.below hb); replace HQ2 := Lib.hid (HQ2.out.next hb); clear hb))
      refine bodyPost_ret (results_tmp (t := 6) rfl _ _ _) ?_ ?_
      · rfl
      · exact ⟨rfl, HW.out⟩
set_option maxRecDepth 100000 in
set_option maxHeartbeats 3000000 in
theorem blanks_rn (l c : List UInt8) (pl kd : Nat) (w : World) (hE : Env w) (hl : l.length ≤ 2000) (hc : c.length ≤ 100) (hpl : pl < 256) (r : Nat) (hkd : kd % 5 = r) (hr : r ≠ 0 ∧ r ≠ 1 ∧ r ≠ 2) (T V : List Tok) (i tk ta tv : Nat) (ts : List UInt8) (h : lex l 0 = .ok T) (hi : pl % T.length = i) (hti : T[i]? = some ⟨tk, ta, ts, tv⟩) (hta : ta ≤ l.length) (hte : ta ≠ l.length) (hq : lex ((l.take ta) ++ (35 :: (flt c ++ [10])) ++ l.drop ta) 0 = .ok V) (hS : ∀ (A B : Option Addr) (cA cB : Nat) (W : World), RdT W A (T.map toT) → RdT W B (V.map toT) → Calls Tryd.prog 13 #[.slice A T.length cA, .slice B V.length cB] W fun e w' => e = .returned (.bool true) ∧ Below W.heap.size W w') : Calls Tryd.prog 6 #[.string (sb l), .string (sb c), .agg #[.int .u8 pl, .int .u8 kd]] w fun e w' => e = .returned (.bool true) ∧ Below w.heap.size w w' := by
  have hz : (sb l).size = l.length := sb_size l
  have hzc : (sb c).size = c.length := sb_size c
  obtain ⟨W0, hW0⟩ : ∃ W, W = w.alloc (.cells #[.int .u8 pl, .int .u8 kd] 38) := ⟨_, rfl⟩
  have hk := one_var w 38 [.int .u8 pl, .int .u8 kd]
  have HX : Hid (Blk W0 w.heap.size 38 [.int .u8 pl, .int .u8 kd]) := Lib.hid (by rw [hW0]; exact hk.1)
  have HW : Hid (Below w.heap.size w W0) := Lib.hid (by rw [hW0]; exact hk.2)
  have HE := Lib.hid (hE.next HW.out)
  clear hk hE
  have g1 : decide ((2000 : Int) < ((sb l).size : Int)) = false := decide_eq_false (by omega)
  have g2 : decide ((100 : Int) < ((sb c).size : Int)) = false := decide_eq_false (by omega)
  have HhL := Lib.hid (show l.length ≤ 65536 by omega)
  have Hh := Lib.hid h
  obtain ⟨B, hB⟩ : ∃ B, B = (l.take ta) := ⟨_, rfl⟩
  obtain ⟨S, hSS⟩ : ∃ S : List UInt8, S = (35 :: (flt c ++ [10])) := ⟨_, rfl⟩
  obtain ⟨D, hD⟩ : ∃ D, D = l.drop ta := ⟨_, rfl⟩
  obtain ⟨Y, hY⟩ : ∃ Y, Y = B ++ S := ⟨_, rfl⟩
  obtain ⟨X, hX⟩ : ∃ X, X = Y ++ D := ⟨_, rfl⟩
  have hq' : lex X 0 = .ok V := by rw [hX, hY, hB, hSS, hD]; exact hq
  have hXl : B.length ≤ 2001 ∧ S.length ≤ 103 ∧ D.length ≤ 2000 := by
    have h7 := List.length_take_le' ta l
    have h8 := flt_len c c.length
    rw [List.take_length] at h8
    rw [hB, hSS, hD]
    simp only [List.length_append, List.length_drop, List.length_cons, List.length_nil]
    omega
  have hil := (List.getElem?_eq_some_iff.1 hti).1
  have hT0 : ((T.length : Int) == 0) = false := by rw [beq_eq_false_iff_ne]; omega
  have HRM := Lib.hid (show ∀ W, (binOp .rem 3 (.int .i64 pl) (.int .i64 T.length)).run Tryd.prog W = .ok (.int .i64 i) W from fun W => by rw [← hi]; exact rem_nat pl T.length (by omega) W)
  have HK5 := Lib.hid (show ∀ W, (binOp .rem 5 (.int .u8 kd) (.int .u8 5)).run Tryd.prog W = .ok (.int .u8 r) W from fun W => by have := rem_five kd W; rw [hkd] at this; exact this)
  have HCU := Lib.hid (conv_u8 pl hpl)
  have HTI := Lib.hid hti
  have Hq := Lib.hid hq'
  have HqL := Lib.hid (show X.length ≤ 65536 by rw [hX, hY, List.length_append, List.length_append]; omega)
  have HS := Lib.hid hS
  have HZC := Lib.hid hzc
  have e1 : ((ta : Int) == ((sb l).size : Int)) = false := by rw [beq_eq_false_iff_ne]; omega
  have HHI := Lib.hid (show ∀ W, (Instr.sliceAt 9 (.string (sb l)) none (some (.int .i64 ta)) none).run Tryd.prog W = .ok (.string (sb B)) W from fun W => by rw [hB]; exact run_str_hi W l ta hta)
  have HLO := Lib.hid (show ∀ W, (Instr.sliceAt 9 (.string (sb l)) (some (.int .i64 ta)) none none).run Tryd.prog W = .ok (.string (sb D)) W from fun W => by rw [hD]; exact run_str_lo W l ta hta)
  have HM1 := Lib.hid (show ∀ W, (binOp .add 9 (.string ⟨#[35]⟩) (.string (sb (flt c)))).run Tryd.prog W = .ok (.string (sb (35 :: flt c))) W from fun W => cat_any [35] (flt c) (by have h8 := flt_len c c.length; rw [List.take_length] at h8; simp; omega) W)
  have HM2 := Lib.hid (show ∀ W, (binOp .add 9 (.string (sb (35 :: flt c))) (.string ⟨#[10]⟩)).run Tryd.prog W = .ok (.string (sb S)) W from fun W => by rw [hSS]; exact cat_any (35 :: flt c) [10] (by have h8 := flt_len c c.length; rw [List.take_length] at h8; simp; omega) W)
  have HM4 := Lib.hid (show ∀ W, (binOp .add 9 (.string (sb B)) (.string (sb S))).run Tryd.prog W = .ok (.string (sb Y)) W from fun W => by
    have := cat_any B S (by omega) W
    rw [← hY] at this
    exact this)
  have HM5 := Lib.hid (show ∀ W, (binOp .add 9 (.string (sb Y)) (.string (sb D))).run Tryd.prog W = .ok (.string (sb X)) W from fun W => by rw [hX]; exact cat_any Y D (by rw [hY, List.length_append]; omega) W)
  have r0 : ((r : Int) == 0) = false := by rw [beq_eq_false_iff_ne]; omega
  have r1 : ((r : Int) == 1) = false := by rw [beq_eq_false_iff_ne]; omega
  have r2 : ((r : Int) == 2) = false := by rw [beq_eq_false_iff_ne]; omega
  clear hz hzc h hi hti hq hq' hS hkd hte hB hSS hD hY hX hXl hr
  go_enter Tryd.func6, Tryd.ntmps6
  go_wp2_with fail
  try rw [← hW0]
  clear hW0
  refine late_begin (S := fun _ W => Blk W w.heap.size 38 [.int .u8 pl, .int .u8 kd]) (by kernel_rfl) ?_
  have hE0 := HE.out.next (Below.refl _ _).drew
  have hW0 := HW.out.drew
  have hX0 := HX.out.drew
  generalize W0.drew = u0 at hE0 hW0 hX0 ⊢
  clear HE HW HX
  refine late_take [] (i := 0) (some 18) rfl rfl (by first | rfl | kernel_rfl) (by kernel_rfl) (by kernel_rfl) (by kernel_rfl) (by kernel_rfl) (by kernel_rfl) (fun Ls W h => h) (.pointer (some ⟨w.heap.size, 0, none⟩)) (fun _ _ _ h => h) (fun Ls W hl0 hW => exec_indexAddr 38 (.tmp 5) (.const (.int .i64 0)) rfl _ _ _ rfl rfl (ia__2_uint8_0_0 _ _)) hX0 hX0 ?_
  go_frame
  refine late_take [] (i := 1) (some 19) rfl rfl (by first | rfl | kernel_rfl) (by kernel_rfl) (by kernel_rfl) (by kernel_rfl) (by kernel_rfl) (by kernel_rfl) (fun Ls W h => h) (.int .u8 pl) (fun _ _ _ h => h) (fun Ls W hl0 hW => exec_load 5 (.tmp 18) rfl _ _ rfl (run_load_cell flat_uint8 (hW.cell 0))) hX0 hX0 ?_
  go_frame
  refine late_take [] (i := 2) (some 20) rfl rfl (by first | rfl | kernel_rfl) (by kernel_rfl) (by kernel_rfl) (by kernel_rfl) (by kernel_rfl) (by kernel_rfl) (fun Ls W h => h) (.pointer (some ⟨w.heap.size, 1, none⟩)) (fun _ _ _ h => h) (fun Ls W hl0 hW => exec_indexAddr 38 (.tmp 5) (.const (.int .i64 1)) rfl _ _ _ rfl rfl (ia__2_uint8_1_0 _ _)) hX0 hX0 ?_
  go_frame
  refine late_take [] (i := 3) (some 21) rfl rfl (by first | rfl | kernel_rfl) (by kernel_rfl) (by kernel_rfl) (by kernel_rfl) (by kernel_rfl) (by kernel_rfl) (fun Ls W h => h) (.int .u8 kd) (fun _ _ _ h => h) (fun Ls W hl0 hW => exec_load 5 (.tmp 20) rfl _ _ rfl (run_load_cell flat_uint8 (hW.cell 1))) hX0 hX0 ?_
  go_frame
  refine late_take [] (i := 4) (some 7) rfl rfl (by first | rfl | kernel_rfl) (by kernel_rfl) (by kernel_rfl) (by kernel_rfl) (by kernel_rfl) (by kernel_rfl) (fun Ls W h => h) (.int .u8 pl) (fun _ _ _ h => h) (fun Ls W hl0 hW => exec_assign (.tmp 19) rfl _ rfl) hX0 hX0 ?_
  go_frame
  refine late_take [] (i := 5) (some 8) rfl rfl (by first | rfl | kernel_rfl) (by kernel_rfl) (by kernel_rfl) (by kernel_rfl) (by kernel_rfl) (by kernel_rfl) (fun Ls W h => h) (.int .u8 kd) (fun _ _ _ h => h) (fun Ls W hl0 hW => exec_assign (.tmp 21) rfl _ rfl) hX0 hX0 ?_
  refine late_done (by kernel_rfl) ?_ _
  go_frame
  have HE := Lib.hid hE0
  have HW := Lib.hid hW0
  have HX := Lib.hid hX0
  clear hE0 hW0 hX0
  clear HX
  go_upto_region 2 with fail
  refine wp_region_lit ?_
  refine wpList_run 22 rfl rfl (.string (sb l)) (exec_move (.tmp 0) rfl _ rfl) ?_
  go_frame
  refine wpList_run 23 rfl rfl (.int .i64 (sb l).size) (exec_lenS (.tmp 22) rfl (sb l) rfl) ?_
  go_frame
  refine wpList_run 24 rfl rfl (.bool false) (exec_gtrI _ _ _ _ rfl .i64 ((sb l).size) (2000) false g1 rfl rfl) ?_
  go_frame
  refine wpList_run 25 rfl rfl (.bool false) (exec_move (.tmp 24) rfl _ rfl) ?_
  go_frame
  refine wpList_runG 26 rfl (by first | rfl | kernel_rfl) (.string (sb c)) (exec_move (.tmp 1) rfl _ rfl) ?_
  go_frame
  refine wpList_runG 27 rfl (by first | rfl | kernel_rfl) (.int .i64 (sb c).size) (exec_lenS (.tmp 26) rfl (sb c) rfl) ?_
  go_frame
  refine wpList_runG 28 rfl (by first | rfl | kernel_rfl) (.bool false) (exec_gtrI _ _ _ _ rfl .i64 ((sb c).size) (100) false g2 rfl rfl) ?_
  go_frame
  refine wpList_run 29 rfl rfl (.bool false) (exec_pickF _ _ _ rfl (.bool false) rfl rfl) ?_
  go_frame
  refine wpList_nil ?_
  go_upto_region 5 with (first | ((with_reducible refine (tok_ok l _ (HhL.out) _ HE.out Hh.out).mono ?_); rintro e a1 ⟨⟨A1, c1, rfl, hrd⟩, hb⟩; replace HE := Lib.hid (HE.out.next hb); replace HW := Lib.hid (HW.out.trans (hb.mono HW.out.size)); have HR1 := Lib.hid hrd; clear hrd hb) | (refine wpList_new rfl 26 rfl [.int .i64 0, .int .i64 0] pb_zero ?_; intro d1 HP1 HB1) | (refine wpList_store_all rfl 26 (.tmp 10) (.tmp 35) rfl a1.heap.size 26 [.int .i64 0, .int .i64 0] [.int .i64 0, .int .i64 0] rfl rfl HP1.out rfl pb_size (List.forall_mem_cons.2 ⟨rfl, (List.forall_mem_cons.2 ⟨rfl, fun _ h => nomatch h⟩)⟩) ?_; intro f1 HQ1 ho; have hb := HB1.out.trans (ho.below (Nat.le_refl _)); replace HE := Lib.hid (HE.out.next hb); replace HW := Lib.hid (HW.out.trans (hb.mono HW.out.size)); replace HR1 := Lib.hid (HR1.out.below hb); clear hb ho HP1 HB1))
  go_upto_region 7 with (first | (refine wpList_dst 36 rfl ?_; refine wpList_run 36 rfl rfl _ (exec_fieldAddr 26 (.tmp 10) 1 rfl _ _ rfl (pb_f _ 1 (by decide) _)) ?_; go_frame) | (refine wpList_dst 37 rfl ?_; refine wpList_run 37 rfl rfl _ (exec_load 24 (.tmp 36) rfl _ (.int .i64 0) rfl (run_load_cell er_flat (HQ1.out.cell 1))) ?_; go_frame))
  go_upto_region 9 with fail
  clear HQ1
  obtain ⟨b, off, rfl, hcc⟩ := HR1.out.at (show (T.map toT)[i]? = some (toT ⟨tk, ta, ts, tv⟩) by rw [List.getElem?_map, HTI.out]; rfl)
  simp only [toT] at hcc
  have HC := Lib.hid hcc
  clear hcc
  refine wp_region_lit ?_
  refine wpList_run 43 rfl rfl (.slice (some ⟨b, off, none⟩) T.length c1) (exec_move (.tmp 9) rfl _ rfl) ?_
  go_frame
  refine wpList_run 44 rfl rfl (.int .u8 pl) (exec_move (.tmp 7) rfl _ rfl) ?_
  go_frame
  refine wpList_run 45 rfl rfl (.int .i64 pl) (exec_convert 5 3 (.tmp 44) rfl _ (.int .i64 pl) rfl (HCU.out _)) ?_
  go_frame
  refine wpList_run 46 rfl rfl (.slice (some ⟨b, off, none⟩) T.length c1) (exec_move (.tmp 9) rfl _ rfl) ?_
  go_frame
  refine wpList_run 47 rfl rfl (.int .i64 T.length) (exec_lenT (.tmp 46) rfl _ T.length _ rfl) ?_
  go_frame
  refine wpList_run 48 rfl rfl (.int .i64 i) (exec_bin .rem 3 _ (.tmp 45) (.tmp 47) rfl (.int .i64 pl) (.int .i64 T.length) (.int .i64 i) rfl rfl rfl (HRM.out _)) ?_
  go_frame
  refine wpList_run 49 rfl rfl (.pointer (some ⟨b, off + i * 4, none⟩)) (exec_atT (.tmp 43) (.tmp 48) rfl b off _ c1 i hil rfl rfl) ?_
  go_frame
  refine wpList_run 50 rfl rfl (.pointer (some ⟨b, off + i * 4 + 1, none⟩)) (exec_fieldAddr 33 (.tmp 49) 1 rfl _ _ rfl (tk_f b (off + i * 4) 1 (by decide) _)) ?_
  go_frame
  refine wpList_run 51 rfl rfl (.int .i64 ta) (exec_load 3 (.tmp 50) rfl _ (.int .i64 ta) rfl (run_load_cell int_flat (HC.out 1 (.int .i64 ta) rfl))) ?_
  go_frame
  refine wpList_run 11 rfl rfl (.int .i64 ta) (exec_assign (.tmp 51) rfl _ rfl) ?_
  go_frame
  refine wpList_nil ?_
  go_wp2_with fail
  have HO := Lib.hid (OwnB.nil f1 f1.heap.size)
  have HB := Lib.hid (Below.refl f1.heap.size f1)
  go_loopw [12, 13] (fun a b' wr => ∃ k : Nat, b' = .int .i64 k ∧ k ≤ c.length ∧ Hid (OwnB wr f1.heap.size a (flt (c.take k))) ∧ Hid (Below f1.heap.size f1 wr)) (fun _ b' _ => c.length - (intOf b').toNat)
  case atStart => exact ⟨0, rfl, Nat.zero_le _, HO, HB⟩
  case round =>
    clear HO HB
    obtain ⟨k, rfl, hk, HO, HB⟩ := hrel
    have hacc := flt_len c k
    by_cases hlt : k < c.length
    · obtain ⟨d, hd⟩ : ∃ d, c[k]? = some d := ⟨c[k], List.getElem?_eq_getElem hlt⟩
      have HD := Lib.hid (show (sb c).data.toList[k]? = some d by rw [sb_list]; exact hd)
      have HN := Lib.hid (flt_next hd)
      have h1 : decide ((k : Int) < ((sb c).size : Int)) = true := decide_eq_true (by rw [HZC.out]; omega)
      clear hd
      generalize flt (c.take k) = acc at HO HN hacc
      by_cases hn : nlf d = true
      · have m10 : ((d.toNat : Int) != 10) = true := by
          have : d.toNat ≠ 10 := by simpa [nlf] using hn
          rw [bne_iff_ne]; omega
        have HN2 := Lib.hid (show flt (c.take (k + 1)) = acc ++ [d] by rw [HN.out, if_pos hn])
        clear hn HN
        go_wp2_with (first | (refine wpList_dst 60 rfl ?_; refine wpList_run 60 rfl rfl _ (exec_index 9 (.tmp 58) (.tmp 59) rfl _ _ (.int .u8 d.toNat) rfl rfl (sb_at (sb c) (k := k) HD.out _)) ?_; go_frame) | (refine wpList_dst 65 rfl ?_; refine wpList_run 65 rfl rfl _ (exec_index 9 (.tmp 63) (.tmp 64) rfl _ _ (.int .u8 d.toNat) rfl rfl (sb_at (sb c) (k := k) HD.out _)) ?_; go_frame) | (at_builtin; refine wpList_push rfl (.tmp 62) (.tmp 66) rfl f1.heap.size _ acc rfl HO.out _ d rfl HB.out.size (by omega) rfl ?_; intro v5 w5 ho5 hb5; have HO5 := Lib.hid ho5; have HB5 := Lib.hid (HB.out.trans hb5); clear ho5 hb5 HO HB))
        go_roundw
        case rel => exact ⟨k + 1, by go_num, by omega, Lib.hid (by rw [HN2.out]; exact HO5.out), HB5⟩
        case measure => simp [intOf]; omega
      · have m10 : ((d.toNat : Int) != 10) = false := by
          have : d.toNat = 10 := by simpa [nlf] using hn
          rw [this]; rfl
        have HN2 := Lib.hid (show flt (c.take (k + 1)) = acc by rw [HN.out, if_neg hn])
        clear hn HN
        go_wp2_with (first | (refine wpList_dst 60 rfl ?_; refine wpList_run 60 rfl rfl _ (exec_index 9 (.tmp 58) (.tmp 59) rfl _ _ (.int .u8 d.toNat) rfl rfl (sb_at (sb c) (k := k) HD.out _)) ?_; go_frame))
        go_roundw
        case rel => exact ⟨k + 1, by go_num, by omega, Lib.hid (by rw [HN2.out]; exact HO.out), HB⟩
        case measure => simp [intOf]; omega
    · obtain rfl : k = c.length := by omega
      have h1 : decide ((c.length : Int) < ((sb c).size : Int)) = false := decide_eq_false (by rw [HZC.out]; omega)
      have ho := HO.out
      rw [List.take_length] at ho
      replace HE := Lib.hid (HE.out.next HB.out)
      replace HR1 := Lib.hid (HR1.out.below HB.out)
      replace HW := Lib.hid (HW.out.trans (HB.out.mono HW.out.size))
      obtain ⟨A5, c5, rfl, _, hc5⟩ := ho.form
      have HO5 := Lib.hid ho
      clear ho HO HB hc5
      go_upto_region 24 with (first | (refine wpList_dst 69 rfl ?_; refine wpList_run 69 rfl rfl _ (exec_convert 39 9 (.tmp 68) rfl _ (.string (sb (flt c))) rfl (run_str (OwnB.rd HO5.out) c5)) ?_; go_frame) | (refine wpList_dst 70 rfl ?_; refine wpList_run 70 rfl rfl _ (exec_bin .add 9 _ _ (.tmp 69) rfl (.string ⟨#[35]⟩) (.string (sb (flt c))) (.string (sb (35 :: flt c))) rfl rfl rfl (HM1.out _)) ?_; go_frame) | (refine wpList_dst 71 rfl ?_; refine wpList_run 71 rfl rfl _ (exec_bin .add 9 _ (.tmp 70) _ rfl (.string (sb (35 :: flt c))) (.string ⟨#[10]⟩) (.string (sb S)) rfl rfl rfl (HM2.out _)) ?_; go_frame) | (refine wpList_dst 73 rfl ?_; refine wpList_run 73 rfl rfl _ (exec_bin .rem 5 _ (.tmp 72) _ rfl (.int .u8 kd) (.int .u8 5) (.int .u8 r) rfl rfl rfl (HK5.out _)) ?_; go_frame))
      clear HO5 HM1 HM2 HK5
      go_upto_region 27 with (first | (refine wpList_dst 82 rfl ?_; refine wpList_run 82 rfl rfl _ (exec_slice_hi 9 (.tmp 80) (.tmp 81) rfl (.string (sb l)) (.int .i64 ta) (.string (sb B)) rfl rfl (HHI.out _)) ?_; go_frame))
      go_upto_region 28 with (first | (refine wpList_dst 92 rfl ?_; refine wpList_run 92 rfl rfl _ (exec_bin .add 9 _ (.tmp 90) (.tmp 91) rfl (.string (sb B)) (.string (sb S)) (.string (sb Y)) rfl rfl rfl (HM4.out _)) ?_; go_frame) | (refine wpList_dst 95 rfl ?_; refine wpList_run 95 rfl rfl _ (exec_slice_lo 9 (.tmp 93) (.tmp 94) rfl (.string (sb l)) (.int .i64 ta) (.string (sb D)) rfl rfl (HLO.out _)) ?_; go_frame) | (refine wpList_dst 96 rfl ?_; refine wpList_run 96 rfl rfl _ (exec_bin .add 9 _ (.tmp 92) (.tmp 95) rfl (.string (sb Y)) (.string (sb D)) (.string (sb X)) rfl rfl rfl (HM5.out _)) ?_; go_frame) | ((with_reducible refine (tok_ok X _ (HqL.out) _ HE.out Hq.out).mono ?_); rintro e a2 ⟨⟨A2, c2, rfl, hrd⟩, hb⟩; replace HE := Lib.hid (HE.out.next hb); replace HW := Lib.hid (HW.out.trans (hb.mono HW.out.size)); replace HR1 := Lib.hid (HR1.out.below hb); have HR2 := Lib.hid hrd; clear hrd hb) | (refine wpList_new rfl 26 rfl [.int .i64 0, .int .i64 0] pb_zero ?_; intro d2 HP2 HB2) | (refine wpList_store_all rfl 26 (.tmp 17) (.tmp 99) rfl a2.heap.size 26 [.int .i64 0, .int .i64 0] [.int .i64 0, .int .i64 0] rfl rfl HP2.out rfl pb_size (List.forall_mem_cons.2 ⟨rfl, (List.forall_mem_cons.2 ⟨rfl, fun _ h => nomatch h⟩)⟩) ?_; intro f2 HQ2 ho; have hb := HB2.out.trans (ho.below (Nat.le_refl _)); replace HE := Lib.hid (HE.out.next hb); replace HW := Lib.hid (HW.out.trans (hb.mono HW.out.size)); replace HR1 := Lib.hid (HR1.out.below hb); replace HR2 := Lib.hid (HR2.out.below hb); clear hb ho HP2 HB2))
      go_wp2_with (first | ((with_reducible refine (sanity_any _ HE.out).mono ?_); rintro e wy ⟨rfl, hb⟩; replace HE := Lib.hid (HE.out.next hb); replace HW := Lib.hid (HW.out.trans (hb.mono HW.out.size)); replace HR1 := Lib.hid (HR1.out.below hb); replace HR2 := Lib.hid (HR2.out.below hb); replace HQ2 := Lib.hid (HQ2.out.next hb); clear hb) | (refine wpList_dst 102 rfl ?_; refine wpList_runG 102 rfl rfl _ (exec_load 26 (.tmp 17) rfl _ (.agg #[.int .i64 0, .int .i64 0]) rfl (run_load_part _ 26 _ 0 2 _ [.int .i64 0, .int .i64 0] _ HQ2.out (by simp) Tryd.underlying26 rfl pb_size)) ?_; go_frame) | (refine wpList_dst 103 rfl ?_; refine wpList_runG 103 rfl rfl _ (exec_buildF 26 #[] rfl #[] rfl _ (build_pb0 _)) ?_; go_frame) | (refine wpList_dst 104 rfl ?_; refine wpList_runG 104 rfl rfl _ (exec_bin .eql 26 _ (.tmp 102) (.tmp 103) rfl (.agg #[.int .i64 0, .int .i64 0]) (.agg #[.int .i64 0, .int .i64 0]) _ rfl rfl (pb_gd _ _ _ _ _) (pb_eq0 _)) ?_; go_frame) | ((with_reducible refine (HS.out _ _ _ _ _ HR1.out HR2.out).mono ?_); rintro e ws ⟨rfl, hb⟩; replace HE := Lib.hid (HE.out.next hb); replace HW := Lib.hid (HW.out.trans (hb.mono HW.out.size)); replace HR1 := Lib.hid (HR1.out.below hb); replace HR2 := Lib.hid (HR2.out.below hb); replace HQ2 := Lib.hid (HQ2.out.next hb); clear hb))
      refine bodyPost_ret (results_tmp (t := 6) rfl _ _ _) ?_ ?_
      · rfl
      · exact ⟨rfl, HW.out⟩
end Go.Proofs.YtggjgikpiljoiaaDoor
