/- The walk of CalendarBlocksAsSpecified. -/
import Derived.Test.YtmifpaafpmibmaaDoorDI
namespace Go.Proofs.YtmifpaafpmibmaaDoor
open Go.RowKit Hm Wm Cm

theorem ia__3_int_0_0 (g : Nat) (W : World) : (Instr.indexAt 24 (.pointer (some ⟨g, 0, none⟩)) (.int .i64 0)).run Tryd.prog W = .ok (.pointer (some ⟨g, 0, none⟩)) W := by kernel_rfl
theorem zero_rivermarkref06_Binned : (Tryd.prog.info? 29).map (·.zero) = some (some (.agg #[.int .i64 0, .int .i64 0, .int .i64 0, .int .i64 0])) := by kernel_rfl
theorem size_rivermarkref06_Binned : (Tryd.prog.info? 29).map (·.size) = some 4 := by kernel_rfl
theorem fa_rivermarkref06_Binned_0_0 (g : Nat) (W : World) : (Instr.fieldAt 29 (.pointer (some ⟨g, 0, none⟩)) 0).run Tryd.prog W = .ok (.pointer (some ⟨g, 0, none⟩)) W := by kernel_rfl
theorem fa_rivermarkref06_Binned_1_0 (g : Nat) (W : World) : (Instr.fieldAt 29 (.pointer (some ⟨g, 0, none⟩)) 1).run Tryd.prog W = .ok (.pointer (some ⟨g, 3, none⟩)) W := by kernel_rfl
theorem ia__3_int_1_0 (g : Nat) (W : World) : (Instr.indexAt 24 (.pointer (some ⟨g, 0, none⟩)) (.int .i64 1)).run Tryd.prog W = .ok (.pointer (some ⟨g, 1, none⟩)) W := by kernel_rfl
theorem ia__3_int_2_0 (g : Nat) (W : World) : (Instr.indexAt 24 (.pointer (some ⟨g, 0, none⟩)) (.int .i64 2)).run Tryd.prog W = .ok (.pointer (some ⟨g, 2, none⟩)) W := by kernel_rfl
theorem bn_neqS (l f t : Int) (W : World) : (binOp .neq 23 (.agg #[.int .i64 l, .int .i64 f, .int .i64 t]) (.agg #[.int .i64 l, .int .i64 f, .int .i64 t])).run Tryd.prog W = .ok (.bool false) W := by
  have := bn_neq (l, f, t) (l, f, t) W
  rw [decide_eq_true rfl] at this
  exact this
theorem exec_neqT {P : Program} {oi : Oper} {a : Act} {w : World} (t : TypeId) (x y : Operand) (rt : TypeId) (ho : oi.op = .binOp .neq t x y rt) (k : IntKind) (m : Int) (hx : a.eval x = .int k m) (hy : a.eval y = .int k m) : (execOp a.eval oi).run P w = .ok (.value (.bool false)) w := by
  have := exec_neqI (P := P) (w := w) t x y rt ho k m m hx hy
  simpa using this
theorem run_bsame_neq (b : Bool) (W : World) : (binOp .neq 4 (.bool b) (.bool b)).run Tryd.prog W = .ok (.bool false) W := by
  cases b <;> kernel_rfl
theorem bool_guard_neq (b : Bool) (W : World) (x y : Operand) : (eqGuard .neq 4 x y (.bool b) (.bool b)).run Tryd.prog W = .ok () W := by simp [go_sem]
theorem same_lit2 (l : List Bk) (A B : Option Addr) (c d : Nat) (w : World) (ha : RdB w A (l.map toI)) (hb : RdB w B (l.map toI)) (hl : l.length ≤ 2 ^ 40) : Calls Tryd.prog 13 #[.slice A l.length c, .slice B l.length d] w fun e w' => e = .returned (.bool true) ∧ Below w.heap.size w w' := by
  have h := same_any A B c d (l.map toI) (l.map toI) w ha hb (by simp; omega)
  rwa [decide_eq_true rfl, List.length_map] at h
set_option maxRecDepth 1000000 in
set_option maxHeartbeats 4000000 in
theorem blocks_core (l0 f0 t0 lv k0 k1 k2 xa xb xc xe ya yb yc ye er es : Int) (l m : List Bk) (w : World) (hL : Lens w) (hlen : l.length ≤ 2 ^ 40) (hlen2 : m.length ≤ 2 ^ 40)
    (h24 : ∀ W, Lens W → Calls Tryd.prog 5 #[.int .i64 lv, .int .i64 k0] W fun e w' => e = .returned (.tuple #[bV xa xb xc, .int .i64 xe]) ∧ Below W.heap.size W w')
    (h30 : ∀ W, Calls Tryd.prog 6 #[.int .i64 lv, .int .i64 k0] W fun e w' => e = .returned (bdV xa xb xc xe) ∧ Below W.heap.size W w')
    (h33 : ∀ W, Lens W → Calls Tryd.prog 7 #[.agg #[.int .i64 l0, .int .i64 f0, .int .i64 t0]] W fun e w' => e = .returned (.tuple #[bV ya yb yc, .int .i64 ye]) ∧ Below W.heap.size W w')
    (h37 : ∀ W, Calls Tryd.prog 8 #[.agg #[.int .i64 l0, .int .i64 f0, .int .i64 t0]] W fun e w' => e = .returned (bdV ya yb yc ye) ∧ Below W.heap.size W w')
    (h40 : ∀ W, Lens W → Calls Tryd.prog 9 #[.agg #[.int .i64 l0, .int .i64 f0, .int .i64 t0]] W fun e w' => (∃ A c, e = .returned (.tuple #[.slice A l.length c, .int .i64 er]) ∧ RdB w' A (l.map toI)) ∧ Below W.heap.size W w')
    (h44 : ∀ W, Calls Tryd.prog 10 #[.agg #[.int .i64 l0, .int .i64 f0, .int .i64 t0]] W fun e w' => (∃ A c, e = .returned (LsV (.slice A l.length c) er) ∧ RdB w' A (l.map toI)) ∧ Below W.heap.size W w')
    (h108 : ∀ W, Lens W → Calls Tryd.prog 16 #[.int .i64 lv, .int .i64 k1, .int .i64 k2] W fun e w' => (∃ A c, e = .returned (.tuple #[.slice A m.length c, .int .i64 es]) ∧ RdB w' A (m.map toI)) ∧ Below W.heap.size W w')
    (h116 : ∀ W, Calls Tryd.prog 17 #[.int .i64 lv, .int .i64 k1, .int .i64 k2] W fun e w' => (∃ A c, e = .returned (LsV (.slice A m.length c) es) ∧ RdB w' A (m.map toI)) ∧ Below W.heap.size W w')
    : Calls Tryd.prog 3 #[.agg #[.int .i64 l0, .int .i64 f0, .int .i64 t0], .int .i64 lv, .agg #[.int .i64 k0, .int .i64 k1, .int .i64 k2]] w fun e w' => e = .returned (.bool true) ∧ Below w.heap.size w w' := by
  have FI := Lib.hid (fun W => rint_any k1 k2 W)
  have FS := Lib.hid (fun W h => sanity_any W h)
  have F24 := Lib.hid h24
  have F30 := Lib.hid h30
  have F33 := Lib.hid h33
  have F37 := Lib.hid h37
  have F40 := Lib.hid h40
  have F44 := Lib.hid h44
  have F108 := Lib.hid h108
  have F116 := Lib.hid h116
  obtain ⟨W1, hW1⟩ : ∃ W, W = (w.alloc (.cells #[.int .i64 l0, .int .i64 f0, .int .i64 t0] 23)).alloc (.cells #[.int .i64 k0, .int .i64 k1, .int .i64 k2] 24) := ⟨_, rfl⟩
  have hb1 := ((Below.refl w.heap.size w).alloc (Nat.le_refl _) (.cells #[.int .i64 l0, .int .i64 f0, .int .i64 t0] 23)).alloc (by simp) (.cells #[.int .i64 k0, .int .i64 k1, .int .i64 k2] 24)
  have hx1 := (Blk.new w 23 [.int .i64 l0, .int .i64 f0, .int .i64 t0]).alloc (.cells #[.int .i64 k0, .int .i64 k1, .int .i64 k2] 24)
  have hz1 := Blk.new (w.alloc (.cells #[.int .i64 l0, .int .i64 f0, .int .i64 t0] 23)) 24 [.int .i64 k0, .int .i64 k1, .int .i64 k2]
  rw [World.size_alloc] at hz1
  have HX3 : Hid (Blk W1 w.heap.size 23 [.int .i64 l0, .int .i64 f0, .int .i64 t0]) := Lib.hid (by rw [hW1]; exact hx1)
  have HX5 : Hid (Blk W1 (w.heap.size + 1) 24 [.int .i64 k0, .int .i64 k1, .int .i64 k2]) := Lib.hid (by rw [hW1]; exact hz1)
  rw [← hW1] at hb1
  have HW := Lib.hid hb1
  have HN := Lib.hid (hL.next hb1)
  clear hL h24 h30 h33 h37 h40 h44 h108 h116 hx1 hz1 hb1
  go_enter Tryd.func3, Tryd.ntmps3
  go_wp2_with fail
  try rw [← hW1]
  clear hW1
  go_wp2_with (first | (refine wpList_dst 22 rfl ?_; refine wpList_run 22 rfl rfl _ (exec_indexAddr 24 (.tmp 5) (.const (.int .i64 0)) rfl _ _ _ rfl rfl (ia__3_int_0_0 _ _)) ?_; go_frame) | (refine wpList_dst 23 rfl ?_; refine wpList_run 23 rfl rfl _ (exec_load 3 (.tmp 22) rfl _ (.int .i64 k0) rfl (run_load_cell flat_int (HX5.out.cell 0))) ?_; go_frame))
  refine (F24.out _ HN.out).mono ?_
  rintro e w1 ⟨rfl, hb⟩
  replace HN := Lib.hid (HN.out.next hb)
  replace HW := Lib.hid (HW.out.trans (hb.mono HW.out.size))
  replace HX3 := Lib.hid (HX3.out.next hb)
  replace HX5 := Lib.hid (HX5.out.next hb)
  clear hb
  go_wp2_with (first | (refine wpList_var rfl rfl 23 7 rfl rfl rfl (.tmp 25) rfl [.int .i64 0, .int .i64 0, .int .i64 0] [.int .i64 xa, .int .i64 xb, .int .i64 xc] zero_api_Bin rfl rfl rfl size_api_Bin (List.forall_mem_cons.2 ⟨rfl, (List.forall_mem_cons.2 ⟨rfl, (List.forall_mem_cons.2 ⟨rfl, fun _ h => nomatch h⟩)⟩)⟩) ?_; intro w2 HX7 HBw; replace HN := Lib.hid (HN.out.next HBw.out); replace HW := Lib.hid (HW.out.trans (HBw.out.mono HW.out.size)); replace HX3 := Lib.hid (HX3.out.next HBw.out); replace HX5 := Lib.hid (HX5.out.next HBw.out); clear HBw) | (refine wpList_dst 28 rfl ?_; refine wpList_run 28 rfl rfl _ (exec_indexAddr 24 (.tmp 5) (.const (.int .i64 0)) rfl _ _ _ rfl rfl (ia__3_int_0_0 _ _)) ?_; go_frame) | (refine wpList_dst 29 rfl ?_; refine wpList_run 29 rfl rfl _ (exec_load 3 (.tmp 28) rfl _ (.int .i64 k0) rfl (run_load_cell flat_int (HX5.out.cell 0))) ?_; go_frame))
  refine (F30.out _).mono ?_
  rintro e w3 ⟨rfl, hb⟩
  replace HN := Lib.hid (HN.out.next hb)
  replace HW := Lib.hid (HW.out.trans (hb.mono HW.out.size))
  replace HX3 := Lib.hid (HX3.out.next hb)
  replace HX5 := Lib.hid (HX5.out.next hb)
  replace HX7 := Lib.hid (HX7.out.next hb)
  clear hb
  go_wp2_with (first | (refine wpList_var rfl rfl 29 9 rfl rfl rfl (.tmp 30) rfl [.int .i64 0, .int .i64 0, .int .i64 0, .int .i64 0] [.int .i64 xa, .int .i64 xb, .int .i64 xc, .int .i64 xe] zero_rivermarkref06_Binned rfl rfl rfl size_rivermarkref06_Binned (List.forall_mem_cons.2 ⟨rfl, (List.forall_mem_cons.2 ⟨rfl, (List.forall_mem_cons.2 ⟨rfl, (List.forall_mem_cons.2 ⟨rfl, fun _ h => nomatch h⟩)⟩)⟩)⟩) ?_; intro w4 HX9 HBw; replace HN := Lib.hid (HN.out.next HBw.out); replace HW := Lib.hid (HW.out.trans (HBw.out.mono HW.out.size)); replace HX3 := Lib.hid (HX3.out.next HBw.out); replace HX5 := Lib.hid (HX5.out.next HBw.out); replace HX7 := Lib.hid (HX7.out.next HBw.out); clear HBw) | (refine wpList_dst 32 rfl ?_; refine wpList_run 32 rfl rfl _ (exec_load 23 (.tmp 3) rfl _ (.agg #[.int .i64 l0, .int .i64 f0, .int .i64 t0]) rfl (run_load_part _ 23 _ 0 3 _ [.int .i64 l0, .int .i64 f0, .int .i64 t0] _ HX3.out (by simp) Tryd.underlying23 rfl size_api_Bin)) ?_; go_frame))
  refine (F33.out _ HN.out).mono ?_
  rintro e w5 ⟨rfl, hb⟩
  replace HN := Lib.hid (HN.out.next hb)
  replace HW := Lib.hid (HW.out.trans (hb.mono HW.out.size))
  replace HX3 := Lib.hid (HX3.out.next hb)
  replace HX5 := Lib.hid (HX5.out.next hb)
  replace HX7 := Lib.hid (HX7.out.next hb)
  replace HX9 := Lib.hid (HX9.out.next hb)
  clear hb
  go_wp2_with (first | (refine wpList_var rfl rfl 23 10 rfl rfl rfl (.tmp 34) rfl [.int .i64 0, .int .i64 0, .int .i64 0] [.int .i64 ya, .int .i64 yb, .int .i64 yc] zero_api_Bin rfl rfl rfl size_api_Bin (List.forall_mem_cons.2 ⟨rfl, (List.forall_mem_cons.2 ⟨rfl, (List.forall_mem_cons.2 ⟨rfl, fun _ h => nomatch h⟩)⟩)⟩) ?_; intro w6 HX10 HBw; replace HN := Lib.hid (HN.out.next HBw.out); replace HW := Lib.hid (HW.out.trans (HBw.out.mono HW.out.size)); replace HX3 := Lib.hid (HX3.out.next HBw.out); replace HX5 := Lib.hid (HX5.out.next HBw.out); replace HX7 := Lib.hid (HX7.out.next HBw.out); replace HX9 := Lib.hid (HX9.out.next HBw.out); clear HBw) | (refine wpList_dst 36 rfl ?_; refine wpList_run 36 rfl rfl _ (exec_load 23 (.tmp 3) rfl _ (.agg #[.int .i64 l0, .int .i64 f0, .int .i64 t0]) rfl (run_load_part _ 23 _ 0 3 _ [.int .i64 l0, .int .i64 f0, .int .i64 t0] _ HX3.out (by simp) Tryd.underlying23 rfl size_api_Bin)) ?_; go_frame))
  refine (F37.out _).mono ?_
  rintro e w7 ⟨rfl, hb⟩
  replace HN := Lib.hid (HN.out.next hb)
  replace HW := Lib.hid (HW.out.trans (hb.mono HW.out.size))
  replace HX3 := Lib.hid (HX3.out.next hb)
  replace HX5 := Lib.hid (HX5.out.next hb)
  replace HX7 := Lib.hid (HX7.out.next hb)
  replace HX9 := Lib.hid (HX9.out.next hb)
  replace HX10 := Lib.hid (HX10.out.next hb)
  clear hb
  go_wp2_with (first | (refine wpList_var rfl rfl 29 12 rfl rfl rfl (.tmp 37) rfl [.int .i64 0, .int .i64 0, .int .i64 0, .int .i64 0] [.int .i64 ya, .int .i64 yb, .int .i64 yc, .int .i64 ye] zero_rivermarkref06_Binned rfl rfl rfl size_rivermarkref06_Binned (List.forall_mem_cons.2 ⟨rfl, (List.forall_mem_cons.2 ⟨rfl, (List.forall_mem_cons.2 ⟨rfl, (List.forall_mem_cons.2 ⟨rfl, fun _ h => nomatch h⟩)⟩)⟩)⟩) ?_; intro w8 HX12 HBw; replace HN := Lib.hid (HN.out.next HBw.out); replace HW := Lib.hid (HW.out.trans (HBw.out.mono HW.out.size)); replace HX3 := Lib.hid (HX3.out.next HBw.out); replace HX5 := Lib.hid (HX5.out.next HBw.out); replace HX7 := Lib.hid (HX7.out.next HBw.out); replace HX9 := Lib.hid (HX9.out.next HBw.out); replace HX10 := Lib.hid (HX10.out.next HBw.out); clear HBw) | (refine wpList_dst 39 rfl ?_; refine wpList_run 39 rfl rfl _ (exec_load 23 (.tmp 3) rfl _ (.agg #[.int .i64 l0, .int .i64 f0, .int .i64 t0]) rfl (run_load_part _ 23 _ 0 3 _ [.int .i64 l0, .int .i64 f0, .int .i64 t0] _ HX3.out (by simp) Tryd.underlying23 rfl size_api_Bin)) ?_; go_frame))
  refine (F40.out _ HN.out).mono ?_
  rintro e w9 ⟨⟨A, c, rfl, hr⟩, hb⟩
  replace HN := Lib.hid (HN.out.next hb)
  replace HW := Lib.hid (HW.out.trans (hb.mono HW.out.size))
  replace HX3 := Lib.hid (HX3.out.next hb)
  replace HX5 := Lib.hid (HX5.out.next hb)
  replace HX7 := Lib.hid (HX7.out.next hb)
  replace HX9 := Lib.hid (HX9.out.next hb)
  replace HX10 := Lib.hid (HX10.out.next hb)
  replace HX12 := Lib.hid (HX12.out.next hb)
  have HA := Lib.hid hr
  clear hr
  clear hb
  go_wp2_with (first | (refine wpList_dst 43 rfl ?_; refine wpList_run 43 rfl rfl _ (exec_load 23 (.tmp 3) rfl _ (.agg #[.int .i64 l0, .int .i64 f0, .int .i64 t0]) rfl (run_load_part _ 23 _ 0 3 _ [.int .i64 l0, .int .i64 f0, .int .i64 t0] _ HX3.out (by simp) Tryd.underlying23 rfl size_api_Bin)) ?_; go_frame))
  refine (F44.out _).mono ?_
  rintro e w10 ⟨⟨B, d, rfl, hr⟩, hb⟩
  replace HN := Lib.hid (HN.out.next hb)
  replace HW := Lib.hid (HW.out.trans (hb.mono HW.out.size))
  replace HX3 := Lib.hid (HX3.out.next hb)
  replace HX5 := Lib.hid (HX5.out.next hb)
  replace HX7 := Lib.hid (HX7.out.next hb)
  replace HX9 := Lib.hid (HX9.out.next hb)
  replace HX10 := Lib.hid (HX10.out.next hb)
  replace HX12 := Lib.hid (HX12.out.next hb)
  replace HA := Lib.hid (HA.out.below hb)
  have HB := Lib.hid hr
  clear hr
  clear hb
  go_wp2_with (first | (refine wpList_var rfl rfl 37 15 rfl rfl rfl (.tmp 44) rfl [.slice none 0 0, .int .i64 0] [.slice B l.length d, .int .i64 er] zero_rivermarkref06_Listed rfl rfl rfl size_rivermarkref06_Listed (List.forall_mem_cons.2 ⟨rfl, (List.forall_mem_cons.2 ⟨rfl, fun _ h => nomatch h⟩)⟩) ?_; intro w11 HX15 HBw; replace HN := Lib.hid (HN.out.next HBw.out); replace HW := Lib.hid (HW.out.trans (HBw.out.mono HW.out.size)); replace HX3 := Lib.hid (HX3.out.next HBw.out); replace HX5 := Lib.hid (HX5.out.next HBw.out); replace HX7 := Lib.hid (HX7.out.next HBw.out); replace HX9 := Lib.hid (HX9.out.next HBw.out); replace HX10 := Lib.hid (HX10.out.next HBw.out); replace HX12 := Lib.hid (HX12.out.next HBw.out); replace HA := Lib.hid (HA.out.below HBw.out); replace HB := Lib.hid (HB.out.below HBw.out); clear HBw))
  obtain ⟨g7, hg7⟩ : ∃ g, g = w1.heap.size := ⟨_, rfl⟩
  rw [← hg7] at HX7 ⊢
  clear hg7
  obtain ⟨g9, hg9⟩ : ∃ g, g = w3.heap.size := ⟨_, rfl⟩
  rw [← hg9] at HX9 ⊢
  clear hg9
  obtain ⟨g10, hg10⟩ : ∃ g, g = w5.heap.size := ⟨_, rfl⟩
  rw [← hg10] at HX10 ⊢
  clear hg10
  obtain ⟨g12, hg12⟩ : ∃ g, g = w7.heap.size := ⟨_, rfl⟩
  rw [← hg12] at HX12 ⊢
  clear hg12
  obtain ⟨g15, hg15⟩ : ∃ g, g = w10.heap.size := ⟨_, rfl⟩
  rw [← hg15] at HX15 ⊢
  clear hg15
  refine late_begin (S := fun _ W => Blk W w.heap.size 23 [.int .i64 l0, .int .i64 f0, .int .i64 t0] ∧ Blk W (w.heap.size + 1) 24 [.int .i64 k0, .int .i64 k1, .int .i64 k2] ∧ Blk W g7 23 [.int .i64 xa, .int .i64 xb, .int .i64 xc] ∧ Blk W g9 29 [.int .i64 xa, .int .i64 xb, .int .i64 xc, .int .i64 xe] ∧ Blk W g10 23 [.int .i64 ya, .int .i64 yb, .int .i64 yc] ∧ Blk W g12 29 [.int .i64 ya, .int .i64 yb, .int .i64 yc, .int .i64 ye] ∧ Blk W g15 37 [.slice B l.length d, .int .i64 er]) (by kernel_rfl) ?_
  have hN0 := (show Lens w11.drew from HN.out)
  have hW0 := HW.out.drew
  have hX30 := HX3.out.drew
  have hX50 := HX5.out.drew
  have hX70 := HX7.out.drew
  have hX90 := HX9.out.drew
  have hX100 := HX10.out.drew
  have hX120 := HX12.out.drew
  have hA0 := HA.out.below (Below.refl _ _).drew
  have hB0 := HB.out.below (Below.refl _ _).drew
  have hX150 := HX15.out.drew
  generalize w11.drew = u0 at hN0 hW0 hX30 hX50 hX70 hX90 hX100 hX120 hA0 hB0 hX150 ⊢
  clear HN HW HX3 HX5 HX7 HX9 HX10 HX12 HA HB HX15
  refine late_take [] (i := 0) (some 45) rfl rfl (by first | rfl | kernel_rfl) (by kernel_rfl) (by kernel_rfl) (by kernel_rfl) (by kernel_rfl) (by kernel_rfl) (fun Ls W h => h) (.agg #[.int .i64 l0, .int .i64 f0, .int .i64 t0]) (fun _ _ _ h => h) (fun Ls W hl0 hW => exec_load 23 (.tmp 3) rfl _ _ rfl (run_load_part W 23 _ 0 3 _ [.int .i64 l0, .int .i64 f0, .int .i64 t0] _ hW.1 (by simp) Tryd.underlying23 rfl size_api_Bin)) ⟨hX30, hX50, hX70, hX90, hX100, hX120, hX150⟩ ⟨hX30, hX50, hX70, hX90, hX100, hX120, hX150⟩ ?_
  go_frame
  refine late_take [] (i := 2) (some 47) rfl rfl (by first | rfl | kernel_rfl) (by kernel_rfl) (by kernel_rfl) (by kernel_rfl) (by kernel_rfl) (by kernel_rfl) (fun Ls W h => h) (.agg #[.int .i64 l0, .int .i64 f0, .int .i64 t0]) (fun _ _ _ h => h) (fun Ls W hl0 hW => exec_load 23 (.tmp 3) rfl _ _ rfl (run_load_part W 23 _ 0 3 _ [.int .i64 l0, .int .i64 f0, .int .i64 t0] _ hW.1 (by simp) Tryd.underlying23 rfl size_api_Bin)) ⟨hX30, hX50, hX70, hX90, hX100, hX120, hX150⟩ ⟨hX30, hX50, hX70, hX90, hX100, hX120, hX150⟩ ?_
  go_frame
  refine late_one (i := 1) (by kernel_rfl) (op_callG (some 46) rfl rfl (by first | rfl | kernel_rfl) rfl Tryd.func11 (by kernel_rfl) (by kernel_rfl) #[.agg #[.int .i64 l0, .int .i64 f0, .int .i64 t0]] rfl (valid_any l0 f0 t0 _ hN0) ?_)
  rintro e u1 ⟨rfl, hb⟩
  have hN1 := hN0.next hb
  have hW1 := hW0.trans (hb.mono hW0.size)
  have hX31 := hX30.next hb
  have hX51 := hX50.next hb
  have hX71 := hX70.next hb
  have hX91 := hX90.next hb
  have hX101 := hX100.next hb
  have hX121 := hX120.next hb
  have hA1 := hA0.below hb
  have hB1 := hB0.below hb
  have hX151 := hX150.next hb
  refine ⟨_, rfl, ⟨hX31, hX51, hX71, hX91, hX101, hX121, hX151⟩, ?_⟩
  go_frame
  clear hN0 hW0 hX30 hX50 hX70 hX90 hX100 hX120 hA0 hB0 hX150 hb
  refine late_one (i := 3) (by kernel_rfl) (op_callG (some 48) rfl rfl (by first | rfl | kernel_rfl) rfl Tryd.func12 (by kernel_rfl) (by kernel_rfl) #[.agg #[.int .i64 l0, .int .i64 f0, .int .i64 t0]] rfl (rvalid_any l0 f0 t0 _) ?_)
  rintro e u2 ⟨rfl, hb⟩
  have hN2 := hN1.next hb
  have hW2 := hW1.trans (hb.mono hW1.size)
  have hX32 := hX31.next hb
  have hX52 := hX51.next hb
  have hX72 := hX71.next hb
  have hX92 := hX91.next hb
  have hX102 := hX101.next hb
  have hX122 := hX121.next hb
  have hA2 := hA1.below hb
  have hB2 := hB1.below hb
  have hX152 := hX151.next hb
  refine ⟨_, rfl, ⟨hX32, hX52, hX72, hX92, hX102, hX122, hX152⟩, ?_⟩
  go_frame
  clear hN1 hW1 hX31 hX51 hX71 hX91 hX101 hX121 hA1 hB1 hX151 hb
  refine late_take [] (i := 4) (some 49) rfl rfl (by first | rfl | kernel_rfl) (by kernel_rfl) (by kernel_rfl) (by kernel_rfl) (by kernel_rfl) (by kernel_rfl) (fun Ls W h => h) (.bool false) (fun _ _ _ h => h) (fun Ls W hl0 hW => exec_bin .neq 4 _ (.tmp 46) (.tmp 48) rfl (.bool (okB l0 f0 t0)) (.bool (okB l0 f0 t0)) _ rfl rfl (bool_guard_neq _ _ _ _) (run_bsame_neq _ _)) ⟨hX32, hX52, hX72, hX92, hX102, hX122, hX152⟩ ⟨hX32, hX52, hX72, hX92, hX102, hX122, hX152⟩ ?_
  go_frame
  refine late_take [] (i := 5) (some 50) rfl rfl (by first | rfl | kernel_rfl) (by kernel_rfl) (by kernel_rfl) (by kernel_rfl) (by kernel_rfl) (by kernel_rfl) (fun Ls W h => h) (.bool false) (fun _ _ _ h => h) (fun Ls W hl0 hW => exec_move (.tmp 49) rfl _ rfl) ⟨hX32, hX52, hX72, hX92, hX102, hX122, hX152⟩ ⟨hX32, hX52, hX72, hX92, hX102, hX122, hX152⟩ ?_
  go_frame
  refine late_take [] (i := 6) (some 51) rfl rfl (by first | rfl | kernel_rfl) (by kernel_rfl) (by kernel_rfl) (by kernel_rfl) (by kernel_rfl) (by kernel_rfl) (fun Ls W h => h) (.agg #[.int .i64 xa, .int .i64 xb, .int .i64 xc]) (fun _ _ _ h => h) (fun Ls W hl0 hW => exec_load 23 (.tmp 7) rfl _ _ rfl (run_load_part W 23 _ 0 3 _ [.int .i64 xa, .int .i64 xb, .int .i64 xc] _ hW.2.2.1 (by simp) Tryd.underlying23 rfl size_api_Bin)) ⟨hX32, hX52, hX72, hX92, hX102, hX122, hX152⟩ ⟨hX32, hX52, hX72, hX92, hX102, hX122, hX152⟩ ?_
  go_frame
  refine late_take [] (i := 7) (some 52) rfl rfl (by first | rfl | kernel_rfl) (by kernel_rfl) (by kernel_rfl) (by kernel_rfl) (by kernel_rfl) (by kernel_rfl) (fun Ls W h => h) (.pointer (some ⟨g9, 0, none⟩)) (fun _ _ _ h => h) (fun Ls W hl0 hW => exec_fieldAddr 29 (.tmp 9) 0 rfl _ _ rfl (fa_rivermarkref06_Binned_0_0 _ _)) ⟨hX32, hX52, hX72, hX92, hX102, hX122, hX152⟩ ⟨hX32, hX52, hX72, hX92, hX102, hX122, hX152⟩ ?_
  go_frame
  refine late_take [] (i := 8) (some 53) rfl rfl (by first | rfl | kernel_rfl) (by kernel_rfl) (by kernel_rfl) (by kernel_rfl) (by kernel_rfl) (by kernel_rfl) (fun Ls W h => h) (.agg #[.int .i64 xa, .int .i64 xb, .int .i64 xc]) (fun _ _ _ h => h) (fun Ls W hl0 hW => exec_load 23 (.tmp 52) rfl _ _ rfl (run_load_part W 23 _ 0 3 _ [.int .i64 xa, .int .i64 xb, .int .i64 xc, .int .i64 xe] _ hW.2.2.2.1 (by simp) Tryd.underlying23 rfl size_api_Bin)) ⟨hX32, hX52, hX72, hX92, hX102, hX122, hX152⟩ ⟨hX32, hX52, hX72, hX92, hX102, hX122, hX152⟩ ?_
  go_frame
  refine late_take [] (i := 9) (some 54) rfl rfl (by first | rfl | kernel_rfl) (by kernel_rfl) (by kernel_rfl) (by kernel_rfl) (by kernel_rfl) (by kernel_rfl) (fun Ls W h => h) (.bool false) (fun _ _ _ h => h) (fun Ls W hl0 hW => exec_bin .neq 23 _ (.tmp 51) (.tmp 53) rfl _ _ _ rfl rfl (bn_guard _ _ _ _ _ _) (bn_neqS xa xb xc _)) ⟨hX32, hX52, hX72, hX92, hX102, hX122, hX152⟩ ⟨hX32, hX52, hX72, hX92, hX102, hX122, hX152⟩ ?_
  go_frame
  refine late_take [] (i := 10) (some 55) rfl rfl (by first | rfl | kernel_rfl) (by kernel_rfl) (by kernel_rfl) (by kernel_rfl) (by kernel_rfl) (by kernel_rfl) (fun Ls W h => h) (.bool false) (fun _ _ _ h => h) (fun Ls W hl0 hW => exec_pickF _ _ _ rfl (.bool false) rfl rfl) ⟨hX32, hX52, hX72, hX92, hX102, hX122, hX152⟩ ⟨hX32, hX52, hX72, hX92, hX102, hX122, hX152⟩ ?_
  go_frame
  refine late_take [] (i := 11) (some 56) rfl rfl (by first | rfl | kernel_rfl) (by kernel_rfl) (by kernel_rfl) (by kernel_rfl) (by kernel_rfl) (by kernel_rfl) (fun Ls W h => h) (.bool false) (fun _ _ _ h => h) (fun Ls W hl0 hW => exec_move (.tmp 55) rfl _ rfl) ⟨hX32, hX52, hX72, hX92, hX102, hX122, hX152⟩ ⟨hX32, hX52, hX72, hX92, hX102, hX122, hX152⟩ ?_
  go_frame
  refine late_take [] (i := 12) (some 57) rfl rfl (by first | rfl | kernel_rfl) (by kernel_rfl) (by kernel_rfl) (by kernel_rfl) (by kernel_rfl) (by kernel_rfl) (fun Ls W h => h) (.int .i64 xe) (fun _ _ _ h => h) (fun Ls W hl0 hW => exec_move (.tmp 8) rfl _ rfl) ⟨hX32, hX52, hX72, hX92, hX102, hX122, hX152⟩ ⟨hX32, hX52, hX72, hX92, hX102, hX122, hX152⟩ ?_
  go_frame
  refine late_take [] (i := 13) (some 58) rfl rfl (by first | rfl | kernel_rfl) (by kernel_rfl) (by kernel_rfl) (by kernel_rfl) (by kernel_rfl) (by kernel_rfl) (fun Ls W h => h) (.pointer (some ⟨g9, 3, none⟩)) (fun _ _ _ h => h) (fun Ls W hl0 hW => exec_fieldAddr 29 (.tmp 9) 1 rfl _ _ rfl (fa_rivermarkref06_Binned_1_0 _ _)) ⟨hX32, hX52, hX72, hX92, hX102, hX122, hX152⟩ ⟨hX32, hX52, hX72, hX92, hX102, hX122, hX152⟩ ?_
  go_frame
  refine late_take [] (i := 14) (some 59) rfl rfl (by first | rfl | kernel_rfl) (by kernel_rfl) (by kernel_rfl) (by kernel_rfl) (by kernel_rfl) (by kernel_rfl) (fun Ls W h => h) (.int .i64 xe) (fun _ _ _ h => h) (fun Ls W hl0 hW => exec_load 25 (.tmp 58) rfl _ _ rfl (run_load_cell flat_api_Errno (hW.2.2.2.1.cell 3))) ⟨hX32, hX52, hX72, hX92, hX102, hX122, hX152⟩ ⟨hX32, hX52, hX72, hX92, hX102, hX122, hX152⟩ ?_
  go_frame
  refine late_take [] (i := 15) (some 60) rfl rfl (by first | rfl | kernel_rfl) (by kernel_rfl) (by kernel_rfl) (by kernel_rfl) (by kernel_rfl) (by kernel_rfl) (fun Ls W h => h) (.bool false) (fun _ _ _ h => h) (fun Ls W hl0 hW => exec_neqT _ (.tmp 57) (.tmp 59) _ rfl .i64 (xe) rfl rfl) ⟨hX32, hX52, hX72, hX92, hX102, hX122, hX152⟩ ⟨hX32, hX52, hX72, hX92, hX102, hX122, hX152⟩ ?_
  go_frame
  refine late_take [] (i := 16) (some 61) rfl rfl (by first | rfl | kernel_rfl) (by kernel_rfl) (by kernel_rfl) (by kernel_rfl) (by kernel_rfl) (by kernel_rfl) (fun Ls W h => h) (.bool false) (fun _ _ _ h => h) (fun Ls W hl0 hW => exec_pickF _ _ _ rfl (.bool false) rfl rfl) ⟨hX32, hX52, hX72, hX92, hX102, hX122, hX152⟩ ⟨hX32, hX52, hX72, hX92, hX102, hX122, hX152⟩ ?_
  go_frame
  refine late_take [] (i := 17) (some 62) rfl rfl (by first | rfl | kernel_rfl) (by kernel_rfl) (by kernel_rfl) (by kernel_rfl) (by kernel_rfl) (by kernel_rfl) (fun Ls W h => h) (.bool false) (fun _ _ _ h => h) (fun Ls W hl0 hW => exec_move (.tmp 61) rfl _ rfl) ⟨hX32, hX52, hX72, hX92, hX102, hX122, hX152⟩ ⟨hX32, hX52, hX72, hX92, hX102, hX122, hX152⟩ ?_
  go_frame
  refine late_take [] (i := 18) (some 63) rfl rfl (by first | rfl | kernel_rfl) (by kernel_rfl) (by kernel_rfl) (by kernel_rfl) (by kernel_rfl) (by kernel_rfl) (fun Ls W h => h) (.agg #[.int .i64 ya, .int .i64 yb, .int .i64 yc]) (fun _ _ _ h => h) (fun Ls W hl0 hW => exec_load 23 (.tmp 10) rfl _ _ rfl (run_load_part W 23 _ 0 3 _ [.int .i64 ya, .int .i64 yb, .int .i64 yc] _ hW.2.2.2.2.1 (by simp) Tryd.underlying23 rfl size_api_Bin)) ⟨hX32, hX52, hX72, hX92, hX102, hX122, hX152⟩ ⟨hX32, hX52, hX72, hX92, hX102, hX122, hX152⟩ ?_
  go_frame
  refine late_take [] (i := 19) (some 64) rfl rfl (by first | rfl | kernel_rfl) (by kernel_rfl) (by kernel_rfl) (by kernel_rfl) (by kernel_rfl) (by kernel_rfl) (fun Ls W h => h) (.pointer (some ⟨g12, 0, none⟩)) (fun _ _ _ h => h) (fun Ls W hl0 hW => exec_fieldAddr 29 (.tmp 12) 0 rfl _ _ rfl (fa_rivermarkref06_Binned_0_0 _ _)) ⟨hX32, hX52, hX72, hX92, hX102, hX122, hX152⟩ ⟨hX32, hX52, hX72, hX92, hX102, hX122, hX152⟩ ?_
  go_frame
  refine late_take [] (i := 20) (some 65) rfl rfl (by first | rfl | kernel_rfl) (by kernel_rfl) (by kernel_rfl) (by kernel_rfl) (by kernel_rfl) (by kernel_rfl) (fun Ls W h => h) (.agg #[.int .i64 ya, .int .i64 yb, .int .i64 yc]) (fun _ _ _ h => h) (fun Ls W hl0 hW => exec_load 23 (.tmp 64) rfl _ _ rfl (run_load_part W 23 _ 0 3 _ [.int .i64 ya, .int .i64 yb, .int .i64 yc, .int .i64 ye] _ hW.2.2.2.2.2.1 (by simp) Tryd.underlying23 rfl size_api_Bin)) ⟨hX32, hX52, hX72, hX92, hX102, hX122, hX152⟩ ⟨hX32, hX52, hX72, hX92, hX102, hX122, hX152⟩ ?_
  go_frame
  refine late_take [] (i := 21) (some 66) rfl rfl (by first | rfl | kernel_rfl) (by kernel_rfl) (by kernel_rfl) (by kernel_rfl) (by kernel_rfl) (by kernel_rfl) (fun Ls W h => h) (.bool false) (fun _ _ _ h => h) (fun Ls W hl0 hW => exec_bin .neq 23 _ (.tmp 63) (.tmp 65) rfl _ _ _ rfl rfl (bn_guard _ _ _ _ _ _) (bn_neqS ya yb yc _)) ⟨hX32, hX52, hX72, hX92, hX102, hX122, hX152⟩ ⟨hX32, hX52, hX72, hX92, hX102, hX122, hX152⟩ ?_
  go_frame
  refine late_take [] (i := 22) (some 67) rfl rfl (by first | rfl | kernel_rfl) (by kernel_rfl) (by kernel_rfl) (by kernel_rfl) (by kernel_rfl) (by kernel_rfl) (fun Ls W h => h) (.bool false) (fun _ _ _ h => h) (fun Ls W hl0 hW => exec_pickF _ _ _ rfl (.bool false) rfl rfl) ⟨hX32, hX52, hX72, hX92, hX102, hX122, hX152⟩ ⟨hX32, hX52, hX72, hX92, hX102, hX122, hX152⟩ ?_
  go_frame
  refine late_take [] (i := 23) (some 68) rfl rfl (by first | rfl | kernel_rfl) (by kernel_rfl) (by kernel_rfl) (by kernel_rfl) (by kernel_rfl) (by kernel_rfl) (fun Ls W h => h) (.bool false) (fun _ _ _ h => h) (fun Ls W hl0 hW => exec_move (.tmp 67) rfl _ rfl) ⟨hX32, hX52, hX72, hX92, hX102, hX122, hX152⟩ ⟨hX32, hX52, hX72, hX92, hX102, hX122, hX152⟩ ?_
  go_frame
  refine late_take [] (i := 24) (some 69) rfl rfl (by first | rfl | kernel_rfl) (by kernel_rfl) (by kernel_rfl) (by kernel_rfl) (by kernel_rfl) (by kernel_rfl) (fun Ls W h => h) (.int .i64 ye) (fun _ _ _ h => h) (fun Ls W hl0 hW => exec_move (.tmp 11) rfl _ rfl) ⟨hX32, hX52, hX72, hX92, hX102, hX122, hX152⟩ ⟨hX32, hX52, hX72, hX92, hX102, hX122, hX152⟩ ?_
  go_frame
  refine late_take [] (i := 25) (some 70) rfl rfl (by first | rfl | kernel_rfl) (by kernel_rfl) (by kernel_rfl) (by kernel_rfl) (by kernel_rfl) (by kernel_rfl) (fun Ls W h => h) (.pointer (some ⟨g12, 3, none⟩)) (fun _ _ _ h => h) (fun Ls W hl0 hW => exec_fieldAddr 29 (.tmp 12) 1 rfl _ _ rfl (fa_rivermarkref06_Binned_1_0 _ _)) ⟨hX32, hX52, hX72, hX92, hX102, hX122, hX152⟩ ⟨hX32, hX52, hX72, hX92, hX102, hX122, hX152⟩ ?_
  go_frame
  refine late_take [] (i := 26) (some 71) rfl rfl (by first | rfl | kernel_rfl) (by kernel_rfl) (by kernel_rfl) (by kernel_rfl) (by kernel_rfl) (by kernel_rfl) (fun Ls W h => h) (.int .i64 ye) (fun _ _ _ h => h) (fun Ls W hl0 hW => exec_load 25 (.tmp 70) rfl _ _ rfl (run_load_cell flat_api_Errno (hW.2.2.2.2.2.1.cell 3))) ⟨hX32, hX52, hX72, hX92, hX102, hX122, hX152⟩ ⟨hX32, hX52, hX72, hX92, hX102, hX122, hX152⟩ ?_
  go_frame
  refine late_take [] (i := 27) (some 72) rfl rfl (by first | rfl | kernel_rfl) (by kernel_rfl) (by kernel_rfl) (by kernel_rfl) (by kernel_rfl) (by kernel_rfl) (fun Ls W h => h) (.bool false) (fun _ _ _ h => h) (fun Ls W hl0 hW => exec_neqT _ (.tmp 69) (.tmp 71) _ rfl .i64 (ye) rfl rfl) ⟨hX32, hX52, hX72, hX92, hX102, hX122, hX152⟩ ⟨hX32, hX52, hX72, hX92, hX102, hX122, hX152⟩ ?_
  go_frame
  refine late_take [] (i := 28) (some 73) rfl rfl (by first | rfl | kernel_rfl) (by kernel_rfl) (by kernel_rfl) (by kernel_rfl) (by kernel_rfl) (by kernel_rfl) (fun Ls W h => h) (.bool false) (fun _ _ _ h => h) (fun Ls W hl0 hW => exec_pickF _ _ _ rfl (.bool false) rfl rfl) ⟨hX32, hX52, hX72, hX92, hX102, hX122, hX152⟩ ⟨hX32, hX52, hX72, hX92, hX102, hX122, hX152⟩ ?_
  go_frame
  refine late_take [] (i := 29) (some 74) rfl rfl (by first | rfl | kernel_rfl) (by kernel_rfl) (by kernel_rfl) (by kernel_rfl) (by kernel_rfl) (by kernel_rfl) (fun Ls W h => h) (.bool false) (fun _ _ _ h => h) (fun Ls W hl0 hW => exec_move (.tmp 73) rfl _ rfl) ⟨hX32, hX52, hX72, hX92, hX102, hX122, hX152⟩ ⟨hX32, hX52, hX72, hX92, hX102, hX122, hX152⟩ ?_
  go_frame
  refine late_take [] (i := 30) (some 75) rfl rfl (by first | rfl | kernel_rfl) (by kernel_rfl) (by kernel_rfl) (by kernel_rfl) (by kernel_rfl) (by kernel_rfl) (fun Ls W h => h) (.slice A l.length c) (fun _ _ _ h => h) (fun Ls W hl0 hW => exec_move (.tmp 13) rfl _ rfl) ⟨hX32, hX52, hX72, hX92, hX102, hX122, hX152⟩ ⟨hX32, hX52, hX72, hX92, hX102, hX122, hX152⟩ ?_
  go_frame
  refine late_take [] (i := 31) (some 76) rfl rfl (by first | rfl | kernel_rfl) (by kernel_rfl) (by kernel_rfl) (by kernel_rfl) (by kernel_rfl) (by kernel_rfl) (fun Ls W h => h) (.pointer (some ⟨g15, 0, none⟩)) (fun _ _ _ h => h) (fun Ls W hl0 hW => exec_fieldAddr 37 (.tmp 15) 0 rfl _ _ rfl (fa_rivermarkref06_Listed_0_0 _ _)) ⟨hX32, hX52, hX72, hX92, hX102, hX122, hX152⟩ ⟨hX32, hX52, hX72, hX92, hX102, hX122, hX152⟩ ?_
  go_frame
  refine late_take [] (i := 32) (some 77) rfl rfl (by first | rfl | kernel_rfl) (by kernel_rfl) (by kernel_rfl) (by kernel_rfl) (by kernel_rfl) (by kernel_rfl) (fun Ls W h => h) (.slice B l.length d) (fun _ _ _ h => h) (fun Ls W hl0 hW => exec_load 33 (.tmp 76) rfl _ _ rfl (run_load_cell flat___api_Bin (hW.2.2.2.2.2.2.cell 0))) ⟨hX32, hX52, hX72, hX92, hX102, hX122, hX152⟩ ⟨hX32, hX52, hX72, hX92, hX102, hX122, hX152⟩ ?_
  go_frame
  refine late_one (i := 33) (by kernel_rfl) (op_callG (some 78) rfl rfl (by first | rfl | kernel_rfl) rfl Tryd.func13 (by kernel_rfl) (by kernel_rfl) #[.slice A l.length c, .slice B l.length d] rfl (same_lit2 l A B c d _ hA2 hB2 hlen) ?_)
  rintro e u3 ⟨rfl, hb⟩
  have hN3 := hN2.next hb
  have hW3 := hW2.trans (hb.mono hW2.size)
  have hX33 := hX32.next hb
  have hX53 := hX52.next hb
  have hX73 := hX72.next hb
  have hX93 := hX92.next hb
  have hX103 := hX102.next hb
  have hX123 := hX122.next hb
  have hA3 := hA2.below hb
  have hB3 := hB2.below hb
  have hX153 := hX152.next hb
  refine ⟨_, rfl, ⟨hX33, hX53, hX73, hX93, hX103, hX123, hX153⟩, ?_⟩
  go_frame
  clear hN2 hW2 hX32 hX52 hX72 hX92 hX102 hX122 hA2 hB2 hX152 hb
  refine late_take [] (i := 34) (some 79) rfl rfl (by first | rfl | kernel_rfl) (by kernel_rfl) (by kernel_rfl) (by kernel_rfl) (by kernel_rfl) (by kernel_rfl) (fun Ls W h => h) (.bool false) (fun _ _ _ h => h) (fun Ls W hl0 hW => exec_not _ _ rfl true rfl) ⟨hX33, hX53, hX73, hX93, hX103, hX123, hX153⟩ ⟨hX33, hX53, hX73, hX93, hX103, hX123, hX153⟩ ?_
  go_frame
  refine late_take [] (i := 35) (some 80) rfl rfl (by first | rfl | kernel_rfl) (by kernel_rfl) (by kernel_rfl) (by kernel_rfl) (by kernel_rfl) (by kernel_rfl) (fun Ls W h => h) (.bool false) (fun _ _ _ h => h) (fun Ls W hl0 hW => exec_pickF _ _ _ rfl (.bool false) rfl rfl) ⟨hX33, hX53, hX73, hX93, hX103, hX123, hX153⟩ ⟨hX33, hX53, hX73, hX93, hX103, hX123, hX153⟩ ?_
  go_frame
  refine late_take [] (i := 36) (some 81) rfl rfl (by first | rfl | kernel_rfl) (by kernel_rfl) (by kernel_rfl) (by kernel_rfl) (by kernel_rfl) (by kernel_rfl) (fun Ls W h => h) (.bool false) (fun _ _ _ h => h) (fun Ls W hl0 hW => exec_move (.tmp 80) rfl _ rfl) ⟨hX33, hX53, hX73, hX93, hX103, hX123, hX153⟩ ⟨hX33, hX53, hX73, hX93, hX103, hX123, hX153⟩ ?_
  go_frame
  refine late_take [] (i := 37) (some 82) rfl rfl (by first | rfl | kernel_rfl) (by kernel_rfl) (by kernel_rfl) (by kernel_rfl) (by kernel_rfl) (by kernel_rfl) (fun Ls W h => h) (.int .i64 er) (fun _ _ _ h => h) (fun Ls W hl0 hW => exec_move (.tmp 14) rfl _ rfl) ⟨hX33, hX53, hX73, hX93, hX103, hX123, hX153⟩ ⟨hX33, hX53, hX73, hX93, hX103, hX123, hX153⟩ ?_
  go_frame
  refine late_take [] (i := 38) (some 83) rfl rfl (by first | rfl | kernel_rfl) (by kernel_rfl) (by kernel_rfl) (by kernel_rfl) (by kernel_rfl) (by kernel_rfl) (fun Ls W h => h) (.pointer (some ⟨g15, 1, none⟩)) (fun _ _ _ h => h) (fun Ls W hl0 hW => exec_fieldAddr 37 (.tmp 15) 1 rfl _ _ rfl (fa_rivermarkref06_Listed_1_0 _ _)) ⟨hX33, hX53, hX73, hX93, hX103, hX123, hX153⟩ ⟨hX33, hX53, hX73, hX93, hX103, hX123, hX153⟩ ?_
  go_frame
  refine late_take [] (i := 39) (some 84) rfl rfl (by first | rfl | kernel_rfl) (by kernel_rfl) (by kernel_rfl) (by kernel_rfl) (by kernel_rfl) (by kernel_rfl) (fun Ls W h => h) (.int .i64 er) (fun _ _ _ h => h) (fun Ls W hl0 hW => exec_load 25 (.tmp 83) rfl _ _ rfl (run_load_cell flat_api_Errno (hW.2.2.2.2.2.2.cell 1))) ⟨hX33, hX53, hX73, hX93, hX103, hX123, hX153⟩ ⟨hX33, hX53, hX73, hX93, hX103, hX123, hX153⟩ ?_
  go_frame
  refine late_take [] (i := 40) (some 85) rfl rfl (by first | rfl | kernel_rfl) (by kernel_rfl) (by kernel_rfl) (by kernel_rfl) (by kernel_rfl) (by kernel_rfl) (fun Ls W h => h) (.bool false) (fun _ _ _ h => h) (fun Ls W hl0 hW => exec_neqT _ (.tmp 82) (.tmp 84) _ rfl .i64 (er) rfl rfl) ⟨hX33, hX53, hX73, hX93, hX103, hX123, hX153⟩ ⟨hX33, hX53, hX73, hX93, hX103, hX123, hX153⟩ ?_
  go_frame
  refine late_take [] (i := 41) (some 86) rfl rfl (by first | rfl | kernel_rfl) (by kernel_rfl) (by kernel_rfl) (by kernel_rfl) (by kernel_rfl) (by kernel_rfl) (fun Ls W h => h) (.bool false) (fun _ _ _ h => h) (fun Ls W hl0 hW => exec_pickF _ _ _ rfl (.bool false) rfl rfl) ⟨hX33, hX53, hX73, hX93, hX103, hX123, hX153⟩ ⟨hX33, hX53, hX73, hX93, hX103, hX123, hX153⟩ ?_
  refine late_done (by kernel_rfl) ?_ _
  go_frame
  have HN := Lib.hid hN3
  have HW := Lib.hid hW3
  have HX3 := Lib.hid hX33
  have HX5 := Lib.hid hX53
  have HX7 := Lib.hid hX73
  have HX9 := Lib.hid hX93
  have HX10 := Lib.hid hX103
  have HX12 := Lib.hid hX123
  have HA := Lib.hid hA3
  have HB := Lib.hid hB3
  have HX15 := Lib.hid hX153
  clear hN3 hW3 hX33 hX53 hX73 hX93 hX103 hX123 hA3 hB3 hX153
  go_wp2_with (first | (refine wpList_dst 87 rfl ?_; refine wpList_run 87 rfl rfl _ (exec_indexAddr 24 (.tmp 5) (.const (.int .i64 1)) rfl _ _ _ rfl rfl (ia__3_int_1_0 _ _)) ?_; go_frame) | (refine wpList_dst 88 rfl ?_; refine wpList_run 88 rfl rfl _ (exec_load 3 (.tmp 87) rfl _ (.int .i64 k1) rfl (run_load_cell flat_int (HX5.out.cell 1))) ?_; go_frame) | (refine wpList_dst 89 rfl ?_; refine wpList_run 89 rfl rfl _ (exec_indexAddr 24 (.tmp 5) (.const (.int .i64 2)) rfl _ _ _ rfl rfl (ia__3_int_2_0 _ _)) ?_; go_frame) | (refine wpList_dst 90 rfl ?_; refine wpList_run 90 rfl rfl _ (exec_load 3 (.tmp 89) rfl _ (.int .i64 k2) rfl (run_load_cell flat_int (HX5.out.cell 2))) ?_; go_frame))
  refine (FI.out _).mono ?_
  rintro e w12 ⟨rfl, h0⟩
  subst h0
  by_cases hi : intB k1 k2 = true
  · have hi2 : 0 ≤ k1 ∧ k1 ≤ k2 ∧ k2 ≤ 1402560 := of_decide_eq_true hi
    obtain ⟨i1, i2, i3⟩ := hi2
    rw [hi]
    clear hi
    by_cases h5 : 5000 < k2 - k1
    · have cD : decide (5000 < k2 - k1) = true := decide_eq_true h5
      go_wp2_with (first | (refine wpList_dst 94 rfl ?_; refine wpList_runG 94 rfl rfl _ (exec_indexAddr 24 (.tmp 5) (.const (.int .i64 2)) rfl _ _ _ rfl rfl (ia__3_int_2_0 _ _)) ?_; go_frame) | (refine wpList_dst 95 rfl ?_; refine wpList_runG 95 rfl rfl _ (exec_load 3 (.tmp 94) rfl _ (.int .i64 k2) rfl (run_load_cell flat_int (HX5.out.cell 2))) ?_; go_frame) | (refine wpList_dst 96 rfl ?_; refine wpList_runG 96 rfl rfl _ (exec_indexAddr 24 (.tmp 5) (.const (.int .i64 1)) rfl _ _ _ rfl rfl (ia__3_int_1_0 _ _)) ?_; go_frame) | (refine wpList_dst 97 rfl ?_; refine wpList_runG 97 rfl rfl _ (exec_load 3 (.tmp 96) rfl _ (.int .i64 k1) rfl (run_load_cell flat_int (HX5.out.cell 1))) ?_; go_frame))
      refine (FS.out _ HN.out).mono ?_
      rintro e w13 ⟨rfl, hb⟩
      replace HN := Lib.hid (HN.out.next hb)
      replace HW := Lib.hid (HW.out.trans (hb.mono HW.out.size))
      replace HX3 := Lib.hid (HX3.out.next hb)
      replace HX5 := Lib.hid (HX5.out.next hb)
      replace HX7 := Lib.hid (HX7.out.next hb)
      replace HX9 := Lib.hid (HX9.out.next hb)
      replace HX10 := Lib.hid (HX10.out.next hb)
      replace HX12 := Lib.hid (HX12.out.next hb)
      replace HA := Lib.hid (HA.out.below hb)
      replace HB := Lib.hid (HB.out.below hb)
      replace HX15 := Lib.hid (HX15.out.next hb)
      clear hb
      go_wp2_with (first | (refine wpList_dst 22 rfl ?_; refine wpList_run 22 rfl rfl _ (exec_indexAddr 24 (.tmp 5) (.const (.int .i64 0)) rfl _ _ _ rfl rfl (ia__3_int_0_0 _ _)) ?_; go_frame) | (refine wpList_dst 23 rfl ?_; refine wpList_run 23 rfl rfl _ (exec_load 3 (.tmp 22) rfl _ (.int .i64 k0) rfl (run_load_cell flat_int (HX5.out.cell 0))) ?_; go_frame) | (refine wpList_dst 28 rfl ?_; refine wpList_run 28 rfl rfl _ (exec_indexAddr 24 (.tmp 5) (.const (.int .i64 0)) rfl _ _ _ rfl rfl (ia__3_int_0_0 _ _)) ?_; go_frame) | (refine wpList_dst 29 rfl ?_; refine wpList_run 29 rfl rfl _ (exec_load 3 (.tmp 28) rfl _ (.int .i64 k0) rfl (run_load_cell flat_int (HX5.out.cell 0))) ?_; go_frame) | (refine wpList_dst 32 rfl ?_; refine wpList_run 32 rfl rfl _ (exec_load 23 (.tmp 3) rfl _ (.agg #[.int .i64 l0, .int .i64 f0, .int .i64 t0]) rfl (run_load_part _ 23 _ 0 3 _ [.int .i64 l0, .int .i64 f0, .int .i64 t0] _ HX3.out (by simp) Tryd.underlying23 rfl size_api_Bin)) ?_; go_frame) | (refine wpList_dst 36 rfl ?_; refine wpList_run 36 rfl rfl _ (exec_load 23 (.tmp 3) rfl _ (.agg #[.int .i64 l0, .int .i64 f0, .int .i64 t0]) rfl (run_load_part _ 23 _ 0 3 _ [.int .i64 l0, .int .i64 f0, .int .i64 t0] _ HX3.out (by simp) Tryd.underlying23 rfl size_api_Bin)) ?_; go_frame) | (refine wpList_dst 39 rfl ?_; refine wpList_run 39 rfl rfl _ (exec_load 23 (.tmp 3) rfl _ (.agg #[.int .i64 l0, .int .i64 f0, .int .i64 t0]) rfl (run_load_part _ 23 _ 0 3 _ [.int .i64 l0, .int .i64 f0, .int .i64 t0] _ HX3.out (by simp) Tryd.underlying23 rfl size_api_Bin)) ?_; go_frame) | (refine wpList_dst 43 rfl ?_; refine wpList_run 43 rfl rfl _ (exec_load 23 (.tmp 3) rfl _ (.agg #[.int .i64 l0, .int .i64 f0, .int .i64 t0]) rfl (run_load_part _ 23 _ 0 3 _ [.int .i64 l0, .int .i64 f0, .int .i64 t0] _ HX3.out (by simp) Tryd.underlying23 rfl size_api_Bin)) ?_; go_frame) | (refine wpList_dst 45 rfl ?_; refine wpList_run 45 rfl rfl _ (exec_load 23 (.tmp 3) rfl _ (.agg #[.int .i64 l0, .int .i64 f0, .int .i64 t0]) rfl (run_load_part _ 23 _ 0 3 _ [.int .i64 l0, .int .i64 f0, .int .i64 t0] _ HX3.out (by simp) Tryd.underlying23 rfl size_api_Bin)) ?_; go_frame) | (refine wpList_dst 47 rfl ?_; refine wpList_run 47 rfl rfl _ (exec_load 23 (.tmp 3) rfl _ (.agg #[.int .i64 l0, .int .i64 f0, .int .i64 t0]) rfl (run_load_part _ 23 _ 0 3 _ [.int .i64 l0, .int .i64 f0, .int .i64 t0] _ HX3.out (by simp) Tryd.underlying23 rfl size_api_Bin)) ?_; go_frame) | (refine wpList_dst 51 rfl ?_; refine wpList_runG 51 rfl rfl _ (exec_load 23 (.tmp 7) rfl _ (.agg #[.int .i64 xa, .int .i64 xb, .int .i64 xc]) rfl (run_load_part _ 23 _ 0 3 _ [.int .i64 xa, .int .i64 xb, .int .i64 xc] _ HX7.out (by simp) Tryd.underlying23 rfl size_api_Bin)) ?_; go_frame) | (refine wpList_dst 52 rfl ?_; refine wpList_runG 52 rfl rfl _ (exec_fieldAddr 29 (.tmp 9) 0 rfl _ _ rfl (fa_rivermarkref06_Binned_0_0 _ _)) ?_; go_frame) | (refine wpList_dst 53 rfl ?_; refine wpList_runG 53 rfl rfl _ (exec_load 23 (.tmp 52) rfl _ (.agg #[.int .i64 xa, .int .i64 xb, .int .i64 xc]) rfl (run_load_part _ 23 _ 0 3 _ [.int .i64 xa, .int .i64 xb, .int .i64 xc, .int .i64 xe] _ HX9.out (by simp) Tryd.underlying23 rfl size_api_Bin)) ?_; go_frame) | (refine wpList_dst 58 rfl ?_; refine wpList_runG 58 rfl rfl _ (exec_fieldAddr 29 (.tmp 9) 1 rfl _ _ rfl (fa_rivermarkref06_Binned_1_0 _ _)) ?_; go_frame) | (refine wpList_dst 59 rfl ?_; refine wpList_runG 59 rfl rfl _ (exec_load 25 (.tmp 58) rfl _ (.int .i64 xe) rfl (run_load_cell flat_api_Errno (HX9.out.cell 3))) ?_; go_frame) | (refine wpList_dst 63 rfl ?_; refine wpList_runG 63 rfl rfl _ (exec_load 23 (.tmp 10) rfl _ (.agg #[.int .i64 ya, .int .i64 yb, .int .i64 yc]) rfl (run_load_part _ 23 _ 0 3 _ [.int .i64 ya, .int .i64 yb, .int .i64 yc] _ HX10.out (by simp) Tryd.underlying23 rfl size_api_Bin)) ?_; go_frame) | (refine wpList_dst 64 rfl ?_; refine wpList_runG 64 rfl rfl _ (exec_fieldAddr 29 (.tmp 12) 0 rfl _ _ rfl (fa_rivermarkref06_Binned_0_0 _ _)) ?_; go_frame) | (refine wpList_dst 65 rfl ?_; refine wpList_runG 65 rfl rfl _ (exec_load 23 (.tmp 64) rfl _ (.agg #[.int .i64 ya, .int .i64 yb, .int .i64 yc]) rfl (run_load_part _ 23 _ 0 3 _ [.int .i64 ya, .int .i64 yb, .int .i64 yc, .int .i64 ye] _ HX12.out (by simp) Tryd.underlying23 rfl size_api_Bin)) ?_; go_frame) | (refine wpList_dst 70 rfl ?_; refine wpList_runG 70 rfl rfl _ (exec_fieldAddr 29 (.tmp 12) 1 rfl _ _ rfl (fa_rivermarkref06_Binned_1_0 _ _)) ?_; go_frame) | (refine wpList_dst 71 rfl ?_; refine wpList_runG 71 rfl rfl _ (exec_load 25 (.tmp 70) rfl _ (.int .i64 ye) rfl (run_load_cell flat_api_Errno (HX12.out.cell 3))) ?_; go_frame) | (refine wpList_dst 76 rfl ?_; refine wpList_runG 76 rfl rfl _ (exec_fieldAddr 37 (.tmp 15) 0 rfl _ _ rfl (fa_rivermarkref06_Listed_0_0 _ _)) ?_; go_frame) | (refine wpList_dst 77 rfl ?_; refine wpList_runG 77 rfl rfl _ (exec_load 33 (.tmp 76) rfl _ (.slice B l.length d) rfl (run_load_cell flat___api_Bin (HX15.out.cell 0))) ?_; go_frame) | (refine wpList_dst 83 rfl ?_; refine wpList_runG 83 rfl rfl _ (exec_fieldAddr 37 (.tmp 15) 1 rfl _ _ rfl (fa_rivermarkref06_Listed_1_0 _ _)) ?_; go_frame) | (refine wpList_dst 84 rfl ?_; refine wpList_runG 84 rfl rfl _ (exec_load 25 (.tmp 83) rfl _ (.int .i64 er) rfl (run_load_cell flat_api_Errno (HX15.out.cell 1))) ?_; go_frame) | (refine wpList_dst 87 rfl ?_; refine wpList_run 87 rfl rfl _ (exec_indexAddr 24 (.tmp 5) (.const (.int .i64 1)) rfl _ _ _ rfl rfl (ia__3_int_1_0 _ _)) ?_; go_frame) | (refine wpList_dst 88 rfl ?_; refine wpList_run 88 rfl rfl _ (exec_load 3 (.tmp 87) rfl _ (.int .i64 k1) rfl (run_load_cell flat_int (HX5.out.cell 1))) ?_; go_frame) | (refine wpList_dst 89 rfl ?_; refine wpList_run 89 rfl rfl _ (exec_indexAddr 24 (.tmp 5) (.const (.int .i64 2)) rfl _ _ _ rfl rfl (ia__3_int_2_0 _ _)) ?_; go_frame) | (refine wpList_dst 90 rfl ?_; refine wpList_run 90 rfl rfl _ (exec_load 3 (.tmp 89) rfl _ (.int .i64 k2) rfl (run_load_cell flat_int (HX5.out.cell 2))) ?_; go_frame) | (refine wpList_dst 94 rfl ?_; refine wpList_runG 94 rfl rfl _ (exec_indexAddr 24 (.tmp 5) (.const (.int .i64 2)) rfl _ _ _ rfl rfl (ia__3_int_2_0 _ _)) ?_; go_frame) | (refine wpList_dst 95 rfl ?_; refine wpList_runG 95 rfl rfl _ (exec_load 3 (.tmp 94) rfl _ (.int .i64 k2) rfl (run_load_cell flat_int (HX5.out.cell 2))) ?_; go_frame) | (refine wpList_dst 96 rfl ?_; refine wpList_runG 96 rfl rfl _ (exec_indexAddr 24 (.tmp 5) (.const (.int .i64 1)) rfl _ _ _ rfl rfl (ia__3_int_1_0 _ _)) ?_; go_frame) | (refine wpList_dst 97 rfl ?_; refine wpList_runG 97 rfl rfl _ (exec_load 3 (.tmp 96) rfl _ (.int .i64 k1) rfl (run_load_cell flat_int (HX5.out.cell 1))) ?_; go_frame) | (refine wpList_dst 104 rfl ?_; refine wpList_run 104 rfl rfl _ (exec_indexAddr 24 (.tmp 5) (.const (.int .i64 1)) rfl _ _ _ rfl rfl (ia__3_int_1_0 _ _)) ?_; go_frame) | (refine wpList_dst 105 rfl ?_; refine wpList_run 105 rfl rfl _ (exec_load 3 (.tmp 104) rfl _ (.int .i64 k1) rfl (run_load_cell flat_int (HX5.out.cell 1))) ?_; go_frame) | (refine wpList_dst 106 rfl ?_; refine wpList_run 106 rfl rfl _ (exec_indexAddr 24 (.tmp 5) (.const (.int .i64 2)) rfl _ _ _ rfl rfl (ia__3_int_2_0 _ _)) ?_; go_frame) | (refine wpList_dst 107 rfl ?_; refine wpList_run 107 rfl rfl _ (exec_load 3 (.tmp 106) rfl _ (.int .i64 k2) rfl (run_load_cell flat_int (HX5.out.cell 2))) ?_; go_frame) | (refine wpList_dst 112 rfl ?_; refine wpList_run 112 rfl rfl _ (exec_indexAddr 24 (.tmp 5) (.const (.int .i64 1)) rfl _ _ _ rfl rfl (ia__3_int_1_0 _ _)) ?_; go_frame) | (refine wpList_dst 113 rfl ?_; refine wpList_run 113 rfl rfl _ (exec_load 3 (.tmp 112) rfl _ (.int .i64 k1) rfl (run_load_cell flat_int (HX5.out.cell 1))) ?_; go_frame) | (refine wpList_dst 114 rfl ?_; refine wpList_run 114 rfl rfl _ (exec_indexAddr 24 (.tmp 5) (.const (.int .i64 2)) rfl _ _ _ rfl rfl (ia__3_int_2_0 _ _)) ?_; go_frame) | (refine wpList_dst 115 rfl ?_; refine wpList_run 115 rfl rfl _ (exec_load 3 (.tmp 114) rfl _ (.int .i64 k2) rfl (run_load_cell flat_int (HX5.out.cell 2))) ?_; go_frame))
      go_ret
      exact ⟨rfl, HW.out⟩
    · have hdummy := trivial
      have cD : decide (5000 < k2 - k1) = false := decide_eq_false h5
      go_wp2_with (first | (refine wpList_dst 94 rfl ?_; refine wpList_runG 94 rfl rfl _ (exec_indexAddr 24 (.tmp 5) (.const (.int .i64 2)) rfl _ _ _ rfl rfl (ia__3_int_2_0 _ _)) ?_; go_frame) | (refine wpList_dst 95 rfl ?_; refine wpList_runG 95 rfl rfl _ (exec_load 3 (.tmp 94) rfl _ (.int .i64 k2) rfl (run_load_cell flat_int (HX5.out.cell 2))) ?_; go_frame) | (refine wpList_dst 96 rfl ?_; refine wpList_runG 96 rfl rfl _ (exec_indexAddr 24 (.tmp 5) (.const (.int .i64 1)) rfl _ _ _ rfl rfl (ia__3_int_1_0 _ _)) ?_; go_frame) | (refine wpList_dst 97 rfl ?_; refine wpList_runG 97 rfl rfl _ (exec_load 3 (.tmp 96) rfl _ (.int .i64 k1) rfl (run_load_cell flat_int (HX5.out.cell 1))) ?_; go_frame) | (refine wpList_dst 104 rfl ?_; refine wpList_run 104 rfl rfl _ (exec_indexAddr 24 (.tmp 5) (.const (.int .i64 1)) rfl _ _ _ rfl rfl (ia__3_int_1_0 _ _)) ?_; go_frame) | (refine wpList_dst 105 rfl ?_; refine wpList_run 105 rfl rfl _ (exec_load 3 (.tmp 104) rfl _ (.int .i64 k1) rfl (run_load_cell flat_int (HX5.out.cell 1))) ?_; go_frame) | (refine wpList_dst 106 rfl ?_; refine wpList_run 106 rfl rfl _ (exec_indexAddr 24 (.tmp 5) (.const (.int .i64 2)) rfl _ _ _ rfl rfl (ia__3_int_2_0 _ _)) ?_; go_frame) | (refine wpList_dst 107 rfl ?_; refine wpList_run 107 rfl rfl _ (exec_load 3 (.tmp 106) rfl _ (.int .i64 k2) rfl (run_load_cell flat_int (HX5.out.cell 2))) ?_; go_frame))
      refine (F108.out _ HN.out).mono ?_
      rintro e w13 ⟨⟨A2, c2, rfl, hr⟩, hb⟩
      replace HN := Lib.hid (HN.out.next hb)
      replace HW := Lib.hid (HW.out.trans (hb.mono HW.out.size))
      replace HX3 := Lib.hid (HX3.out.next hb)
      replace HX5 := Lib.hid (HX5.out.next hb)
      replace HX7 := Lib.hid (HX7.out.next hb)
      replace HX9 := Lib.hid (HX9.out.next hb)
      replace HX10 := Lib.hid (HX10.out.next hb)
      replace HX12 := Lib.hid (HX12.out.next hb)
      replace HA := Lib.hid (HA.out.below hb)
      replace HB := Lib.hid (HB.out.below hb)
      replace HX15 := Lib.hid (HX15.out.next hb)
      have HA2 := Lib.hid hr
      clear hr
      clear hb
      go_wp2_with (first | (refine wpList_dst 112 rfl ?_; refine wpList_run 112 rfl rfl _ (exec_indexAddr 24 (.tmp 5) (.const (.int .i64 1)) rfl _ _ _ rfl rfl (ia__3_int_1_0 _ _)) ?_; go_frame) | (refine wpList_dst 113 rfl ?_; refine wpList_run 113 rfl rfl _ (exec_load 3 (.tmp 112) rfl _ (.int .i64 k1) rfl (run_load_cell flat_int (HX5.out.cell 1))) ?_; go_frame) | (refine wpList_dst 114 rfl ?_; refine wpList_run 114 rfl rfl _ (exec_indexAddr 24 (.tmp 5) (.const (.int .i64 2)) rfl _ _ _ rfl rfl (ia__3_int_2_0 _ _)) ?_; go_frame) | (refine wpList_dst 115 rfl ?_; refine wpList_run 115 rfl rfl _ (exec_load 3 (.tmp 114) rfl _ (.int .i64 k2) rfl (run_load_cell flat_int (HX5.out.cell 2))) ?_; go_frame))
      refine (F116.out _).mono ?_
      rintro e w14 ⟨⟨B2, d2, rfl, hr⟩, hb⟩
      replace HN := Lib.hid (HN.out.next hb)
      replace HW := Lib.hid (HW.out.trans (hb.mono HW.out.size))
      replace HX3 := Lib.hid (HX3.out.next hb)
      replace HX5 := Lib.hid (HX5.out.next hb)
      replace HX7 := Lib.hid (HX7.out.next hb)
      replace HX9 := Lib.hid (HX9.out.next hb)
      replace HX10 := Lib.hid (HX10.out.next hb)
      replace HX12 := Lib.hid (HX12.out.next hb)
      replace HA := Lib.hid (HA.out.below hb)
      replace HB := Lib.hid (HB.out.below hb)
      replace HX15 := Lib.hid (HX15.out.next hb)
      replace HA2 := Lib.hid (HA2.out.below hb)
      have HB2 := Lib.hid hr
      clear hr
      clear hb
      go_wp2_with (first | (refine wpList_var rfl rfl 37 19 rfl rfl rfl (.tmp 116) rfl [.slice none 0 0, .int .i64 0] [.slice B2 m.length d2, .int .i64 es] zero_rivermarkref06_Listed rfl rfl rfl size_rivermarkref06_Listed (List.forall_mem_cons.2 ⟨rfl, (List.forall_mem_cons.2 ⟨rfl, fun _ h => nomatch h⟩)⟩) ?_; intro w15 HX19 HBw; replace HN := Lib.hid (HN.out.next HBw.out); replace HW := Lib.hid (HW.out.trans (HBw.out.mono HW.out.size)); replace HX3 := Lib.hid (HX3.out.next HBw.out); replace HX5 := Lib.hid (HX5.out.next HBw.out); replace HX7 := Lib.hid (HX7.out.next HBw.out); replace HX9 := Lib.hid (HX9.out.next HBw.out); replace HX10 := Lib.hid (HX10.out.next HBw.out); replace HX12 := Lib.hid (HX12.out.next HBw.out); replace HA := Lib.hid (HA.out.below HBw.out); replace HB := Lib.hid (HB.out.below HBw.out); replace HX15 := Lib.hid (HX15.out.next HBw.out); replace HA2 := Lib.hid (HA2.out.below HBw.out); replace HB2 := Lib.hid (HB2.out.below HBw.out); clear HBw))
      refine (FS.out _ HN.out).mono ?_
      rintro e w16 ⟨rfl, hb⟩
      replace HN := Lib.hid (HN.out.next hb)
      replace HW := Lib.hid (HW.out.trans (hb.mono HW.out.size))
      replace HX3 := Lib.hid (HX3.out.next hb)
      replace HX5 := Lib.hid (HX5.out.next hb)
      replace HX7 := Lib.hid (HX7.out.next hb)
      replace HX9 := Lib.hid (HX9.out.next hb)
      replace HX10 := Lib.hid (HX10.out.next hb)
      replace HX12 := Lib.hid (HX12.out.next hb)
      replace HA := Lib.hid (HA.out.below hb)
      replace HB := Lib.hid (HB.out.below hb)
      replace HX15 := Lib.hid (HX15.out.next hb)
      replace HA2 := Lib.hid (HA2.out.below hb)
      replace HB2 := Lib.hid (HB2.out.below hb)
      replace HX19 := Lib.hid (HX19.out.next hb)
      clear hb
      go_wp2_with (first | (refine wpList_dst 120 rfl ?_; refine wpList_runG 120 rfl rfl _ (exec_fieldAddr 37 (.tmp 19) 0 rfl _ _ rfl (fa_rivermarkref06_Listed_0_0 _ _)) ?_; go_frame) | (refine wpList_dst 121 rfl ?_; refine wpList_runG 121 rfl rfl _ (exec_load 33 (.tmp 120) rfl _ (.slice B2 m.length d2) rfl (run_load_cell flat___api_Bin (HX19.out.cell 0))) ?_; go_frame))
      have hsm := same_lit2 m A2 B2 c2 d2 _ HA2.out HB2.out hlen2
      have FM := Lib.hid hsm
      clear hsm
      refine (FM.out).mono ?_
      rintro e w17 ⟨rfl, hb⟩
      replace HN := Lib.hid (HN.out.next hb)
      replace HW := Lib.hid (HW.out.trans (hb.mono HW.out.size))
      replace HX3 := Lib.hid (HX3.out.next hb)
      replace HX5 := Lib.hid (HX5.out.next hb)
      replace HX7 := Lib.hid (HX7.out.next hb)
      replace HX9 := Lib.hid (HX9.out.next hb)
      replace HX10 := Lib.hid (HX10.out.next hb)
      replace HX12 := Lib.hid (HX12.out.next hb)
      replace HA := Lib.hid (HA.out.below hb)
      replace HB := Lib.hid (HB.out.below hb)
      replace HX15 := Lib.hid (HX15.out.next hb)
      replace HA2 := Lib.hid (HA2.out.below hb)
      replace HB2 := Lib.hid (HB2.out.below hb)
      replace HX19 := Lib.hid (HX19.out.next hb)
      clear hb
      go_wp2_with (first | (refine wpList_dst 126 rfl ?_; refine wpList_runG 126 rfl rfl _ (exec_fieldAddr 37 (.tmp 19) 1 rfl _ _ rfl (fa_rivermarkref06_Listed_1_0 _ _)) ?_; go_frame) | (refine wpList_dst 127 rfl ?_; refine wpList_runG 127 rfl rfl _ (exec_load 25 (.tmp 126) rfl _ (.int .i64 es) rfl (run_load_cell flat_api_Errno (HX19.out.cell 1))) ?_; go_frame))
      go_ret
      exact ⟨rfl, HW.out⟩
  · rw [Bool.not_eq_true] at hi
    rw [hi]
    clear hi
    go_wp2_with (first | (refine wpList_dst 104 rfl ?_; refine wpList_run 104 rfl rfl _ (exec_indexAddr 24 (.tmp 5) (.const (.int .i64 1)) rfl _ _ _ rfl rfl (ia__3_int_1_0 _ _)) ?_; go_frame) | (refine wpList_dst 105 rfl ?_; refine wpList_run 105 rfl rfl _ (exec_load 3 (.tmp 104) rfl _ (.int .i64 k1) rfl (run_load_cell flat_int (HX5.out.cell 1))) ?_; go_frame) | (refine wpList_dst 106 rfl ?_; refine wpList_run 106 rfl rfl _ (exec_indexAddr 24 (.tmp 5) (.const (.int .i64 2)) rfl _ _ _ rfl rfl (ia__3_int_2_0 _ _)) ?_; go_frame) | (refine wpList_dst 107 rfl ?_; refine wpList_run 107 rfl rfl _ (exec_load 3 (.tmp 106) rfl _ (.int .i64 k2) rfl (run_load_cell flat_int (HX5.out.cell 2))) ?_; go_frame))
    refine (F108.out _ HN.out).mono ?_
    rintro e w13 ⟨⟨A2, c2, rfl, hr⟩, hb⟩
    replace HN := Lib.hid (HN.out.next hb)
    replace HW := Lib.hid (HW.out.trans (hb.mono HW.out.size))
    replace HX3 := Lib.hid (HX3.out.next hb)
    replace HX5 := Lib.hid (HX5.out.next hb)
    replace HX7 := Lib.hid (HX7.out.next hb)
    replace HX9 := Lib.hid (HX9.out.next hb)
    replace HX10 := Lib.hid (HX10.out.next hb)
    replace HX12 := Lib.hid (HX12.out.next hb)
    replace HA := Lib.hid (HA.out.below hb)
    replace HB := Lib.hid (HB.out.below hb)
    replace HX15 := Lib.hid (HX15.out.next hb)
    have HA2 := Lib.hid hr
    clear hr
    clear hb
    go_wp2_with (first | (refine wpList_dst 112 rfl ?_; refine wpList_run 112 rfl rfl _ (exec_indexAddr 24 (.tmp 5) (.const (.int .i64 1)) rfl _ _ _ rfl rfl (ia__3_int_1_0 _ _)) ?_; go_frame) | (refine wpList_dst 113 rfl ?_; refine wpList_run 113 rfl rfl _ (exec_load 3 (.tmp 112) rfl _ (.int .i64 k1) rfl (run_load_cell flat_int (HX5.out.cell 1))) ?_; go_frame) | (refine wpList_dst 114 rfl ?_; refine wpList_run 114 rfl rfl _ (exec_indexAddr 24 (.tmp 5) (.const (.int .i64 2)) rfl _ _ _ rfl rfl (ia__3_int_2_0 _ _)) ?_; go_frame) | (refine wpList_dst 115 rfl ?_; refine wpList_run 115 rfl rfl _ (exec_load 3 (.tmp 114) rfl _ (.int .i64 k2) rfl (run_load_cell flat_int (HX5.out.cell 2))) ?_; go_frame))
    refine (F116.out _).mono ?_
    rintro e w14 ⟨⟨B2, d2, rfl, hr⟩, hb⟩
    replace HN := Lib.hid (HN.out.next hb)
    replace HW := Lib.hid (HW.out.trans (hb.mono HW.out.size))
    replace HX3 := Lib.hid (HX3.out.next hb)
    replace HX5 := Lib.hid (HX5.out.next hb)
    replace HX7 := Lib.hid (HX7.out.next hb)
    replace HX9 := Lib.hid (HX9.out.next hb)
    replace HX10 := Lib.hid (HX10.out.next hb)
    replace HX12 := Lib.hid (HX12.out.next hb)
    replace HA := Lib.hid (HA.out.below hb)
    replace HB := Lib.hid (HB.out.below hb)
    replace HX15 := Lib.hid (HX15.out.next hb)
    replace HA2 := Lib.hid (HA2.out.below hb)
    have HB2 := Lib.hid hr
    clear hr
    clear hb
    go_wp2_with (first | (refine wpList_var rfl rfl 37 19 rfl rfl rfl (.tmp 116) rfl [.slice none 0 0, .int .i64 0] [.slice B2 m.length d2, .int .i64 es] zero_rivermarkref06_Listed rfl rfl rfl size_rivermarkref06_Listed (List.forall_mem_cons.2 ⟨rfl, (List.forall_mem_cons.2 ⟨rfl, fun _ h => nomatch h⟩)⟩) ?_; intro w15 HX19 HBw; replace HN := Lib.hid (HN.out.next HBw.out); replace HW := Lib.hid (HW.out.trans (HBw.out.mono HW.out.size)); replace HX3 := Lib.hid (HX3.out.next HBw.out); replace HX5 := Lib.hid (HX5.out.next HBw.out); replace HX7 := Lib.hid (HX7.out.next HBw.out); replace HX9 := Lib.hid (HX9.out.next HBw.out); replace HX10 := Lib.hid (HX10.out.next HBw.out); replace HX12 := Lib.hid (HX12.out.next HBw.out); replace HA := Lib.hid (HA.out.below HBw.out); replace HB := Lib.hid (HB.out.below HBw.out); replace HX15 := Lib.hid (HX15.out.next HBw.out); replace HA2 := Lib.hid (HA2.out.below HBw.out); replace HB2 := Lib.hid (HB2.out.below HBw.out); clear HBw))
    refine (FS.out _ HN.out).mono ?_
    rintro e w16 ⟨rfl, hb⟩
    replace HN := Lib.hid (HN.out.next hb)
    replace HW := Lib.hid (HW.out.trans (hb.mono HW.out.size))
    replace HX3 := Lib.hid (HX3.out.next hb)
    replace HX5 := Lib.hid (HX5.out.next hb)
    replace HX7 := Lib.hid (HX7.out.next hb)
    replace HX9 := Lib.hid (HX9.out.next hb)
    replace HX10 := Lib.hid (HX10.out.next hb)
    replace HX12 := Lib.hid (HX12.out.next hb)
    replace HA := Lib.hid (HA.out.below hb)
    replace HB := Lib.hid (HB.out.below hb)
    replace HX15 := Lib.hid (HX15.out.next hb)
    replace HA2 := Lib.hid (HA2.out.below hb)
    replace HB2 := Lib.hid (HB2.out.below hb)
    replace HX19 := Lib.hid (HX19.out.next hb)
    clear hb
    go_wp2_with (first | (refine wpList_dst 120 rfl ?_; refine wpList_runG 120 rfl rfl _ (exec_fieldAddr 37 (.tmp 19) 0 rfl _ _ rfl (fa_rivermarkref06_Listed_0_0 _ _)) ?_; go_frame) | (refine wpList_dst 121 rfl ?_; refine wpList_runG 121 rfl rfl _ (exec_load 33 (.tmp 120) rfl _ (.slice B2 m.length d2) rfl (run_load_cell flat___api_Bin (HX19.out.cell 0))) ?_; go_frame))
    have hsm := same_lit2 m A2 B2 c2 d2 _ HA2.out HB2.out hlen2
    have FM := Lib.hid hsm
    clear hsm
    refine (FM.out).mono ?_
    rintro e w17 ⟨rfl, hb⟩
    replace HN := Lib.hid (HN.out.next hb)
    replace HW := Lib.hid (HW.out.trans (hb.mono HW.out.size))
    replace HX3 := Lib.hid (HX3.out.next hb)
    replace HX5 := Lib.hid (HX5.out.next hb)
    replace HX7 := Lib.hid (HX7.out.next hb)
    replace HX9 := Lib.hid (HX9.out.next hb)
    replace HX10 := Lib.hid (HX10.out.next hb)
    replace HX12 := Lib.hid (HX12.out.next hb)
    replace HA := Lib.hid (HA.out.below hb)
    replace HB := Lib.hid (HB.out.below hb)
    replace HX15 := Lib.hid (HX15.out.next hb)
    replace HA2 := Lib.hid (HA2.out.below hb)
    replace HB2 := Lib.hid (HB2.out.below hb)
    replace HX19 := Lib.hid (HX19.out.next hb)
    clear hb
    go_wp2_with (first | (refine wpList_dst 126 rfl ?_; refine wpList_runG 126 rfl rfl _ (exec_fieldAddr 37 (.tmp 19) 1 rfl _ _ rfl (fa_rivermarkref06_Listed_1_0 _ _)) ?_; go_frame) | (refine wpList_dst 127 rfl ?_; refine wpList_runG 127 rfl rfl _ (exec_load 25 (.tmp 126) rfl _ (.int .i64 es) rfl (run_load_cell flat_api_Errno (HX19.out.cell 1))) ?_; go_frame))
    go_ret
    exact ⟨rfl, HW.out⟩
theorem walk_blocks (l0 f0 t0 lv k0 k1 k2 : Int) (w : World) (hL : Lens w) : Calls Tryd.prog 3 #[.agg #[.int .i64 l0, .int .i64 f0, .int .i64 t0], .int .i64 lv, .agg #[.int .i64 k0, .int .i64 k1, .int .i64 k2]] w fun e w' => e = .returned (.bool true) ∧ Below w.heap.size w w' := by
  obtain ⟨xa, xb, xc, xe, a1, a2⟩ := block_both lv k0
  obtain ⟨ya, yb, yc, ye, a3, a4⟩ := parent_both l0 f0 t0
  obtain ⟨l, er, hl, a5, a6⟩ := child_both l0 f0 t0
  obtain ⟨m, es, hm, a7, a8⟩ := blocks_both lv k1 k2
  exact blocks_core l0 f0 t0 lv k0 k1 k2 xa xb xc xe ya yb yc ye er es l m w hL hl hm a1 a2 a3 a4 a5 a6 a7 a8
end Go.Proofs.YtmifpaafpmibmaaDoor
