/- The walk of LexerStopsAtTheFirstProblem. -/
import Derived.Test.YtpibmenlmjfdeaaDoorL18
import Derived.Deep.DeepCutAuto
namespace Go.Proofs.YtpibmenlmjfdeaaDoor
open Go.RowKit Hm Wm Lx

theorem pb_f (g k : Nat) (hk : k = 0 ∨ k = 1) (W : World) : (Instr.fieldAt 26 (.pointer (some ⟨g, 0, none⟩)) k).run Tryd.prog W = .ok (.pointer (some ⟨g, k, none⟩)) W := by
  rcases hk with rfl | rfl <;> kernel_rfl
theorem er_flat (W : World) : (isAgg 24).run Tryd.prog W = .ok false W := by kernel_rfl
theorem tok_ok (l : List UInt8) (T : List Tok) (hl : l.length ≤ 65536) (w : World) (hE : Env w) (h : lex l 0 = .ok T) :
    Calls Tryd.prog 12 #[.string (sb l)] w fun e w' => (∃ A c, e = .returned (.tuple #[.slice A T.length c, .agg #[.int .i64 0, .int .i64 0]]) ∧ RdT w' A (T.map toT)) ∧ Below w.heap.size w w' := by
  refine (tokens_ok l w hl hE).mono fun e w' hq => ?_
  rw [h] at hq
  obtain ⟨v, h1, h2, h3⟩ := hq
  obtain ⟨A, c, rfl, hc, hr⟩ := h2.reads
  rw [List.length_map] at h1
  exact ⟨⟨A, c, h1, hr⟩, h3⟩
theorem wpList_callF {ops : Array Oper} {rest : List Oper} {o : Oper} {a : Act} {w : World} {Q : Exit → Act → World → Prop} (d : Tmp) (hd : o.dst = some d) (hw : Region.wanted o (yielded ops a.tmps) = true) {F : FuncId} {xs : Array Operand} {ts : Array TypeId} (ho : o.op = .call { callee := .value (.func F), args := xs, argTypes := ts })
    {fn : Func} (hf : Tryd.prog.funcs[F]? = some fn) (hn : (fn.name == "runtime.NumGoroutine") = false) (hb : fn.body.isNone = false) (vs : Array Value) (hvs : xs.toList.map a.eval = vs.toList) {R : Ending → World → Prop} (hc : Calls Tryd.prog F vs w R)
    (h : ∀ e w', R e w' → ∃ v, e = .returned v ∧ wpList Tryd.prog ops Q rest (a.put (some d) v) w') : wpList Tryd.prog ops Q (o :: rest) a w :=
  wpList_want hw fun K hK => wp_call_fn ho hf hn hb vs hvs hc fun e w' he => by
    obtain ⟨v, h1, h2⟩ := h e w' he
    rw [← hd] at h2
    exact ⟨v, h1, hK _ _ h2⟩
theorem wpList_skipD {P : Program} {ops : Array Oper} {Q : Exit → Act → World → Prop} {a : Act} {w : World} {rest : List Oper} {o : Oper} (d : Tmp) (hd : o.dst = some d)
    (hw : Region.wanted o (yielded ops a.tmps) = false) (h : wpList P ops Q rest (a.put (some d) undef) w) : wpList P ops Q (o :: rest) a w := by
  rw [← hd] at h
  exact wpList_skip hw h
def skipOk (ops : Array Oper) : List Oper → List Tmp → Act → Bool
  | [], [], _ => true
  | u :: us, d :: ds, a => (u.dst == some d) && (Region.wanted u (yielded ops a.tmps) == false) && skipOk ops us ds (a.put (some d) undef)
  | _, _, _ => false
theorem wpList_skips {P : Program} {ops : Array Oper} {Q : Exit → Act → World → Prop} {w : World} : ∀ (us : List Oper) (ds : List Tmp) (rest : List Oper) (a : Act), skipOk ops us ds a = true → wpList P ops Q rest (ds.foldl (fun a d => a.put (some d) undef) a) w → wpList P ops Q (us ++ rest) a w
  | [], [], rest, a, _, h => h
  | [], _ :: _, _, _, hk, _ => by simp [skipOk] at hk
  | _ :: _, [], _, _, hk, _ => by simp [skipOk] at hk
  | u :: us, d :: ds, rest, a, hk, h => by
    simp only [skipOk, Bool.and_eq_true, beq_iff_eq] at hk
    refine wpList_skip hk.1.2 ?_
    rw [hk.1.1]
    exact wpList_skips us ds rest _ hk.2 h
/-- An operation is done, and those behind it that are not wanted are passed over, in one Lx.step. -/
theorem wpList_runSkip {w : World} {ops : Array Oper} {tail : List Oper} {o : Oper} {a : Act} {Q : Exit → Act → World → Prop} (d : Tmp) (hd : o.dst = some d) (hw : Region.wanted o (yielded ops a.tmps) = true) (v : Value) (hrun : (execOp a.eval o).run Tryd.prog w = .ok (.value v) w)
    (n : Nat) (ds : List Tmp) (hk : skipOk ops (tail.take n) ds (a.put (some d) v) = true) (h : wpList Tryd.prog ops Q (tail.drop n) (ds.foldl (fun a d => a.put (some d) undef) (a.put (some d) v)) w) : wpList Tryd.prog ops Q (o :: tail) a w := by
  refine wpList_runG d hd hw v hrun ?_
  have := wpList_skips (P := Tryd.prog) (Q := Q) (w := w) (tail.take n) ds (tail.drop n) _ hk h
  rwa [List.take_append_drop] at this
theorem lex_nonempty {l : List UInt8} {x : Nat} {T : List Tok} (h : lex l x = .ok T) : 0 < T.length := by
  obtain ⟨U, rfl⟩ := lex_last l x T h; simp
set_option maxRecDepth 100000 in
set_option maxHeartbeats 1000000 in
theorem stops_long (l : List UInt8) (w : World) (hE : Env w) (h : 2000 < l.length) (hl : l.length ≤ 9223372036854775807) : Calls Tryd.prog 9 #[.string (sb l)] w fun e w' => e = .returned (.bool true) ∧ Below w.heap.size w w' := by
  have hz : (sb l).size = l.length := sb_size l
  have HE := Lib.hid hE
  have HW := Lib.hid (Below.refl w.heap.size w)
  have h1 : decide ((2000 : Int) < ((sb l).size : Int)) = true := decide_eq_true (by omega)
  clear hz hE h hl
  go_enter Tryd.func9, Tryd.ntmps9
  go_wp2_with (first | ((with_reducible refine (sanity_any _ HE.out).mono ?_); rintro e wy ⟨rfl, hb⟩; replace HE := Lib.hid (HE.out.next hb); replace HW := Lib.hid (HW.out.trans (hb.mono HW.out.size)); clear hb))
  go_ret
  exact ⟨rfl, HW.out⟩
set_option maxRecDepth 100000 in
set_option maxHeartbeats 1000000 in
theorem stops_ok (l : List UInt8) (w : World) (hE : Env w) (hl : l.length ≤ 2000) (T : List Tok) (h : lex l 0 = .ok T) : Calls Tryd.prog 9 #[.string (sb l)] w fun e w' => e = .returned (.bool true) ∧ Below w.heap.size w w' := by
  have hz : (sb l).size = l.length := sb_size l
  have HE := Lib.hid hE
  have HW := Lib.hid (Below.refl w.heap.size w)
  have h1 : decide ((2000 : Int) < ((sb l).size : Int)) = false := decide_eq_false (by omega)
  have Hh := Lib.hid h
  have HhL := Lib.hid (show l.length ≤ 65536 by omega)
  clear hz hE h hl
  go_enter Tryd.func9, Tryd.ntmps9
  go_upto_region 4 with (first | ((with_reducible refine (tok_ok l _ (HhL.out) _ HE.out Hh.out).mono ?_); rintro e a1 ⟨⟨A1, c1, rfl, hrd⟩, hb⟩; replace HE := Lib.hid (HE.out.next hb); replace HW := Lib.hid (HW.out.trans (hb.mono HW.out.size)); have HR1 := Lib.hid hrd; clear hrd hb) | (refine wpList_new rfl 26 rfl [.int .i64 0, .int .i64 0] pb_zero ?_; intro d1 HP1 HB1) | (refine wpList_store_all rfl 26 (.tmp 4) (.tmp 15) rfl a1.heap.size 26 [.int .i64 0, .int .i64 0] [.int .i64 0, .int .i64 0] rfl rfl HP1.out rfl pb_size (List.forall_mem_cons.2 ⟨rfl, (List.forall_mem_cons.2 ⟨rfl, fun _ h => nomatch h⟩)⟩) ?_; intro f1 HQ1 ho; have hb := HB1.out.trans (ho.below (Nat.le_refl _)); replace HE := Lib.hid (HE.out.next hb); replace HW := Lib.hid (HW.out.trans (hb.mono HW.out.size)); replace HR1 := Lib.hid (HR1.out.below hb); clear hb ho HP1 HB1))
  go_wp2_with (first | (refine wpList_dst 16 rfl ?_; refine wpList_run 16 rfl rfl _ (exec_fieldAddr 26 (.tmp 4) 1 rfl _ _ rfl (pb_f _ 1 (by decide) _)) ?_; go_frame) | (refine wpList_dst 17 rfl ?_; refine wpList_run 17 rfl rfl _ (exec_load 24 (.tmp 16) rfl _ (.int .i64 0) rfl (run_load_cell er_flat (HQ1.out.cell 1))) ?_; go_frame) | ((with_reducible refine (sanity_any _ HE.out).mono ?_); rintro e wy ⟨rfl, hb⟩; replace HE := Lib.hid (HE.out.next hb); replace HW := Lib.hid (HW.out.trans (hb.mono HW.out.size)); replace HR1 := Lib.hid (HR1.out.below hb); replace HQ1 := Lib.hid (HQ1.out.next hb); clear hb))
  go_ret
  exact ⟨rfl, HW.out⟩
set_option maxRecDepth 100000 in
set_option maxHeartbeats 1000000 in
theorem stops_zero (l : List UInt8) (w : World) (hE : Env w) (hl : l.length ≤ 2000) (x k : Nat) (hx : x = 0) (hk : k ≠ 0) (h : lex l 0 = .bad x k) (hxl : x < l.length) (T : List Tok) (h2 : lex (l.take x) 0 = .ok T) : Calls Tryd.prog 9 #[.string (sb l)] w fun e w' => e = .returned (.bool true) ∧ Below w.heap.size w w' := by
  have hz : (sb l).size = l.length := sb_size l
  have HE := Lib.hid hE
  have HW := Lib.hid (Below.refl w.heap.size w)
  have h1 : decide ((2000 : Int) < ((sb l).size : Int)) = false := decide_eq_false (by omega)
  have Hh := Lib.hid h
  have HhL := Lib.hid (show l.length ≤ 65536 by omega)
  have he : ((k : Int) == 0) = false := by rw [beq_eq_false_iff_ne]; omega
  have hg : decide (((sb l).size : Int) ≤ (x : Int)) = false := decide_eq_false (by omega)
  have hgn : decide ((sb l).size ≤ x) = false := decide_eq_false (by omega)
  have hg0 : decide ((x : Int) < 0) = false := decide_eq_false (by omega)
  have HX0 := Lib.hid (show ∀ W, (binOp .eql 3 (.int .i64 x) (.int .i64 0)).run Tryd.prog W = .ok (.bool true) W from fun W => by simp [binOp, go_sem]; omega)
  have HT := lex_nonempty h2
  have ht : decide ((0 : Int) < (T.length : Int)) = true := decide_eq_true (by omega)
  have Hq := Lib.hid h2
  have HqL := Lib.hid (show (l.take x).length ≤ 65536 by rw [List.length_take]; omega)
  have HHI := Lib.hid (show ∀ W, (Instr.sliceAt 9 (.string (sb l)) none (some (.int .i64 x)) none).run Tryd.prog W = .ok (.string (sb (l.take x))) W from fun W => run_str_hi W l x (by omega))
  clear hz hE h hl h2 hk hx
  go_enter Tryd.func9, Tryd.ntmps9
  go_upto_region 4 with (first | ((with_reducible refine (tok_no l x k (HhL.out) Hh.out _ HE.out).mono ?_); rintro e a1 ⟨rfl, hb⟩; replace HE := Lib.hid (HE.out.next hb); replace HW := Lib.hid (HW.out.trans (hb.mono HW.out.size)); clear hb) | (refine wpList_new rfl 26 rfl [.int .i64 0, .int .i64 0] pb_zero ?_; intro d1 HP1 HB1) | (refine wpList_store_all rfl 26 (.tmp 4) (.tmp 15) rfl a1.heap.size 26 [.int .i64 0, .int .i64 0] [.int .i64 x, .int .i64 k] rfl rfl HP1.out rfl pb_size (List.forall_mem_cons.2 ⟨rfl, (List.forall_mem_cons.2 ⟨rfl, fun _ h => nomatch h⟩)⟩) ?_; intro f1 HQ1 ho; have hb := HB1.out.trans (ho.below (Nat.le_refl _)); replace HE := Lib.hid (HE.out.next hb); replace HW := Lib.hid (HW.out.trans (hb.mono HW.out.size)); clear hb ho HP1 HB1))
  go_upto_region 9 with (first | (refine wpList_dst 16 rfl ?_; refine wpList_run 16 rfl rfl _ (exec_fieldAddr 26 (.tmp 4) 1 rfl _ _ rfl (pb_f _ 1 (by decide) _)) ?_; go_frame) | (refine wpList_dst 17 rfl ?_; refine wpList_run 17 rfl rfl _ (exec_load 24 (.tmp 16) rfl _ (.int .i64 k) rfl (run_load_cell er_flat (HQ1.out.cell 1))) ?_; go_frame) | (refine wpList_dst 20 rfl ?_; refine wpList_run 20 rfl rfl _ (exec_fieldAddr 26 (.tmp 4) 0 rfl _ _ rfl (pb_f _ 0 (by decide) _)) ?_; go_frame) | (refine wpList_dst 21 rfl ?_; refine wpList_run 21 rfl rfl _ (exec_load 3 (.tmp 20) rfl _ (.int .i64 x) rfl (run_load_cell int_flat (HQ1.out.cell 0))) ?_; go_frame) | (refine wpList_dst 24 rfl ?_; refine wpList_runG 24 rfl rfl _ (exec_fieldAddr 26 (.tmp 4) 0 rfl _ _ rfl (pb_f _ 0 (by decide) _)) ?_; go_frame) | (refine wpList_dst 25 rfl ?_; refine wpList_runG 25 rfl rfl _ (exec_load 3 (.tmp 24) rfl _ (.int .i64 x) rfl (run_load_cell int_flat (HQ1.out.cell 0))) ?_; go_frame) | (refine wpList_dst 32 rfl ?_; refine wpList_run 32 rfl rfl _ (exec_fieldAddr 26 (.tmp 4) 0 rfl _ _ rfl (pb_f _ 0 (by decide) _)) ?_; go_frame) | (refine wpList_dst 33 rfl ?_; refine wpList_run 33 rfl rfl _ (exec_load 3 (.tmp 32) rfl _ (.int .i64 x) rfl (run_load_cell int_flat (HQ1.out.cell 0))) ?_; go_frame) | (refine wpList_dst 34 rfl ?_; refine wpList_run 34 rfl rfl _ (exec_slice_hi 9 (.tmp 31) (.tmp 33) rfl (.string (sb l)) (.int .i64 x) (.string (sb (l.take x))) rfl rfl (HHI.out _)) ?_; go_frame) | ((with_reducible refine (tok_ok (l.take x) _ (HqL.out) _ HE.out Hq.out).mono ?_); rintro e a2 ⟨⟨A2, c2, rfl, hrd⟩, hb⟩; replace HE := Lib.hid (HE.out.next hb); replace HW := Lib.hid (HW.out.trans (hb.mono HW.out.size)); replace HQ1 := Lib.hid (HQ1.out.next hb); have HR2 := Lib.hid hrd; clear hrd hb) | (refine wpList_new rfl 26 rfl [.int .i64 0, .int .i64 0] pb_zero ?_; intro d2 HP2 HB2) | (refine wpList_store_all rfl 26 (.tmp 6) (.tmp 37) rfl a2.heap.size 26 [.int .i64 0, .int .i64 0] [.int .i64 0, .int .i64 0] rfl rfl HP2.out rfl pb_size (List.forall_mem_cons.2 ⟨rfl, (List.forall_mem_cons.2 ⟨rfl, fun _ h => nomatch h⟩)⟩) ?_; intro f2 HQ2 ho; have hb := HB2.out.trans (ho.below (Nat.le_refl _)); replace HE := Lib.hid (HE.out.next hb); replace HW := Lib.hid (HW.out.trans (hb.mono HW.out.size)); replace HQ1 := Lib.hid (HQ1.out.next hb); replace HR2 := Lib.hid (HR2.out.below hb); clear hb ho HP2 HB2))
  refine wp_region_lit ?_
  refine wpList_callF 38 rfl (by first | rfl | kernel_rfl) rfl Tryd.func11 (by kernel_rfl) (by kernel_rfl) #[] rfl (sanity_any _ HE.out) ?_
  rintro e wz ⟨rfl, hb⟩
  replace HE := Lib.hid (HE.out.next hb); replace HW := Lib.hid (HW.out.trans (hb.mono HW.out.size)); replace HQ1 := Lib.hid (HQ1.out.next hb); replace HR2 := Lib.hid (HR2.out.below hb); replace HQ2 := Lib.hid (HQ2.out.next hb)
  clear hb
  refine ⟨_, rfl, ?_⟩
  go_frame
  refine wpList_run 39 rfl rfl (.bool true) (exec_move (.tmp 38) rfl _ rfl) ?_
  go_frame
  refine wpList_runG 40 rfl (by first | rfl | kernel_rfl) (.pointer (some ⟨a1.heap.size, 0, none⟩)) (exec_fieldAddr 26 (.tmp 4) 0 rfl _ _ rfl (pb_f _ 0 (by decide) _)) ?_
  go_frame
  refine wpList_runG 41 rfl (by first | rfl | kernel_rfl) (.int .i64 x) (exec_load 3 (.tmp 40) rfl _ (.int .i64 x) rfl (run_load_cell int_flat (HQ1.out.cell 0))) ?_
  go_frame
  refine wpList_runG 42 rfl (by first | rfl | kernel_rfl) (.bool true) (exec_bin .eql 3 _ (.tmp 41) _ rfl (.int .i64 x) (.int .i64 0) _ rfl rfl rfl (HX0.out _)) ?_
  go_frame
  refine wpList_runSkip 43 rfl (by first | rfl | kernel_rfl) (.bool true) (exec_move (.tmp 42) rfl _ rfl) 8 [44, 45, 46, 47, 48, 49, 50, 51] (by kernel_rfl) ?_
  simp only [List.drop_succ_cons, List.drop_zero, List.foldl_cons, List.foldl_nil]
  go_frame
  refine wpList_runG 52 rfl (by first | rfl | kernel_rfl) (.bool true) (exec_pickT _ _ _ rfl (.bool true) rfl rfl) ?_
  go_frame
  refine wpList_run 53 rfl rfl (.bool true) (exec_pickT _ _ _ rfl (.bool true) rfl rfl) ?_
  go_frame
  refine wpList_run 2 rfl rfl (.bool true) (exec_assign (.tmp 53) rfl _ rfl) ?_
  go_frame
  refine wpList_nil ?_
  go_wp2
  go_ret
  exact ⟨rfl, HW.out⟩
set_option maxRecDepth 100000 in
set_option maxHeartbeats 1000000 in
theorem stops_more (l : List UInt8) (w : World) (hE : Env w) (hl : l.length ≤ 2000) (x k : Nat) (hx : 0 < x) (hk : k ≠ 0) (h : lex l 0 = .bad x k) (hxl : x < l.length) (T : List Tok) (h2 : lex (l.take x) 0 = .ok T) : Calls Tryd.prog 9 #[.string (sb l)] w fun e w' => e = .returned (.bool true) ∧ Below w.heap.size w w' := by
  have hz : (sb l).size = l.length := sb_size l
  have HE := Lib.hid hE
  have HW := Lib.hid (Below.refl w.heap.size w)
  have h1 : decide ((2000 : Int) < ((sb l).size : Int)) = false := decide_eq_false (by omega)
  have Hh := Lib.hid h
  have HhL := Lib.hid (show l.length ≤ 65536 by omega)
  have he : ((k : Int) == 0) = false := by rw [beq_eq_false_iff_ne]; omega
  have hg : decide (((sb l).size : Int) ≤ (x : Int)) = false := decide_eq_false (by omega)
  have hgn : decide ((sb l).size ≤ x) = false := decide_eq_false (by omega)
  have hg0 : decide ((x : Int) < 0) = false := decide_eq_false (by omega)
  have HX0 := Lib.hid (show ∀ W, (binOp .eql 3 (.int .i64 x) (.int .i64 0)).run Tryd.prog W = .ok (.bool false) W from fun W => by simp [binOp, go_sem]; omega)
  have HT := lex_nonempty h2
  have ht : decide ((0 : Int) < (T.length : Int)) = true := decide_eq_true (by omega)
  have Hq := Lib.hid h2
  have HqL := Lib.hid (show (l.take x).length ≤ 65536 by rw [List.length_take]; omega)
  have HHI := Lib.hid (show ∀ W, (Instr.sliceAt 9 (.string (sb l)) none (some (.int .i64 x)) none).run Tryd.prog W = .ok (.string (sb (l.take x))) W from fun W => run_str_hi W l x (by omega))
  clear hz hE h hl h2 hk hx
  go_enter Tryd.func9, Tryd.ntmps9
  go_upto_region 4 with (first | ((with_reducible refine (tok_no l x k (HhL.out) Hh.out _ HE.out).mono ?_); rintro e a1 ⟨rfl, hb⟩; replace HE := Lib.hid (HE.out.next hb); replace HW := Lib.hid (HW.out.trans (hb.mono HW.out.size)); clear hb) | (refine wpList_new rfl 26 rfl [.int .i64 0, .int .i64 0] pb_zero ?_; intro d1 HP1 HB1) | (refine wpList_store_all rfl 26 (.tmp 4) (.tmp 15) rfl a1.heap.size 26 [.int .i64 0, .int .i64 0] [.int .i64 x, .int .i64 k] rfl rfl HP1.out rfl pb_size (List.forall_mem_cons.2 ⟨rfl, (List.forall_mem_cons.2 ⟨rfl, fun _ h => nomatch h⟩)⟩) ?_; intro f1 HQ1 ho; have hb := HB1.out.trans (ho.below (Nat.le_refl _)); replace HE := Lib.hid (HE.out.next hb); replace HW := Lib.hid (HW.out.trans (hb.mono HW.out.size)); clear hb ho HP1 HB1))
  go_upto_region 9 with (first | (refine wpList_dst 16 rfl ?_; refine wpList_run 16 rfl rfl _ (exec_fieldAddr 26 (.tmp 4) 1 rfl _ _ rfl (pb_f _ 1 (by decide) _)) ?_; go_frame) | (refine wpList_dst 17 rfl ?_; refine wpList_run 17 rfl rfl _ (exec_load 24 (.tmp 16) rfl _ (.int .i64 k) rfl (run_load_cell er_flat (HQ1.out.cell 1))) ?_; go_frame) | (refine wpList_dst 20 rfl ?_; refine wpList_run 20 rfl rfl _ (exec_fieldAddr 26 (.tmp 4) 0 rfl _ _ rfl (pb_f _ 0 (by decide) _)) ?_; go_frame) | (refine wpList_dst 21 rfl ?_; refine wpList_run 21 rfl rfl _ (exec_load 3 (.tmp 20) rfl _ (.int .i64 x) rfl (run_load_cell int_flat (HQ1.out.cell 0))) ?_; go_frame) | (refine wpList_dst 24 rfl ?_; refine wpList_runG 24 rfl rfl _ (exec_fieldAddr 26 (.tmp 4) 0 rfl _ _ rfl (pb_f _ 0 (by decide) _)) ?_; go_frame) | (refine wpList_dst 25 rfl ?_; refine wpList_runG 25 rfl rfl _ (exec_load 3 (.tmp 24) rfl _ (.int .i64 x) rfl (run_load_cell int_flat (HQ1.out.cell 0))) ?_; go_frame) | (refine wpList_dst 32 rfl ?_; refine wpList_run 32 rfl rfl _ (exec_fieldAddr 26 (.tmp 4) 0 rfl _ _ rfl (pb_f _ 0 (by decide) _)) ?_; go_frame) | (refine wpList_dst 33 rfl ?_; refine wpList_run 33 rfl rfl _ (exec_load 3 (.tmp 32) rfl _ (.int .i64 x) rfl (run_load_cell int_flat (HQ1.out.cell 0))) ?_; go_frame) | (refine wpList_dst 34 rfl ?_; refine wpList_run 34 rfl rfl _ (exec_slice_hi 9 (.tmp 31) (.tmp 33) rfl (.string (sb l)) (.int .i64 x) (.string (sb (l.take x))) rfl rfl (HHI.out _)) ?_; go_frame) | ((with_reducible refine (tok_ok (l.take x) _ (HqL.out) _ HE.out Hq.out).mono ?_); rintro e a2 ⟨⟨A2, c2, rfl, hrd⟩, hb⟩; replace HE := Lib.hid (HE.out.next hb); replace HW := Lib.hid (HW.out.trans (hb.mono HW.out.size)); replace HQ1 := Lib.hid (HQ1.out.next hb); have HR2 := Lib.hid hrd; clear hrd hb) | (refine wpList_new rfl 26 rfl [.int .i64 0, .int .i64 0] pb_zero ?_; intro d2 HP2 HB2) | (refine wpList_store_all rfl 26 (.tmp 6) (.tmp 37) rfl a2.heap.size 26 [.int .i64 0, .int .i64 0] [.int .i64 0, .int .i64 0] rfl rfl HP2.out rfl pb_size (List.forall_mem_cons.2 ⟨rfl, (List.forall_mem_cons.2 ⟨rfl, fun _ h => nomatch h⟩)⟩) ?_; intro f2 HQ2 ho; have hb := HB2.out.trans (ho.below (Nat.le_refl _)); replace HE := Lib.hid (HE.out.next hb); replace HW := Lib.hid (HW.out.trans (hb.mono HW.out.size)); replace HQ1 := Lib.hid (HQ1.out.next hb); replace HR2 := Lib.hid (HR2.out.below hb); clear hb ho HP2 HB2))
  refine wp_region_lit ?_
  refine wpList_callF 38 rfl (by first | rfl | kernel_rfl) rfl Tryd.func11 (by kernel_rfl) (by kernel_rfl) #[] rfl (sanity_any _ HE.out) ?_
  rintro e wz ⟨rfl, hb⟩
  replace HE := Lib.hid (HE.out.next hb); replace HW := Lib.hid (HW.out.trans (hb.mono HW.out.size)); replace HQ1 := Lib.hid (HQ1.out.next hb); replace HR2 := Lib.hid (HR2.out.below hb); replace HQ2 := Lib.hid (HQ2.out.next hb)
  clear hb
  refine ⟨_, rfl, ?_⟩
  go_frame
  refine wpList_run 39 rfl rfl (.bool true) (exec_move (.tmp 38) rfl _ rfl) ?_
  go_frame
  refine wpList_runG 40 rfl (by first | rfl | kernel_rfl) (.pointer (some ⟨a1.heap.size, 0, none⟩)) (exec_fieldAddr 26 (.tmp 4) 0 rfl _ _ rfl (pb_f _ 0 (by decide) _)) ?_
  go_frame
  refine wpList_runG 41 rfl (by first | rfl | kernel_rfl) (.int .i64 x) (exec_load 3 (.tmp 40) rfl _ (.int .i64 x) rfl (run_load_cell int_flat (HQ1.out.cell 0))) ?_
  go_frame
  refine wpList_runG 42 rfl (by first | rfl | kernel_rfl) (.bool false) (exec_bin .eql 3 _ (.tmp 41) _ rfl (.int .i64 x) (.int .i64 0) _ rfl rfl rfl (HX0.out _)) ?_
  go_frame
  refine wpList_runG 43 rfl (by first | rfl | kernel_rfl) (.bool false) (exec_move (.tmp 42) rfl _ rfl) ?_
  go_frame
  refine wpList_runG 44 rfl (by first | rfl | kernel_rfl) (.pointer (some ⟨a2.heap.size, 1, none⟩)) (exec_fieldAddr 26 (.tmp 6) 1 rfl _ _ rfl (pb_f _ 1 (by decide) _)) ?_
  go_frame
  refine wpList_runG 45 rfl (by first | rfl | kernel_rfl) (.int .i64 0) (exec_load 24 (.tmp 44) rfl _ (.int .i64 0) rfl (run_load_cell er_flat (HQ2.out.cell 1))) ?_
  go_frame
  refine wpList_runG 46 rfl (by first | rfl | kernel_rfl) (.bool true) (exec_eqT _ _ _ _ rfl .i64 0 rfl rfl) ?_
  go_frame
  refine wpList_runG 47 rfl (by first | rfl | kernel_rfl) (.bool true) (exec_move (.tmp 46) rfl _ rfl) ?_
  go_frame
  refine wpList_runG 48 rfl (by first | rfl | kernel_rfl) (.slice A2 T.length c2) (exec_move (.tmp 5) rfl _ rfl) ?_
  go_frame
  refine wpList_runG 49 rfl (by first | rfl | kernel_rfl) (.int .i64 T.length) (exec_lenT (.tmp 48) rfl _ T.length _ rfl) ?_
  go_frame
  refine wpList_runG 50 rfl (by first | rfl | kernel_rfl) (.bool true) (exec_gtrI _ _ _ _ rfl .i64 T.length 0 true ht rfl rfl) ?_
  go_frame
  refine wpList_runG 51 rfl (by first | rfl | kernel_rfl) (.bool true) (exec_pickT _ _ _ rfl (.bool true) rfl rfl) ?_
  go_frame
  refine wpList_runG 52 rfl (by first | rfl | kernel_rfl) (.bool true) (exec_pickF _ _ _ rfl (.bool true) rfl rfl) ?_
  go_frame
  refine wpList_run 53 rfl rfl (.bool true) (exec_pickT _ _ _ rfl (.bool true) rfl rfl) ?_
  go_frame
  refine wpList_run 2 rfl rfl (.bool true) (exec_assign (.tmp 53) rfl _ rfl) ?_
  go_frame
  refine wpList_nil ?_
  go_wp2
  go_ret
  exact ⟨rfl, HW.out⟩
theorem lex_codes {l : List UInt8} {x y e : Nat} (h : lex l x = .bad y e) : e ≠ 0 := by
  revert h
  refine lex_ind (P := fun l x => lex l x = .bad y e → e ≠ 0) (fun x h => by cases h) (fun l x n h _ _ ih hT => ?_) (fun l x k s v n h _ _ ih hT => ?_) (fun c r x e' h hT => ?_) l x
  · rw [lex_skip x h] at hT; exact ih hT
  · rw [lex_tok x h] at hT; exact ih (app_bad hT)
  · rw [lex_bad x h] at hT
    injection hT with _ h2
    subst h2
    exact (step_codes h).2
theorem walk_stops (s : ByteArray) (w : World) (hE : Env w) (hs : s.size ≤ 9223372036854775807) : Calls Tryd.prog 9 #[.string s] w fun e w' => e = .returned (.bool true) ∧ Below w.heap.size w w' := by
  have e : s = sb s.data.toList := (sb_of s).symm
  have hz : s.data.toList.length = s.size := Array.length_toList
  rw [e]
  generalize s.data.toList = l at hz
  rcases Nat.lt_or_ge 2000 l.length with h | h
  · exact stops_long l w hE h (by omega)
  · cases hx : lex l 0 with
    | ok T => exact stops_ok l w hE h T hx
    | bad x k =>
      obtain ⟨p, r, T, e1, e2, e3, e4⟩ := lex_stop l 0 x k hx
      have hrl : 0 < r.length := List.length_pos_iff.2 e3
      have hll : l.length = p.length + r.length := by rw [e1, List.length_append]
      have hk : k ≠ 0 := lex_codes hx
      rw [Nat.zero_add] at e2
      have hp : l.take x = p := by rw [e1, e2, List.take_left]
      rcases Nat.eq_zero_or_pos x with h0 | h0
      · subst h0
        exact stops_zero l w hE h 0 k rfl hk hx (by omega) _ (by rw [hp]; exact e4)
      · exact stops_more l w hE h x k h0 hk hx (by omega) _ (by rw [hp]; exact e4)
end Go.Proofs.YtpibmenlmjfdeaaDoor
