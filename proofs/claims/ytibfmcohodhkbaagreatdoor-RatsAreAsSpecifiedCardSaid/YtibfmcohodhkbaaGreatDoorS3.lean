/- The reference: Neg. -/
import Derived.Test.YtibfmcohodhkbaaGreatDoorS2
namespace Go.Proofs.YtibfmcohodhkbaaGreatDoor
open Go.RowKit Hm Wm Wn

theorem fa_api_Rat_0_0 (g : Nat) (W : World) : (Instr.fieldAt 23 (.pointer (some ⟨g, 0, none⟩)) 0).run Tryz.prog W = .ok (.pointer (some ⟨g, 0, none⟩)) W := by kernel_rfl
theorem size_bool : (Tryz.prog.info? 4).map (·.size) = some 1 := by kernel_rfl
section
variable {ops : Array Oper} {rest : List Oper} {o op : Oper} {a : Act} {w : World} {Q : Exit → Act → World → Prop} {K : Act → World → Prop}
theorem run_store_at (ty : TypeId) (g o : Nat) (t : TypeId) (cur : List Value) (v : Value) (hb : Blk w g t cur) (hl : o < cur.length) (hi : (Tryz.prog.info? ty).map (·.size) = some 1) (h1 : v.oneCell' = true) (hv : v.cells = #[v]) :
    (Instr.storeAt ty (.pointer (some ⟨g, o, none⟩)) v).run Tryz.prog w = .ok () (w.setRow g (cur.set o v).toArray) := by
  have hs := run_storeCells_at Tryz.prog g o t [v] 0 cur.toArray w hb (by simp; omega) (by intro u hu; rw [List.mem_singleton.1 hu]; exact h1)
  have hsp : splice cur o [v] = cur.set o v := by
    unfold splice
    rw [List.set_eq_take_append_cons_drop, if_pos hl]
    simp
  cases hq : Tryz.prog.info? ty with
  | none => rw [hq] at hi; cases hi
  | some i =>
    have hsz : i.size = 1 := by rw [hq] at hi; simpa using hi
    have e : (splice cur o [v]).toArray = (cur.toArray.toList.take (o + 0) ++ [v] ++ cur.toArray.toList.drop (o + 0 + [v].length)).toArray := by simp [splice]
    rw [← hsp, e, ← hs]
    simp [Instr.storeAt, Instr.sureAddr, storeVar, sizeOf, typeInfo, hq, hv, hsz]
theorem wp_store_at (ty : TypeId) (x y : Operand) (ho : op.op = .store ty x y) (g o : Nat) (t : TypeId) (cur : List Value) (v : Value) (hx : a.eval x = .pointer (some ⟨g, o, none⟩)) (hy : a.eval y = v) (hb : Blk w g t cur) (hl : o < cur.length)
    (hi : (Tryz.prog.info? ty).map (·.size) = some 1) (h1 : v.oneCell' = true) (hv : v.cells = #[v]) (h : ∀ w', Blk w' g t (cur.set o v) → Only g w w' → K (a.put op.dst undef) w') : op.wp Tryz.prog a w K Q := by
  have hrun := run_store_at ty g o t cur v hb hl hi h1 hv
  unfold Oper.wp execOp
  simp only [ho, hx, hy, Sem.run_bind, hrun, Result.andThen_ok]
  exact h _ (setRow_heap w g _ _ t _ hb) (Only.setRow w g _)
theorem wpList_store_at (hgd : op.guard = none) (ty : TypeId) (x y : Operand) (ho : op.op = .store ty x y) (g o : Nat) (t : TypeId) (cur : List Value) (v : Value) (hx : a.eval x = .pointer (some ⟨g, o, none⟩)) (hy : a.eval y = v) (hb : Blk w g t cur) (hl : o < cur.length)
    (hi : (Tryz.prog.info? ty).map (·.size) = some 1) (h1 : v.oneCell' = true) (hv : v.cells = #[v]) (h : ∀ w', Hid (Blk w' g t (cur.set o v)) → Only g w w' → wpList Tryz.prog ops Q rest (a.put op.dst undef) w') : wpList Tryz.prog ops Q (op :: rest) a w :=
  wpList_plain hgd fun _ hK => wp_store_at ty x y ho g o t cur v hx hy hb hl hi h1 hv fun w' e1 e2 => hK _ _ (h w' e1 e2)
end
set_option maxRecDepth 100000 in
set_option maxHeartbeats 800000 in
theorem neg5_nil (x a : Rv) (w : World) (h8 : decide (a.n ≠ ⟨#[]⟩) = false) (h5 : (∀ W, Calls Tryz.prog 50 #[.agg #[.bool x.neg, .string x.n, .string x.d]] W fun e w' => e = .returned (.agg #[.bool a.neg, .string a.n, .string a.d]) ∧ Below W.heap.size W w')) : Calls Tryz.prog 21 #[.agg #[.bool x.neg, .string x.n, .string x.d]] w fun e w' => e = .returned (.agg #[.bool a.neg, .string a.n, .string a.d]) ∧ Below w.heap.size w w' := by
  have HK := two_vars w 23 23 [.bool x.neg, .string x.n, .string x.d] [.bool false, .string ⟨#[]⟩, .string ⟨#[]⟩]
  have HX := Lib.hid HK.1
  have HZ := Lib.hid HK.2.1
  have HW := Lib.hid HK.2.2
  have F5 := Lib.hid h5
  have H8 := Lib.hid (fun W => run_neqS a.n ⟨#[]⟩ false h8 W)
  clear h5 h8 HK
  go_enter Tryz.func21, Tryz.ntmps21
  go_wp2_with fail
  refine (F5.out _).mono ?_
  rintro e w1 ⟨rfl, hb⟩
  replace HX := Lib.hid (HX.out.next hb)
  replace HZ := Lib.hid (HZ.out.next hb)
  replace HW := Lib.hid (HW.out.trans (hb.mono HW.out.size))
  clear hb
  have hg : w.heap.size + 1 < w1.heap.size := HZ.out.lt
  have HG := Lib.hid hg
  clear hg HX
  go_wp2_with (first | (refine wpList_var rfl rfl 23 3 rfl rfl rfl (.tmp 5) rfl [.bool false, .string ByteArray.empty, .string ByteArray.empty] [.bool a.neg, .string a.n, .string a.d] zero_api_Rat rfl rfl rfl size_api_Rat (List.forall_mem_cons.2 ⟨rfl, (List.forall_mem_cons.2 ⟨rfl, (List.forall_mem_cons.2 ⟨rfl, fun _ h => nomatch h⟩)⟩)⟩) ?_; intro w2 HD HBw; replace HZ := Lib.hid (HZ.out.next HBw.out); replace HW := Lib.hid (HW.out.trans (HBw.out.mono HW.out.size)); clear HBw) | (refine wpList_dst 8 rfl ?_; refine wpList_run 8 rfl rfl _ (exec_bin .neq 9 _ (.tmp 7) (.const (.string ⟨#[]⟩)) rfl _ _ _ rfl rfl rfl (H8.out _)) ?_; go_frame) | (refine wpList_store_all rfl 23 (.tmp 2) (.tmp 13) rfl (w.heap.size + 1) _ [.bool false, .string ⟨#[]⟩, .string ⟨#[]⟩] [.bool a.neg, .string a.n, .string a.d] rfl rfl HZ.out rfl qr_size (List.forall_mem_cons.2 ⟨rfl, (List.forall_mem_cons.2 ⟨rfl, (List.forall_mem_cons.2 ⟨rfl, fun _ h => nomatch h⟩)⟩)⟩) ?_; intro w9 HK9 ho9; have HO9 := Lib.hid ho9; clear ho9) | (refine wpList_dst 6 rfl ?_; refine wpList_run 6 rfl rfl _ (exec_fieldAddr 23 (.tmp 3) 1 rfl _ _ rfl (fa_api_Rat_1_0 _ _)) ?_; go_frame) | (refine wpList_dst 7 rfl ?_; refine wpList_run 7 rfl rfl _ (exec_load 9 (.tmp 6) rfl _ (.string a.n) rfl (run_load_cell flat_string (HD.out.cell 1))) ?_; go_frame) | (refine wpList_dst 9 rfl ?_; refine wpList_run 9 rfl rfl _ (exec_fieldAddr 23 (.tmp 3) 0 rfl _ _ rfl (fa_api_Rat_0_0 _ _)) ?_; go_frame) | (refine wpList_dst 10 rfl ?_; refine wpList_run 10 rfl rfl _ (exec_load 4 (.tmp 9) rfl _ (.bool a.neg) rfl (run_load_cell flat_bool (HD.out.cell 0))) ?_; go_frame) | (refine wpList_dst 12 rfl ?_; refine wpList_run 12 rfl rfl _ (exec_fieldAddr 23 (.tmp 3) 0 rfl _ _ rfl (fa_api_Rat_0_0 _ _)) ?_; go_frame) | (refine wpList_dst 13 rfl ?_; refine wpList_run 13 rfl rfl _ (exec_load 23 (.tmp 3) rfl _ (.agg #[.bool a.neg, .string a.n, .string a.d]) rfl (run_load_part _ 23 _ 0 3 _ [.bool a.neg, .string a.n, .string a.d] _ HD.out (by simp) Tryz.underlying23 rfl size_api_Rat)) ?_; go_frame))
  exact bodyPost_ret (results_blk rfl _ _ (w.heap.size + 1) _ [.bool a.neg, .string a.n, .string a.d] _ rfl HK9.out Tryz.underlying23 rfl qr_size) rfl ⟨rfl, HW.out.trans (HO9.out.below (by omega))⟩
set_option maxRecDepth 100000 in
set_option maxHeartbeats 800000 in
theorem neg5_full (x a : Rv) (w : World) (h8 : decide (a.n ≠ ⟨#[]⟩) = true) (h5 : (∀ W, Calls Tryz.prog 50 #[.agg #[.bool x.neg, .string x.n, .string x.d]] W fun e w' => e = .returned (.agg #[.bool a.neg, .string a.n, .string a.d]) ∧ Below W.heap.size W w')) : Calls Tryz.prog 21 #[.agg #[.bool x.neg, .string x.n, .string x.d]] w fun e w' => e = .returned (.agg #[.bool (!a.neg), .string a.n, .string a.d]) ∧ Below w.heap.size w w' := by
  have HK := two_vars w 23 23 [.bool x.neg, .string x.n, .string x.d] [.bool false, .string ⟨#[]⟩, .string ⟨#[]⟩]
  have HX := Lib.hid HK.1
  have HZ := Lib.hid HK.2.1
  have HW := Lib.hid HK.2.2
  have F5 := Lib.hid h5
  have H8 := Lib.hid (fun W => run_neqS a.n ⟨#[]⟩ true h8 W)
  clear h5 h8 HK
  go_enter Tryz.func21, Tryz.ntmps21
  go_wp2_with fail
  refine (F5.out _).mono ?_
  rintro e w1 ⟨rfl, hb⟩
  replace HX := Lib.hid (HX.out.next hb)
  replace HZ := Lib.hid (HZ.out.next hb)
  replace HW := Lib.hid (HW.out.trans (hb.mono HW.out.size))
  clear hb
  have hg : w.heap.size + 1 < w1.heap.size := HZ.out.lt
  have HG := Lib.hid hg
  clear hg HX
  go_wp2_with (first | (refine wpList_var rfl rfl 23 3 rfl rfl rfl (.tmp 5) rfl [.bool false, .string ByteArray.empty, .string ByteArray.empty] [.bool a.neg, .string a.n, .string a.d] zero_api_Rat rfl rfl rfl size_api_Rat (List.forall_mem_cons.2 ⟨rfl, (List.forall_mem_cons.2 ⟨rfl, (List.forall_mem_cons.2 ⟨rfl, fun _ h => nomatch h⟩)⟩)⟩) ?_; intro w2 HD HBw; replace HZ := Lib.hid (HZ.out.next HBw.out); replace HW := Lib.hid (HW.out.trans (HBw.out.mono HW.out.size)); clear HBw) | (refine wpList_dst 8 rfl ?_; refine wpList_run 8 rfl rfl _ (exec_bin .neq 9 _ (.tmp 7) (.const (.string ⟨#[]⟩)) rfl _ _ _ rfl rfl rfl (H8.out _)) ?_; go_frame) | (refine wpList_dst 6 rfl ?_; refine wpList_run 6 rfl rfl _ (exec_fieldAddr 23 (.tmp 3) 1 rfl _ _ rfl (fa_api_Rat_1_0 _ _)) ?_; go_frame) | (refine wpList_dst 7 rfl ?_; refine wpList_run 7 rfl rfl _ (exec_load 9 (.tmp 6) rfl _ (.string a.n) rfl (run_load_cell flat_string (HD.out.cell 1))) ?_; go_frame) | (refine wpList_dst 9 rfl ?_; refine wpList_run 9 rfl rfl _ (exec_fieldAddr 23 (.tmp 3) 0 rfl _ _ rfl (fa_api_Rat_0_0 _ _)) ?_; go_frame) | (refine wpList_dst 10 rfl ?_; refine wpList_run 10 rfl rfl _ (exec_load 4 (.tmp 9) rfl _ (.bool a.neg) rfl (run_load_cell flat_bool (HD.out.cell 0))) ?_; go_frame) | (refine wpList_dst 12 rfl ?_; refine wpList_run 12 rfl rfl _ (exec_fieldAddr 23 (.tmp 3) 0 rfl _ _ rfl (fa_api_Rat_0_0 _ _)) ?_; go_frame) | (refine wpList_store_at rfl 4 (.tmp 12) (.tmp 11) rfl _ 0 _ [.bool a.neg, .string a.n, .string a.d] (.bool (!a.neg)) rfl rfl HD.out (by simp) size_bool rfl rfl ?_; intro w8 HE ho8; have HZ2 := Lib.hid (ho8.blk HZ.out (by have := HG.out; omega)); have HW2 := Lib.hid (HW.out.trans (ho8.below (by have := HG.out; omega))); clear ho8) | (refine wpList_dst 13 rfl ?_; refine wpList_run 13 rfl rfl _ (exec_load 23 (.tmp 3) rfl _ (.agg #[.bool (!a.neg), .string a.n, .string a.d]) rfl (run_load_part _ 23 _ 0 3 _ [.bool (!a.neg), .string a.n, .string a.d] _ HE.out (by simp) Tryz.underlying23 rfl size_api_Rat)) ?_; go_frame) | (refine wpList_store_all rfl 23 (.tmp 2) (.tmp 13) rfl (w.heap.size + 1) _ [.bool false, .string ⟨#[]⟩, .string ⟨#[]⟩] [.bool (!a.neg), .string a.n, .string a.d] rfl rfl HZ2.out rfl qr_size (List.forall_mem_cons.2 ⟨rfl, (List.forall_mem_cons.2 ⟨rfl, (List.forall_mem_cons.2 ⟨rfl, fun _ h => nomatch h⟩)⟩)⟩) ?_; intro w9 HK9 ho9; have HO9 := Lib.hid ho9; clear ho9))
  exact bodyPost_ret (results_blk rfl _ _ (w.heap.size + 1) _ [.bool (!a.neg), .string a.n, .string a.d] _ rfl HK9.out Tryz.underlying23 rfl qr_size) rfl ⟨rfl, HW2.out.trans (HO9.out.below (by omega))⟩
theorem fr_neg {q : Rat} (h : q ≠ 0) : fr (-q) = ⟨!(fr q).neg, (fr q).n, (fr q).d⟩ := by
  have h0 : q.num ≠ 0 := fun e => h (Rat.num_eq_zero.1 e)
  refine fr_of (by rw [show (-q).num = -q.num from rfl, Int.natAbs_neg]) rfl (fun _ => ?_) (fun e => absurd e (num_ne h))
  rw [show (-q).num = -q.num from rfl]
  show decide (-q.num < 0) = !decide (q.num < 0)
  by_cases h1 : q.num < 0
  · rw [decide_eq_true h1, decide_eq_false (by omega)]; rfl
  · rw [decide_eq_false h1, decide_eq_true (by omega)]; rfl
theorem rneg_any (x : Rv) (w : World) (hx : szR 10000 x) : Calls Tryz.prog 21 #[rv x] w fun e w' => e = .returned (rv (rt (-valR x))) ∧ Below w.heap.size w w' := by
  by_cases h : valR x = 0
  · have h1 := neg5_nil x (rt (valR x)) w (by rw [h, rt_zero]; rfl) (fun W => rcl_any x W hx)
    rw [h] at h1
    rw [h, Rat.neg_zero]
    exact h1
  · have hn : -valR x ≠ 0 := fun e => h (by rw [← Rat.neg_neg (valR x), e, Rat.neg_zero])
    have e0 : rt (valR x) = fr (valR x) := by unfold rt; rw [if_neg h]
    have e1 : rt (-valR x) = fr (-valR x) := by unfold rt; rw [if_neg hn]
    rw [e1, fr_neg h]
    have h1 := neg5_full x (rt (valR x)) w (by rw [e0]; exact decide_eq_true (num_nil h)) (fun W => rcl_any x W hx)
    rw [e0] at h1
    exact h1
end Go.Proofs.YtibfmcohodhkbaaGreatDoor
