/- The walk of CalendarDatesAsSpecified. -/
import Derived.Test.YtbboadoolgcmaaaDoorCV
import Derived.Test.YtbboadoolgcmaaaDoorCM
namespace Go.Proofs.YtbboadoolgcmaaaDoor
open Go.RowKit Hm Wm Cm

theorem t3_at0 (W : World) (b : Nat) : (Instr.indexAt 22 (.pointer (some ⟨b, 0, none⟩)) (.int .i64 0)).run Tryd.prog W = .ok (.pointer (some ⟨b, 0, none⟩)) W := by kernel_rfl
theorem t3_at1 (W : World) (b : Nat) : (Instr.indexAt 22 (.pointer (some ⟨b, 0, none⟩)) (.int .i64 1)).run Tryd.prog W = .ok (.pointer (some ⟨b, 1, none⟩)) W := by kernel_rfl
theorem t3_at2 (W : World) (b : Nat) : (Instr.indexAt 22 (.pointer (some ⟨b, 0, none⟩)) (.int .i64 2)).run Tryd.prog W = .ok (.pointer (some ⟨b, 2, none⟩)) W := by kernel_rfl
theorem exec_loadE {oi : Oper} {a : Act} {w : World} {g o : Nat} (x : Operand) (ho : oi.op = .load 23 x) (v : Value) (hx : a.eval x = .pointer (some ⟨g, o, none⟩)) (h : w.cell? ⟨g, o, none⟩ = some v) : (execOp a.eval oi).run Tryd.prog w = .ok (.value v) w :=
  exec_load 23 x ho _ _ hx (run_load_cell er_flat h)
theorem exec_eqT {P : Program} {oi : Oper} {a : Act} {w : World} (t : TypeId) (x y : Operand) (rt : TypeId) (ho : oi.op = .binOp .eql t x y rt) (k : IntKind) (m : Int) (hx : a.eval x = .int k m) (hy : a.eval y = .int k m) : (execOp a.eval oi).run P w = .ok (.value (.bool true)) w := by
  have := exec_eqI (P := P) (w := w) t x y rt ho k m m hx hy
  rwa [beq_self_eq_true] at this
theorem run_bsame (b : Bool) (W : World) : (binOp .eql 4 (.bool b) (.bool b)).run Tryd.prog W = .ok (.bool true) W := by
  cases b <;> kernel_rfl
theorem bool_guard (b : Bool) (W : World) (x y : Operand) : (eqGuard .eql 4 x y (.bool b) (.bool b)).run Tryd.prog W = .ok () W := by simp [go_sem]
set_option maxRecDepth 1000000 in
set_option maxHeartbeats 1000000 in
theorem dates_core (d y m x er a b c n fr : Int) (w : World) (hL : Lens w)
    (h15 : ∀ W, Lens W → Calls Tryd.prog 9 #[.int .i64 d] W fun e w' => e = .returned (.tuple #[.int .i64 y, .int .i64 m, .int .i64 x, .int .i64 er]) ∧ W = w')
    (h21 : ∀ W, Calls Tryd.prog 10 #[.int .i64 d] W fun e w' => e = .returned (dtV y m x er) ∧ Below W.heap.size W w')
    (h29 : ∀ W, Lens W → Calls Tryd.prog 11 #[.int .i64 a, .int .i64 b, .int .i64 c] W fun e w' => e = .returned (.tuple #[.int .i64 n, .int .i64 fr]) ∧ W = w')
    (h38 : ∀ W, Calls Tryd.prog 12 #[.int .i64 a, .int .i64 b, .int .i64 c] W fun e w' => e = .returned (nbV n fr) ∧ Below W.heap.size W w') :
    Calls Tryd.prog 3 #[.int .i64 d, .agg #[.int .i64 a, .int .i64 b, .int .i64 c]] w fun e w' => e = .returned (.bool true) ∧ Below w.heap.size w w' := by
  obtain ⟨W1, hW1⟩ : ∃ W, W = w.alloc (.cells #[.int .i64 a, .int .i64 b, .int .i64 c] 22) := ⟨_, rfl⟩
  have hb1 := (Below.refl w.heap.size w).alloc (Nat.le_refl _) (.cells #[.int .i64 a, .int .i64 b, .int .i64 c] 22)
  have hx1 := Blk.new w 22 (b3 a b c)
  have hx1' : Blk W1 w.heap.size 22 (b3 a b c) := by rw [hW1]; exact hx1
  rw [← hW1] at hb1
  have HN := Lib.hid (hL.next hb1)
  have HW := Lib.hid hb1
  have HX3 := Lib.hid hx1'
  have F15 := Lib.hid h15
  have F21 := Lib.hid h21
  have F29 := Lib.hid h29
  have F38 := Lib.hid h38
  have FS := Lib.hid (fun W h => sanity_any W h)
  clear hL h15 h21 h29 h38 hx1 hx1' hb1
  go_enter Tryd.func3, Tryd.ntmps3
  go_wp2_with fail
  rw [← hW1]
  clear hW1
  refine (F15.out _ HN.out).mono ?_
  rintro e w1 ⟨rfl, h0⟩
  subst h0
  go_wp2_with fail
  refine (F21.out _).mono ?_
  rintro e w2 ⟨rfl, hb⟩
  replace HN := Lib.hid (HN.out.next hb)
  replace HW := Lib.hid (HW.out.trans (hb.mono HW.out.size))
  replace HX3 := Lib.hid (HX3.out.next hb)
  clear hb
  go_wp2_with (first | (refine wpList_var rfl rfl 27 9 rfl rfl rfl (.tmp 21) rfl (d4 0 0 0 0) (d4 y m x er) dt_zero rfl rfl rfl dt_size (dt_one _ _ _ _) ?_; intro w3 HX9 HB; replace HN := Lib.hid (HN.out.next HB.out); replace HW := Lib.hid (HW.out.trans (HB.out.mono HW.out.size)); replace HX3 := Lib.hid (HX3.out.next HB.out); clear HB) | (refine wpList_dst 23 rfl ?_; refine wpList_run 23 rfl rfl _ (exec_indexAddr 22 (.tmp 3) (.const (.int .i64 0)) rfl _ _ _ rfl rfl (t3_at0 _ _)) ?_; go_frame) | (refine wpList_dst 24 rfl ?_; refine wpList_run 24 rfl rfl _ (exec_loadI (.tmp 23) rfl (.int .i64 (a)) rfl (HX3.out.cell 0)) ?_; go_frame) | (refine wpList_dst 25 rfl ?_; refine wpList_run 25 rfl rfl _ (exec_indexAddr 22 (.tmp 3) (.const (.int .i64 1)) rfl _ _ _ rfl rfl (t3_at1 _ _)) ?_; go_frame) | (refine wpList_dst 26 rfl ?_; refine wpList_run 26 rfl rfl _ (exec_loadI (.tmp 25) rfl (.int .i64 (b)) rfl (HX3.out.cell 1)) ?_; go_frame) | (refine wpList_dst 27 rfl ?_; refine wpList_run 27 rfl rfl _ (exec_indexAddr 22 (.tmp 3) (.const (.int .i64 2)) rfl _ _ _ rfl rfl (t3_at2 _ _)) ?_; go_frame) | (refine wpList_dst 28 rfl ?_; refine wpList_run 28 rfl rfl _ (exec_loadI (.tmp 27) rfl (.int .i64 (c)) rfl (HX3.out.cell 2)) ?_; go_frame))
  refine (F29.out _ HN.out).mono ?_
  rintro e w4 ⟨rfl, h0⟩
  subst h0
  go_wp2_with (first | (refine wpList_dst 32 rfl ?_; refine wpList_run 32 rfl rfl _ (exec_indexAddr 22 (.tmp 3) (.const (.int .i64 0)) rfl _ _ _ rfl rfl (t3_at0 _ _)) ?_; go_frame) | (refine wpList_dst 33 rfl ?_; refine wpList_run 33 rfl rfl _ (exec_loadI (.tmp 32) rfl (.int .i64 (a)) rfl (HX3.out.cell 0)) ?_; go_frame) | (refine wpList_dst 34 rfl ?_; refine wpList_run 34 rfl rfl _ (exec_indexAddr 22 (.tmp 3) (.const (.int .i64 1)) rfl _ _ _ rfl rfl (t3_at1 _ _)) ?_; go_frame) | (refine wpList_dst 35 rfl ?_; refine wpList_run 35 rfl rfl _ (exec_loadI (.tmp 34) rfl (.int .i64 (b)) rfl (HX3.out.cell 1)) ?_; go_frame) | (refine wpList_dst 36 rfl ?_; refine wpList_run 36 rfl rfl _ (exec_indexAddr 22 (.tmp 3) (.const (.int .i64 2)) rfl _ _ _ rfl rfl (t3_at2 _ _)) ?_; go_frame) | (refine wpList_dst 37 rfl ?_; refine wpList_run 37 rfl rfl _ (exec_loadI (.tmp 36) rfl (.int .i64 (c)) rfl (HX3.out.cell 2)) ?_; go_frame))
  refine (F38.out _).mono ?_
  rintro e w5 ⟨rfl, hb⟩
  replace HN := Lib.hid (HN.out.next hb)
  replace HW := Lib.hid (HW.out.trans (hb.mono HW.out.size))
  replace HX3 := Lib.hid (HX3.out.next hb)
  replace HX9 := Lib.hid (HX9.out.next hb)
  clear hb
  go_wp2_with (first | (refine wpList_var rfl rfl 32 12 rfl rfl rfl (.tmp 38) rfl (n2 0 0) (n2 n fr) nb_zero rfl rfl rfl nb_size (nb_one _ _) ?_; intro w6 HX12 HB; replace HN := Lib.hid (HN.out.next HB.out); replace HW := Lib.hid (HW.out.trans (HB.out.mono HW.out.size)); replace HX3 := Lib.hid (HX3.out.next HB.out); replace HX9 := Lib.hid (HX9.out.next HB.out); clear HB))
  obtain ⟨g9, hg9⟩ : ∃ g, g = w2.heap.size := ⟨_, rfl⟩
  obtain ⟨g12, hg12⟩ : ∃ g, g = w5.heap.size := ⟨_, rfl⟩
  rw [← hg9] at HX9 ⊢
  rw [← hg12] at HX12 ⊢
  clear hg9 hg12
  refine late_begin (S := fun _ W => Blk W w.heap.size 22 (b3 a b c) ∧ Blk W g9 27 (d4 y m x er) ∧ Blk W g12 32 (n2 n fr)) (by kernel_rfl) ?_
  have hN0 := (show Lens w6.drew from HN.out)
  have hW0 := HW.out.drew
  have hX30 := HX3.out.drew
  have hX90 := HX9.out.drew
  have hX120 := HX12.out.drew
  generalize w6.drew = u0 at hN0 hW0 hX30 hX90 hX120 ⊢
  clear HN HW HX3 HX9 HX12
  refine late_one (i := 0) (by kernel_rfl) (op_callG (some 39) rfl rfl (by first | rfl | kernel_rfl) rfl Tryd.func13 (by kernel_rfl) (by kernel_rfl) #[] rfl (FS.out _ hN0) ?_)
  rintro e u1 ⟨rfl, hb⟩
  have hN1 := hN0.next hb
  have hW1 := hW0.trans (hb.mono hW0.size)
  have hX31 := hX30.next hb
  have hX91 := hX90.next hb
  have hX121 := hX120.next hb
  refine ⟨_, rfl, ⟨hX31, hX91, hX121⟩, ?_⟩
  go_frame
  clear hN0 hW0 hX30 hX90 hX120 hb
  refine late_one (i := 1) (by kernel_rfl) (op_valueG (some 40) rfl rfl (by first | rfl | kernel_rfl) (.bool true) (exec_move (.tmp 39) rfl _ rfl) ⟨⟨hX31, hX91, hX121⟩, ?_⟩)
  go_frame
  refine late_take [] (i := 2) (some 41) rfl rfl (by first | rfl | kernel_rfl) (by kernel_rfl) (by kernel_rfl) (by kernel_rfl) (by kernel_rfl) (by kernel_rfl) (fun Ls W h => h) (.int .i64 y) (fun _ _ _ h => h) (fun Ls W hl0 hW => exec_move (.tmp 5) rfl _ rfl) ⟨hX31, hX91, hX121⟩ ⟨hX31, hX91, hX121⟩ ?_
  go_frame
  refine late_take [] (i := 3) (some 42) rfl rfl (by first | rfl | kernel_rfl) (by kernel_rfl) (by kernel_rfl) (by kernel_rfl) (by kernel_rfl) (by kernel_rfl) (fun Ls W h => h) (.pointer (some ⟨g9, 0, none⟩)) (fun _ _ _ h => h) (fun Ls W hl0 hW => exec_fieldAddr 27 (.tmp 9) 0 rfl _ _ rfl (dt_f0 _ _)) ⟨hX31, hX91, hX121⟩ ⟨hX31, hX91, hX121⟩ ?_
  go_frame
  refine late_take [] (i := 4) (some 43) rfl rfl (by first | rfl | kernel_rfl) (by kernel_rfl) (by kernel_rfl) (by kernel_rfl) (by kernel_rfl) (by kernel_rfl) (fun Ls W h => h) (.int .i64 y) (fun _ _ _ h => h) (fun Ls W hl0 hW => exec_loadI (.tmp 42) rfl (.int .i64 y) rfl (hW.2.1.cell 0)) ⟨hX31, hX91, hX121⟩ ⟨hX31, hX91, hX121⟩ ?_
  go_frame
  refine late_one (i := 5) (by kernel_rfl) (op_valueG (some 44) rfl rfl (by first | rfl | kernel_rfl) (.bool true) (exec_eqT _ (.tmp 41) (.tmp 43) _ rfl .i64 y rfl rfl) ⟨⟨hX31, hX91, hX121⟩, ?_⟩)
  go_frame
  refine late_one (i := 6) (by kernel_rfl) (op_valueG (some 45) rfl rfl (by first | rfl | kernel_rfl) (.bool true) (exec_pickT _ _ _ rfl (.bool true) rfl rfl) ⟨⟨hX31, hX91, hX121⟩, ?_⟩)
  go_frame
  refine late_one (i := 7) (by kernel_rfl) (op_valueG (some 46) rfl rfl (by first | rfl | kernel_rfl) (.bool true) (exec_move (.tmp 45) rfl _ rfl) ⟨⟨hX31, hX91, hX121⟩, ?_⟩)
  go_frame
  refine late_take [] (i := 8) (some 47) rfl rfl (by first | rfl | kernel_rfl) (by kernel_rfl) (by kernel_rfl) (by kernel_rfl) (by kernel_rfl) (by kernel_rfl) (fun Ls W h => h) (.int .i64 m) (fun _ _ _ h => h) (fun Ls W hl0 hW => exec_move (.tmp 6) rfl _ rfl) ⟨hX31, hX91, hX121⟩ ⟨hX31, hX91, hX121⟩ ?_
  go_frame
  refine late_take [] (i := 9) (some 48) rfl rfl (by first | rfl | kernel_rfl) (by kernel_rfl) (by kernel_rfl) (by kernel_rfl) (by kernel_rfl) (by kernel_rfl) (fun Ls W h => h) (.pointer (some ⟨g9, 1, none⟩)) (fun _ _ _ h => h) (fun Ls W hl0 hW => exec_fieldAddr 27 (.tmp 9) 1 rfl _ _ rfl (dt_f1 _ _)) ⟨hX31, hX91, hX121⟩ ⟨hX31, hX91, hX121⟩ ?_
  go_frame
  refine late_take [] (i := 10) (some 49) rfl rfl (by first | rfl | kernel_rfl) (by kernel_rfl) (by kernel_rfl) (by kernel_rfl) (by kernel_rfl) (by kernel_rfl) (fun Ls W h => h) (.int .i64 m) (fun _ _ _ h => h) (fun Ls W hl0 hW => exec_loadI (.tmp 48) rfl (.int .i64 m) rfl (hW.2.1.cell 1)) ⟨hX31, hX91, hX121⟩ ⟨hX31, hX91, hX121⟩ ?_
  go_frame
  refine late_one (i := 11) (by kernel_rfl) (op_valueG (some 50) rfl rfl (by first | rfl | kernel_rfl) (.bool true) (exec_eqT _ (.tmp 47) (.tmp 49) _ rfl .i64 m rfl rfl) ⟨⟨hX31, hX91, hX121⟩, ?_⟩)
  go_frame
  refine late_one (i := 12) (by kernel_rfl) (op_valueG (some 51) rfl rfl (by first | rfl | kernel_rfl) (.bool true) (exec_pickT _ _ _ rfl (.bool true) rfl rfl) ⟨⟨hX31, hX91, hX121⟩, ?_⟩)
  go_frame
  refine late_one (i := 13) (by kernel_rfl) (op_valueG (some 52) rfl rfl (by first | rfl | kernel_rfl) (.bool true) (exec_move (.tmp 51) rfl _ rfl) ⟨⟨hX31, hX91, hX121⟩, ?_⟩)
  go_frame
  refine late_take [] (i := 14) (some 53) rfl rfl (by first | rfl | kernel_rfl) (by kernel_rfl) (by kernel_rfl) (by kernel_rfl) (by kernel_rfl) (by kernel_rfl) (fun Ls W h => h) (.int .i64 x) (fun _ _ _ h => h) (fun Ls W hl0 hW => exec_move (.tmp 7) rfl _ rfl) ⟨hX31, hX91, hX121⟩ ⟨hX31, hX91, hX121⟩ ?_
  go_frame
  refine late_take [] (i := 15) (some 54) rfl rfl (by first | rfl | kernel_rfl) (by kernel_rfl) (by kernel_rfl) (by kernel_rfl) (by kernel_rfl) (by kernel_rfl) (fun Ls W h => h) (.pointer (some ⟨g9, 2, none⟩)) (fun _ _ _ h => h) (fun Ls W hl0 hW => exec_fieldAddr 27 (.tmp 9) 2 rfl _ _ rfl (dt_f2 _ _)) ⟨hX31, hX91, hX121⟩ ⟨hX31, hX91, hX121⟩ ?_
  go_frame
  refine late_take [] (i := 16) (some 55) rfl rfl (by first | rfl | kernel_rfl) (by kernel_rfl) (by kernel_rfl) (by kernel_rfl) (by kernel_rfl) (by kernel_rfl) (fun Ls W h => h) (.int .i64 x) (fun _ _ _ h => h) (fun Ls W hl0 hW => exec_loadI (.tmp 54) rfl (.int .i64 x) rfl (hW.2.1.cell 2)) ⟨hX31, hX91, hX121⟩ ⟨hX31, hX91, hX121⟩ ?_
  go_frame
  refine late_one (i := 17) (by kernel_rfl) (op_valueG (some 56) rfl rfl (by first | rfl | kernel_rfl) (.bool true) (exec_eqT _ (.tmp 53) (.tmp 55) _ rfl .i64 x rfl rfl) ⟨⟨hX31, hX91, hX121⟩, ?_⟩)
  go_frame
  refine late_one (i := 18) (by kernel_rfl) (op_valueG (some 57) rfl rfl (by first | rfl | kernel_rfl) (.bool true) (exec_pickT _ _ _ rfl (.bool true) rfl rfl) ⟨⟨hX31, hX91, hX121⟩, ?_⟩)
  go_frame
  refine late_one (i := 19) (by kernel_rfl) (op_valueG (some 58) rfl rfl (by first | rfl | kernel_rfl) (.bool true) (exec_move (.tmp 57) rfl _ rfl) ⟨⟨hX31, hX91, hX121⟩, ?_⟩)
  go_frame
  refine late_take [] (i := 20) (some 59) rfl rfl (by first | rfl | kernel_rfl) (by kernel_rfl) (by kernel_rfl) (by kernel_rfl) (by kernel_rfl) (by kernel_rfl) (fun Ls W h => h) (.int .i64 er) (fun _ _ _ h => h) (fun Ls W hl0 hW => exec_move (.tmp 8) rfl _ rfl) ⟨hX31, hX91, hX121⟩ ⟨hX31, hX91, hX121⟩ ?_
  go_frame
  refine late_take [] (i := 21) (some 60) rfl rfl (by first | rfl | kernel_rfl) (by kernel_rfl) (by kernel_rfl) (by kernel_rfl) (by kernel_rfl) (by kernel_rfl) (fun Ls W h => h) (.pointer (some ⟨g9, 3, none⟩)) (fun _ _ _ h => h) (fun Ls W hl0 hW => exec_fieldAddr 27 (.tmp 9) 3 rfl _ _ rfl (dt_f3 _ _)) ⟨hX31, hX91, hX121⟩ ⟨hX31, hX91, hX121⟩ ?_
  go_frame
  refine late_take [] (i := 22) (some 61) rfl rfl (by first | rfl | kernel_rfl) (by kernel_rfl) (by kernel_rfl) (by kernel_rfl) (by kernel_rfl) (by kernel_rfl) (fun Ls W h => h) (.int .i64 er) (fun _ _ _ h => h) (fun Ls W hl0 hW => exec_loadE (.tmp 60) rfl (.int .i64 er) rfl (hW.2.1.cell 3)) ⟨hX31, hX91, hX121⟩ ⟨hX31, hX91, hX121⟩ ?_
  go_frame
  refine late_one (i := 23) (by kernel_rfl) (op_valueG (some 62) rfl rfl (by first | rfl | kernel_rfl) (.bool true) (exec_eqT _ (.tmp 59) (.tmp 61) _ rfl .i64 er rfl rfl) ⟨⟨hX31, hX91, hX121⟩, ?_⟩)
  go_frame
  refine late_one (i := 24) (by kernel_rfl) (op_valueG (some 63) rfl rfl (by first | rfl | kernel_rfl) (.bool true) (exec_pickT _ _ _ rfl (.bool true) rfl rfl) ⟨⟨hX31, hX91, hX121⟩, ?_⟩)
  go_frame
  refine late_one (i := 25) (by kernel_rfl) (op_valueG (some 64) rfl rfl (by first | rfl | kernel_rfl) (.bool true) (exec_move (.tmp 63) rfl _ rfl) ⟨⟨hX31, hX91, hX121⟩, ?_⟩)
  go_frame
  refine late_take [] (i := 26) (some 65) rfl rfl (by first | rfl | kernel_rfl) (by kernel_rfl) (by kernel_rfl) (by kernel_rfl) (by kernel_rfl) (by kernel_rfl) (fun Ls W h => h) (.int .i64 n) (fun _ _ _ h => h) (fun Ls W hl0 hW => exec_move (.tmp 10) rfl _ rfl) ⟨hX31, hX91, hX121⟩ ⟨hX31, hX91, hX121⟩ ?_
  go_frame
  refine late_take [] (i := 27) (some 66) rfl rfl (by first | rfl | kernel_rfl) (by kernel_rfl) (by kernel_rfl) (by kernel_rfl) (by kernel_rfl) (by kernel_rfl) (fun Ls W h => h) (.pointer (some ⟨g12, 0, none⟩)) (fun _ _ _ h => h) (fun Ls W hl0 hW => exec_fieldAddr 32 (.tmp 12) 0 rfl _ _ rfl (nb_f0 _ _)) ⟨hX31, hX91, hX121⟩ ⟨hX31, hX91, hX121⟩ ?_
  go_frame
  refine late_take [] (i := 28) (some 67) rfl rfl (by first | rfl | kernel_rfl) (by kernel_rfl) (by kernel_rfl) (by kernel_rfl) (by kernel_rfl) (by kernel_rfl) (fun Ls W h => h) (.int .i64 n) (fun _ _ _ h => h) (fun Ls W hl0 hW => exec_loadI (.tmp 66) rfl (.int .i64 n) rfl (hW.2.2.cell 0)) ⟨hX31, hX91, hX121⟩ ⟨hX31, hX91, hX121⟩ ?_
  go_frame
  refine late_one (i := 29) (by kernel_rfl) (op_valueG (some 68) rfl rfl (by first | rfl | kernel_rfl) (.bool true) (exec_eqT _ (.tmp 65) (.tmp 67) _ rfl .i64 n rfl rfl) ⟨⟨hX31, hX91, hX121⟩, ?_⟩)
  go_frame
  refine late_one (i := 30) (by kernel_rfl) (op_valueG (some 69) rfl rfl (by first | rfl | kernel_rfl) (.bool true) (exec_pickT _ _ _ rfl (.bool true) rfl rfl) ⟨⟨hX31, hX91, hX121⟩, ?_⟩)
  go_frame
  refine late_one (i := 31) (by kernel_rfl) (op_valueG (some 70) rfl rfl (by first | rfl | kernel_rfl) (.bool true) (exec_move (.tmp 69) rfl _ rfl) ⟨⟨hX31, hX91, hX121⟩, ?_⟩)
  go_frame
  refine late_take [] (i := 32) (some 71) rfl rfl (by first | rfl | kernel_rfl) (by kernel_rfl) (by kernel_rfl) (by kernel_rfl) (by kernel_rfl) (by kernel_rfl) (fun Ls W h => h) (.int .i64 fr) (fun _ _ _ h => h) (fun Ls W hl0 hW => exec_move (.tmp 11) rfl _ rfl) ⟨hX31, hX91, hX121⟩ ⟨hX31, hX91, hX121⟩ ?_
  go_frame
  refine late_take [] (i := 33) (some 72) rfl rfl (by first | rfl | kernel_rfl) (by kernel_rfl) (by kernel_rfl) (by kernel_rfl) (by kernel_rfl) (by kernel_rfl) (fun Ls W h => h) (.pointer (some ⟨g12, 1, none⟩)) (fun _ _ _ h => h) (fun Ls W hl0 hW => exec_fieldAddr 32 (.tmp 12) 1 rfl _ _ rfl (nb_f1 _ _)) ⟨hX31, hX91, hX121⟩ ⟨hX31, hX91, hX121⟩ ?_
  go_frame
  refine late_take [] (i := 34) (some 73) rfl rfl (by first | rfl | kernel_rfl) (by kernel_rfl) (by kernel_rfl) (by kernel_rfl) (by kernel_rfl) (by kernel_rfl) (fun Ls W h => h) (.int .i64 fr) (fun _ _ _ h => h) (fun Ls W hl0 hW => exec_loadE (.tmp 72) rfl (.int .i64 fr) rfl (hW.2.2.cell 1)) ⟨hX31, hX91, hX121⟩ ⟨hX31, hX91, hX121⟩ ?_
  go_frame
  refine late_one (i := 35) (by kernel_rfl) (op_valueG (some 74) rfl rfl (by first | rfl | kernel_rfl) (.bool true) (exec_eqT _ (.tmp 71) (.tmp 73) _ rfl .i64 fr rfl rfl) ⟨⟨hX31, hX91, hX121⟩, ?_⟩)
  go_frame
  refine late_one (i := 36) (by kernel_rfl) (op_valueG (some 75) rfl rfl (by first | rfl | kernel_rfl) (.bool true) (exec_pickT _ _ _ rfl (.bool true) rfl rfl) ⟨⟨hX31, hX91, hX121⟩, ?_⟩)
  go_frame
  refine late_one (i := 37) (by kernel_rfl) (op_valueG (some 76) rfl rfl (by first | rfl | kernel_rfl) (.bool true) (exec_move (.tmp 75) rfl _ rfl) ⟨⟨hX31, hX91, hX121⟩, ?_⟩)
  go_frame
  refine late_take [] (i := 38) (some 77) rfl rfl (by first | rfl | kernel_rfl) (by kernel_rfl) (by kernel_rfl) (by kernel_rfl) (by kernel_rfl) (by kernel_rfl) (fun Ls W h => h) (.pointer (some ⟨w.heap.size, 0, none⟩)) (fun _ _ _ h => h) (fun Ls W hl0 hW => exec_indexAddr 22 (.tmp 3) (.const (.int .i64 0)) rfl _ _ _ rfl rfl (t3_at0 _ _)) ⟨hX31, hX91, hX121⟩ ⟨hX31, hX91, hX121⟩ ?_
  go_frame
  refine late_take [] (i := 39) (some 78) rfl rfl (by first | rfl | kernel_rfl) (by kernel_rfl) (by kernel_rfl) (by kernel_rfl) (by kernel_rfl) (by kernel_rfl) (fun Ls W h => h) (.int .i64 a) (fun _ _ _ h => h) (fun Ls W hl0 hW => exec_loadI (.tmp 77) rfl (.int .i64 a) rfl (hW.1.cell 0)) ⟨hX31, hX91, hX121⟩ ⟨hX31, hX91, hX121⟩ ?_
  go_frame
  refine late_take [] (i := 41) (some 80) rfl rfl (by first | rfl | kernel_rfl) (by kernel_rfl) (by kernel_rfl) (by kernel_rfl) (by kernel_rfl) (by kernel_rfl) (fun Ls W h => h) (.pointer (some ⟨w.heap.size, 0, none⟩)) (fun _ _ _ h => h) (fun Ls W hl0 hW => exec_indexAddr 22 (.tmp 3) (.const (.int .i64 0)) rfl _ _ _ rfl rfl (t3_at0 _ _)) ⟨hX31, hX91, hX121⟩ ⟨hX31, hX91, hX121⟩ ?_
  go_frame
  refine late_take [] (i := 42) (some 81) rfl rfl (by first | rfl | kernel_rfl) (by kernel_rfl) (by kernel_rfl) (by kernel_rfl) (by kernel_rfl) (by kernel_rfl) (fun Ls W h => h) (.int .i64 a) (fun _ _ _ h => h) (fun Ls W hl0 hW => exec_loadI (.tmp 80) rfl (.int .i64 a) rfl (hW.1.cell 0)) ⟨hX31, hX91, hX121⟩ ⟨hX31, hX91, hX121⟩ ?_
  go_frame
  refine late_one (i := 40) (by kernel_rfl) (op_callG (some 79) rfl rfl (by first | rfl | kernel_rfl) rfl Tryd.func14 (by kernel_rfl) (by kernel_rfl) #[.int .i64 a] rfl (leap_any a _) ?_)
  rintro e u2 ⟨rfl, h0⟩
  have hb : Below u1.heap.size u1 u2 := by rw [← h0]; exact Below.refl _ _
  have hN2 := hN1.next hb
  have hW2 := hW1.trans (hb.mono hW1.size)
  have hX32 := hX31.next hb
  have hX92 := hX91.next hb
  have hX122 := hX121.next hb
  refine ⟨_, rfl, ⟨hX32, hX92, hX122⟩, ?_⟩
  go_frame
  clear hN1 hW1 hX31 hX91 hX121 hb
  clear h0
  refine late_one (i := 43) (by kernel_rfl) (op_callG (some 82) rfl rfl (by first | rfl | kernel_rfl) rfl Tryd.func15 (by kernel_rfl) (by kernel_rfl) #[.int .i64 a] rfl (rleap_any a _) ?_)
  rintro e u3 ⟨rfl, h0⟩
  have hb : Below u2.heap.size u2 u3 := by rw [← h0]; exact Below.refl _ _
  have hN3 := hN2.next hb
  have hW3 := hW2.trans (hb.mono hW2.size)
  have hX33 := hX32.next hb
  have hX93 := hX92.next hb
  have hX123 := hX122.next hb
  refine ⟨_, rfl, ⟨hX33, hX93, hX123⟩, ?_⟩
  go_frame
  clear hN2 hW2 hX32 hX92 hX122 hb
  clear h0
  refine late_one (i := 44) (by kernel_rfl) (op_valueG (some 83) rfl rfl (by first | rfl | kernel_rfl) (.bool true) (exec_bin .eql 4 _ (.tmp 79) (.tmp 82) rfl (.bool (lpI a)) (.bool (lpI a)) _ rfl rfl (bool_guard _ _ _ _) (run_bsame _ _)) ⟨⟨hX33, hX93, hX123⟩, ?_⟩)
  go_frame
  refine late_one (i := 45) (by kernel_rfl) (op_valueG (some 84) rfl rfl (by first | rfl | kernel_rfl) (.bool true) (exec_pickT _ _ _ rfl (.bool true) rfl rfl) ⟨⟨hX33, hX93, hX123⟩, ?_⟩)
  go_frame
  refine late_one (i := 46) (by kernel_rfl) (op_valueG (some 4) rfl rfl (by first | rfl | kernel_rfl) (.bool true) (exec_assign (.tmp 84) rfl _ rfl) ⟨⟨hX33, hX93, hX123⟩, late_done (by kernel_rfl) ?_ _⟩)
  go_frame
  have HN := Lib.hid hN3
  have HW := Lib.hid hW3
  have HX3 := Lib.hid hX33
  have HX9 := Lib.hid hX93
  have HX12 := Lib.hid hX123
  clear hN3 hW3 hX33 hX93 hX123
  go_wp2
  go_ret
  exact ⟨rfl, HW.out⟩
theorem walk_dates (d a b c : Int) (w : World) (hL : Lens w) : Calls Tryd.prog 3 #[.int .i64 d, .agg #[.int .i64 a, .int .i64 b, .int .i64 c]] w fun e w' => e = .returned (.bool true) ∧ Below w.heap.size w w' := by
  have h1 : ∃ y m x er : Int, (∀ W, Lens W → Calls Tryd.prog 9 #[.int .i64 d] W fun e w' => e = .returned (.tuple #[.int .i64 y, .int .i64 m, .int .i64 x, .int .i64 er]) ∧ W = w') ∧
      (∀ W, Calls Tryd.prog 10 #[.int .i64 d] W fun e w' => e = .returned (dtV y m x er) ∧ Below W.heap.size W w') := by
    by_cases h : d < 0 ∨ 14609 < d
    · exact ⟨0, 0, 0, 3, fun W _ => date_no d W h, fun W => rdate_no d W h⟩
    · obtain ⟨D, rfl⟩ : ∃ D : Nat, d = (D : Int) := ⟨d.toNat, by omega⟩
      have hD : D < 14610 := by omega
      exact ⟨_, _, _, _, fun W hl => date_yes D W hl hD, fun W => rdate_yes D W hD⟩
  have h2 : ∃ n fr : Int, (∀ W, Lens W → Calls Tryd.prog 11 #[.int .i64 a, .int .i64 b, .int .i64 c] W fun e w' => e = .returned (.tuple #[.int .i64 n, .int .i64 fr]) ∧ W = w') ∧
      (∀ W, Calls Tryd.prog 12 #[.int .i64 a, .int .i64 b, .int .i64 c] W fun e w' => e = .returned (nbV n fr) ∧ Below W.heap.size W w') := by
    by_cases h : dateOk a b c
    · obtain ⟨k1, k2, k3, k4, k5, k6⟩ := h
      obtain ⟨j, hj⟩ : ∃ j : Nat, a = 2000 + (j : Int) := ⟨(a - 2000).toNat, by omega⟩
      obtain ⟨m, hm⟩ : ∃ m : Nat, b = (m : Int) + 1 := ⟨(b - 1).toNat, by omega⟩
      obtain ⟨x, hx⟩ : ∃ x : Nat, c = (x : Int) + 1 := ⟨(c - 1).toNat, by omega⟩
      have hm12 : m < 12 := by omega
      have hl : x < mlen (12 * j + m) := by
        rw [hj, hm, show ((m : Int) + 1 - 1).toNat = m from by omega, mlI_yr j hm12] at k6
        omega
      exact ⟨_, _, fun W h' => day_yes j m x a b c W h' (by omega) hm12 hl hj hm hx, fun W => rday_yes j m x a b c W (by omega) hm12 hl hj hm hx⟩
    · exact ⟨_, _, fun W h' => day_no a b c W h' h, fun W => rday_no a b c W h⟩
  obtain ⟨y, m, x, er, e1, e2⟩ := h1
  obtain ⟨n, fr, e3, e4⟩ := h2
  exact dates_core d y m x er a b c n fr w hL e1 e2 e3 e4
end Go.Proofs.YtbboadoolgcmaaaDoor
