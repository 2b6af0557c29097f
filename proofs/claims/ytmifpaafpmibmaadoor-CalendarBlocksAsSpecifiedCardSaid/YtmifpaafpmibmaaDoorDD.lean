/- The reference's Interval and Valid. -/
import Derived.Test.YtmifpaafpmibmaaDoorDC
namespace Go.Proofs.YtmifpaafpmibmaaDoor
open Go.RowKit Hm Wm Cm

set_option maxRecDepth 100000 in
set_option maxHeartbeats 400000 in
theorem rint_any (f t : Int) (w : World) : Calls Tryd.prog 14 #[.int .i64 f, .int .i64 t] w fun e w' => e = .returned (.bool (intB f t)) ∧ w = w' := by
  by_cases h1 : 0 ≤ f
  · by_cases h2 : f ≤ t
    · by_cases h3 : t ≤ 1402560
      · have HR := Lib.hid (show intB f t = true from decide_eq_true ⟨h1, h2, h3⟩)
        go_enter Tryd.func14, Tryd.ntmps14
        go_wp2
        go_ret
        exact ⟨by rw [HR.out]; rfl, rfl⟩
      · have HR := Lib.hid (show intB f t = false from decide_eq_false fun h => h3 h.2.2)
        go_enter Tryd.func14, Tryd.ntmps14
        go_wp2
        go_ret
        exact ⟨by rw [HR.out]; rfl, rfl⟩
    · have HR := Lib.hid (show intB f t = false from decide_eq_false fun h => h2 h.2.1)
      go_enter Tryd.func14, Tryd.ntmps14
      go_wp2
      go_ret
      exact ⟨by rw [HR.out]; rfl, rfl⟩
  · have HR := Lib.hid (show intB f t = false from decide_eq_false fun h => h1 h.1)
    go_enter Tryd.func14, Tryd.ntmps14
    go_wp2
    go_ret
    exact ⟨by rw [HR.out]; rfl, rfl⟩
theorem bd_fB (g : Nat) (W : World) : (Instr.fieldAt 29 (.pointer (some ⟨g, 0, none⟩)) 0).run Tryd.prog W = .ok (.pointer (some ⟨g, 0, none⟩)) W := by kernel_rfl
theorem bd_fE (g : Nat) (W : World) : (Instr.fieldAt 29 (.pointer (some ⟨g, 0, none⟩)) 1).run Tryd.prog W = .ok (.pointer (some ⟨g, 3, none⟩)) W := by kernel_rfl
theorem exec_loadE' {oi : Oper} {a : Act} {w : World} {g o : Nat} (x : Operand) (ho : oi.op = .load 25 x) (v : Value) (hx : a.eval x = .pointer (some ⟨g, o, none⟩)) (h : w.cell? ⟨g, o, none⟩ = some v) : (execOp a.eval oi).run Tryd.prog w = .ok (.value v) w :=
  exec_load 25 x ho _ _ hx (run_load_cell er_flat h)
theorem bd_range {W : World} {g : Nat} {l f t e : Int} (h : Blk W g 29 (d4 l f t e)) : W.rangeAt g 0 (b3 l f t) := by
  intro j v hv
  rw [Nat.zero_add, h.cell j]
  match j, hv with
  | 0, hv => exact hv
  | 1, hv => exact hv
  | 2, hv => exact hv
set_option maxRecDepth 100000 in
set_option maxHeartbeats 600000 in
theorem rvalid_no (l f t : Int) (w : World) (h : l < 0 ∨ 4 < l ∨ f < 0 ∨ 1402560 ≤ f) : Calls Tryd.prog 12 #[.agg #[.int .i64 l, .int .i64 f, .int .i64 t]] w fun e w' => e = .returned (.bool (false)) ∧ Below w.heap.size w w' := by
  have FB := Lib.hid (fun W => rblock_no l f W h)
  clear h
  obtain ⟨W1, hW1⟩ : ∃ W, W = w.alloc (.cells #[.int .i64 l, .int .i64 f, .int .i64 t] 23) := ⟨_, rfl⟩
  have hb1 := (Below.refl w.heap.size w).alloc (Nat.le_refl _) (.cells #[.int .i64 l, .int .i64 f, .int .i64 t] 23)
  have hx1 := Blk.new w 23 (b3 l f t)
  have hx1' : Blk W1 w.heap.size 23 (b3 l f t) := by rw [hW1]; exact hx1
  rw [← hW1] at hb1
  have HW := Lib.hid hb1
  have HP := Lib.hid hx1'
  clear hb1 hx1 hx1'
  go_enter Tryd.func12, Tryd.ntmps12
  go_wp2_with fail
  rw [← hW1]
  clear hW1
  go_wp2_with (first | (refine wpList_dst 4 rfl ?_; refine wpList_run 4 rfl rfl _ (exec_fieldAddr 23 (.tmp 1) 0 rfl _ _ rfl (bn_f0 _ _)) ?_; go_frame) | (refine wpList_dst 5 rfl ?_; refine wpList_run 5 rfl rfl _ (exec_loadI (.tmp 4) rfl (.int .i64 (l)) rfl (HP.out.cell 0)) ?_; go_frame) | (refine wpList_dst 6 rfl ?_; refine wpList_run 6 rfl rfl _ (exec_fieldAddr 23 (.tmp 1) 1 rfl _ _ rfl (bn_f1 _ _)) ?_; go_frame) | (refine wpList_dst 7 rfl ?_; refine wpList_run 7 rfl rfl _ (exec_loadI (.tmp 6) rfl (.int .i64 (f)) rfl (HP.out.cell 1)) ?_; go_frame))
  refine (FB.out _).mono ?_
  rintro e w1 ⟨rfl, hb⟩
  replace HP := Lib.hid (HP.out.next hb)
  replace HW := Lib.hid (HW.out.trans (hb.mono HW.out.size))
  clear hb
  go_wp2_with (first | (refine wpList_var rfl rfl 29 3 rfl rfl rfl (.tmp 8) rfl (d4 0 0 0 0) (d4 0 0 0 3) bd_zero' rfl rfl rfl bd_size (dt_one _ _ _ _) ?_; intro w2 HX HB; replace HP := Lib.hid (HP.out.next HB.out); replace HW := Lib.hid (HW.out.trans (HB.out.mono HW.out.size)); have HRR := Lib.hid (bd_range HX.out); clear HB) | (refine wpList_dst 9 rfl ?_; refine wpList_run 9 rfl rfl _ (exec_fieldAddr 29 (.tmp 3) 1 rfl _ _ rfl (bd_fE _ _)) ?_; go_frame) | (refine wpList_dst 10 rfl ?_; refine wpList_run 10 rfl rfl _ (exec_loadE' (.tmp 9) rfl (.int .i64 3) rfl (HX.out.cell 3)) ?_; go_frame))
  go_ret
  exact ⟨rfl, HW.out⟩
set_option maxRecDepth 100000 in
set_option maxHeartbeats 600000 in
theorem rvalid_raw (l f t F X : Int) (w : World) (h : ∀ W, Calls Tryd.prog 6 #[.int .i64 l, .int .i64 f] W fun e w' => e = .returned (bdV l F X 0) ∧ Below W.heap.size W w') : Calls Tryd.prog 12 #[.agg #[.int .i64 l, .int .i64 f, .int .i64 t]] w fun e w' => e = .returned (.bool (decide (F = f) && decide (X = t))) ∧ Below w.heap.size w w' := by
  have FB := Lib.hid h
  clear h
  obtain ⟨W1, hW1⟩ : ∃ W, W = w.alloc (.cells #[.int .i64 l, .int .i64 f, .int .i64 t] 23) := ⟨_, rfl⟩
  have hb1 := (Below.refl w.heap.size w).alloc (Nat.le_refl _) (.cells #[.int .i64 l, .int .i64 f, .int .i64 t] 23)
  have hx1 := Blk.new w 23 (b3 l f t)
  have hx1' : Blk W1 w.heap.size 23 (b3 l f t) := by rw [hW1]; exact hx1
  rw [← hW1] at hb1
  have HW := Lib.hid hb1
  have HP := Lib.hid hx1'
  clear hb1 hx1 hx1'
  go_enter Tryd.func12, Tryd.ntmps12
  go_wp2_with fail
  rw [← hW1]
  clear hW1
  go_wp2_with (first | (refine wpList_dst 4 rfl ?_; refine wpList_run 4 rfl rfl _ (exec_fieldAddr 23 (.tmp 1) 0 rfl _ _ rfl (bn_f0 _ _)) ?_; go_frame) | (refine wpList_dst 5 rfl ?_; refine wpList_run 5 rfl rfl _ (exec_loadI (.tmp 4) rfl (.int .i64 (l)) rfl (HP.out.cell 0)) ?_; go_frame) | (refine wpList_dst 6 rfl ?_; refine wpList_run 6 rfl rfl _ (exec_fieldAddr 23 (.tmp 1) 1 rfl _ _ rfl (bn_f1 _ _)) ?_; go_frame) | (refine wpList_dst 7 rfl ?_; refine wpList_run 7 rfl rfl _ (exec_loadI (.tmp 6) rfl (.int .i64 (f)) rfl (HP.out.cell 1)) ?_; go_frame))
  refine (FB.out _).mono ?_
  rintro e w1 ⟨rfl, hb⟩
  replace HP := Lib.hid (HP.out.next hb)
  replace HW := Lib.hid (HW.out.trans (hb.mono HW.out.size))
  clear hb
  go_wp2_with (first | (refine wpList_var rfl rfl 29 3 rfl rfl rfl (.tmp 8) rfl (d4 0 0 0 0) (d4 l F X 0) bd_zero' rfl rfl rfl bd_size (dt_one _ _ _ _) ?_; intro w2 HX HB; replace HP := Lib.hid (HP.out.next HB.out); replace HW := Lib.hid (HW.out.trans (HB.out.mono HW.out.size)); have HRR := Lib.hid (bd_range HX.out); clear HB) | (refine wpList_dst 9 rfl ?_; refine wpList_run 9 rfl rfl _ (exec_fieldAddr 29 (.tmp 3) 1 rfl _ _ rfl (bd_fE _ _)) ?_; go_frame) | (refine wpList_dst 10 rfl ?_; refine wpList_run 10 rfl rfl _ (exec_loadE' (.tmp 9) rfl (.int .i64 0) rfl (HX.out.cell 3)) ?_; go_frame) | (refine wpList_dst 13 rfl ?_; refine wpList_runG 13 rfl rfl _ (exec_fieldAddr 29 (.tmp 3) 0 rfl _ _ rfl (bd_fB _ _)) ?_; go_frame) | (refine wpList_dst 14 rfl ?_; refine wpList_runG 14 rfl rfl _ (exec_load 23 (.tmp 13) rfl _ _ rfl (run_loadAt_mid _ _ 0 _ (b3 l F X) _ HRR.out bin_under rfl bn_size)) ?_; go_frame) | (refine wpList_dst 15 rfl ?_; refine wpList_runG 15 rfl rfl _ (exec_load 23 (.tmp 1) rfl _ _ rfl (run_load_part _ 23 _ 0 3 23 (b3 l f t) _ HP.out (by simp) Tryd.underlying23 rfl bn_size)) ?_; go_frame) | (refine wpList_dst 16 rfl ?_; refine wpList_runG 16 rfl rfl _ (exec_bin .eql 23 _ (.tmp 14) (.tmp 15) rfl _ _ _ rfl rfl (bn_guard _ _ _ _ _ _) (bn_eq l F X l f t _)) ?_; go_frame))
  go_ret
  exact ⟨rfl, HW.out⟩
theorem rvalid_any (l f t : Int) (w : World) : Calls Tryd.prog 12 #[.agg #[.int .i64 l, .int .i64 f, .int .i64 t]] w fun e w' => e = .returned (.bool (okB l f t)) ∧ Below w.heap.size w w' := by
  have hM : M = 1402560 := rfl
  by_cases h : l < 0 ∨ 4 < l ∨ f < 0 ∨ 1402560 ≤ f
  · rw [show okB l f t = false by
      rw [Bool.eq_false_iff]
      intro e
      obtain ⟨L, F, h1, h2, h3, h4, _, _⟩ := (okB_iff _ _ _).1 e
      omega]
    exact rvalid_no l f t w h
  · obtain ⟨L, rfl⟩ : ∃ L : Nat, l = (L : Int) := ⟨l.toNat, by omega⟩
    obtain ⟨F, rfl⟩ : ∃ F : Nat, f = (F : Int) := ⟨f.toNat, by omega⟩
    have h2 := rvalid_raw L F t (fl L F : Nat) (nx L F : Nat) w (fun W => rblock_yes L F W (by omega) (by omega))
    rwa [show okB (L : Int) (F : Int) t = (decide (((fl L F : Nat) : Int) = (F : Int)) && decide (((nx L F : Nat) : Int) = t)) by
      rw [Bool.eq_iff_iff, okB_iff, Bool.and_eq_true, decide_eq_true_iff, decide_eq_true_iff]
      constructor
      · rintro ⟨L', F', h1, h2, h3, h4, h5, h6⟩
        obtain rfl : L = L' := by omega
        obtain rfl : F = F' := by omega
        exact ⟨by rw [h5], h6.symm⟩
      · rintro ⟨h5, h6⟩
        exact ⟨L, F, by omega, by omega, rfl, rfl, by omega, h6.symm⟩]
end Go.Proofs.YtmifpaafpmibmaaDoor
