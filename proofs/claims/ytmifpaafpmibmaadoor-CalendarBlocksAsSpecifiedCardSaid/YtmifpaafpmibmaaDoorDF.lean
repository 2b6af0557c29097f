/- The reference's inside. -/
import Derived.Test.YtmifpaafpmibmaaDoorDE
namespace Go.Proofs.YtmifpaafpmibmaaDoor
open Go.RowKit Hm Wm Cm

theorem wpList_pushB {w : World} {ops : Array Oper} {rest : List Oper} {o : Oper} {a : Act} {Q : Exit → Act → World → Prop} (hg : o.guard = none) (s y : Operand) (hop : o.op = .call { callee := .builtin .append, args := #[s, y], argTypes := #[33, 33] })
    (base : Nat) (v : Value) (l : List Bk) (x : Bk) (hs : a.eval s = v) (h : Row w base v l) (hb : base ≤ w.heap.size) (hl : l.length ≤ 2000000) (hx : a.eval y = .slice (some ⟨w.heap.size, 0, none⟩) 1 1)
    (hK : ∀ v' w', Row w' base v' (l ++ [x]) → Keeps w w' → Below base w w' → wpList Tryd.prog ops Q rest (a.put o.dst v') w') :
    wpList Tryd.prog ops Q (o :: rest) a (w.alloc (.cells #[.int .i64 (x.1 : Nat), .int .i64 (x.2.1 : Nat), .int .i64 (x.2.2 : Nat)] 23)) := by
  refine wpList_plain hg fun K hK' => ?_
  obtain ⟨v', w', hrun, r1, r2, r3⟩ := run_pushB o.type w base v l x h hb hl
  have e : (execOp a.eval o).run Tryd.prog (w.alloc (.cells #[.int .i64 (x.1 : Nat), .int .i64 (x.2.1 : Nat), .int .i64 (x.2.2 : Nat)] 23)) = .ok (.value v') w' := by
    simp [execOp, hop, resolve, invoke, builtin, hs, hx, hrun]
  unfold Oper.wp
  rw [e]
  exact hK' _ _ (hK v' w' r1 r2 r3)
theorem run_bs1x (l f t : Int) (w : World) : (Instr.buildSlice 33 1 #[(0, .agg #[.int .i64 l, .int .i64 f, .int .i64 t])]).run Tryd.prog w = .ok (.slice (some ⟨w.heap.size, 0, none⟩) 1 1) (w.alloc (.cells #[.int .i64 l, .int .i64 f, .int .i64 t] 23)) := by kernel_rfl
theorem bd_ne : 29 ≠ 23 := by decide
set_option maxRecDepth 100000 in
set_option maxHeartbeats 3000000 in
theorem inside_any (L a b : Nat) (w : World) (hL : L ≤ 4) (hab : a ≤ b) (hbM : b ≤ M) : Calls Tryd.prog 26 #[.int .i64 L, .int .i64 a, .int .i64 b] w fun e w' => (∃ v, e = .returned v ∧ Row w' w.heap.size v (wi L a b)) ∧ Below w.heap.size w w' := by
  have hM : M = 1402560 := rfl
  have HR := Lib.hid (Row.nil w w.heap.size)
  have HW := Lib.hid (Below.refl w.heap.size w)
  have HB0 := Lib.hid (fun (s : Nat) (W : World) (hs : s < M) => rblock_yes L s W hL hs)
  have HLEN := Lib.hid (wi_len L a b hbM)
  go_enter Tryd.func26, Tryd.ntmps26
  go_wp2_with fail
  go_loopw [7, 8] (fun ov av wr => ∃ (pre : List Bk) (s : Nat), av = .int .i64 s ∧ a ≤ s ∧ s ≤ M ∧ Hid (s < b → fl L s = s ∨ s = a) ∧ Hid (pre ++ wi L s b = wi L a b) ∧ Hid (Row wr w.heap.size ov pre) ∧ Hid (Below w.heap.size w wr)) (fun _ av _ => b - (intOf av).toNat)
  case atStart => exact ⟨[], a, rfl, Nat.le_refl _, by omega, Lib.hid (fun _ => .inr rfl), Lib.hid rfl, HR, HW⟩
  case round =>
    clear HR HW
    obtain ⟨pre, s, rfl, hs1, hs2, hs3, hpre, HR, HW⟩ := hrel
    by_cases hlt : s < b
    · have hin := blk_in (L := L) (t := s) (by omega)
      have hnb := nx_bd (L := L) (t := s) (by omega)
      have hpl : Hid (pre.length ≤ 2000000) := Lib.hid (by
        have h1 := congrArg List.length hpre.out
        rw [List.length_append] at h1
        have := HLEN.out
        omega)
      have FB := Lib.hid (fun W => HB0.out s W (by omega))
      have hnext : nx L s < b → fl L (nx L s) = nx L s ∨ nx L s = a := fun h => .inl (fl_of (by omega) hnb)
      have hskip := wi_skip (n := L) hbM hlt
      have hstop := wi_stop (n := L) hlt
      have hstep := wi_step (n := L) hbM hlt
      have hfs := hs3.out hlt
      obtain ⟨F, hF⟩ : ∃ F, fl L s = F := ⟨_, rfl⟩
      obtain ⟨X, hX⟩ : ∃ X, nx L s = X := ⟨_, rfl⟩
      rw [hF] at hin FB hfs hskip hstep
      rw [hX] at hin FB hnext hskip hstop hstep
      clear hnb hF hX hs3
      obtain ⟨i1, i2, i3⟩ := hin
      have HNX := Lib.hid hnext
      by_cases hFs : F = s
      · subst hFs
        have cA : decide ((a : Int) ≤ (F : Int)) = true := decide_eq_true (by omega)
        have cA' : decide (a ≤ F) = true := decide_eq_true (by omega)
        by_cases hXb : X ≤ b
        · have HP : Hid ((pre ++ [(L, F, X)]) ++ wi L X b = wi L a b) := Lib.hid (by rw [← hpre.out, hstep rfl hXb, List.append_assoc]; rfl)
          have cB : decide ((X : Int) ≤ (b : Int)) = true := decide_eq_true (by omega)
          have cB' : decide (X ≤ b) = true := decide_eq_true hXb
          clear hstep hstop hskip hnext hpre hfs
          go_wp2_with fail
          refine (FB.out _).mono ?_
          rintro e w1 ⟨rfl, hb⟩
          replace HR := Lib.hid (HR.out.below hb)
          replace HW := Lib.hid (HW.out.trans (hb.mono HW.out.size))
          clear hb
          go_wp2_with (first | (refine wpList_var rfl rfl 29 9 rfl rfl rfl (.tmp 16) rfl (d4 0 0 0 0) (d4 (L : Int) (F : Int) (X : Int) 0) bd_zero' rfl rfl rfl bd_size (dt_one _ _ _ _) ?_; intro w2 HX HB; replace HR := Lib.hid (HR.out.below HB.out); replace HW := Lib.hid (HW.out.trans (HB.out.mono HW.out.size)); have HRR := Lib.hid (bd_range HX.out); clear HB) | (refine wpList_dst 17 rfl ?_; refine wpList_run 17 rfl rfl _ (exec_fieldAddr 29 (.tmp 9) 0 rfl _ _ rfl (bd_fB _ _)) ?_; go_frame) | (refine wpList_dst 18 rfl ?_; refine wpList_run 18 rfl rfl _ (exec_fieldAddr 23 (.tmp 17) 1 rfl _ _ rfl (bn_f1 _ _)) ?_; go_frame) | (refine wpList_dst 19 rfl ?_; refine wpList_run 19 rfl rfl _ (exec_loadI (.tmp 18) rfl (.int .i64 (F : Int)) rfl (HX.out.cell 1)) ?_; go_frame) | (refine wpList_dst 23 rfl ?_; refine wpList_runG 23 rfl rfl _ (exec_fieldAddr 29 (.tmp 9) 0 rfl _ _ rfl (bd_fB _ _)) ?_; go_frame) | (refine wpList_dst 24 rfl ?_; refine wpList_runG 24 rfl rfl _ (exec_fieldAddr 23 (.tmp 23) 2 rfl _ _ rfl (bn_f2 _ _)) ?_; go_frame) | (refine wpList_dst 25 rfl ?_; refine wpList_runG 25 rfl rfl _ (exec_loadI (.tmp 24) rfl (.int .i64 (X : Int)) rfl (HX.out.cell 2)) ?_; go_frame) | (refine wpList_dst 30 rfl ?_; refine wpList_run 30 rfl rfl _ (exec_fieldAddr 29 (.tmp 9) 0 rfl _ _ rfl (bd_fB _ _)) ?_; go_frame) | (refine wpList_dst 31 rfl ?_; refine wpList_run 31 rfl rfl _ (exec_load 23 (.tmp 30) rfl _ _ rfl (run_loadAt_mid _ _ 0 _ (b3 (L : Int) (F : Int) (X : Int)) _ HRR.out bin_under rfl bn_size)) ?_; go_frame) | (refine wpList_dst 32 rfl ?_; refine wpList_runW 32 rfl rfl _ _ (exec_buildS 33 1 _ rfl #[(0, .agg #[.int .i64 (L : Int), .int .i64 (F : Int), .int .i64 (X : Int)])] rfl _ (run_bs1x _ _ _ _)) ?_; go_frame) | (refine wpList_pushB rfl (.tmp 29) (.tmp 32) rfl w.heap.size _ pre (L, F, X) rfl HR.out HW.out.size hpl.out rfl ?_; intro v' w3 hr2 hk2 hb2; have hx2 := hk2.blk HX.out (.inl bd_ne); replace HX := Lib.hid hx2; replace HR := Lib.hid hr2; replace HW := Lib.hid (HW.out.trans hb2); clear hr2 hk2 hb2 hx2) | (refine wpList_dst 34 rfl ?_; refine wpList_run 34 rfl rfl _ (exec_fieldAddr 29 (.tmp 9) 0 rfl _ _ rfl (bd_fB _ _)) ?_; go_frame) | (refine wpList_dst 35 rfl ?_; refine wpList_run 35 rfl rfl _ (exec_fieldAddr 23 (.tmp 34) 2 rfl _ _ rfl (bn_f2 _ _)) ?_; go_frame) | (refine wpList_dst 36 rfl ?_; refine wpList_run 36 rfl rfl _ (exec_loadI (.tmp 35) rfl (.int .i64 (X : Int)) rfl (HX.out.cell 2)) ?_; go_frame))
          go_roundw
          case rel => exact ⟨_, X, rfl, by omega, by omega, HNX, HP, HR, HW⟩
          case measure => simp [intOf] <;> omega
        · have HP : Hid (pre ++ wi L X b = wi L a b) := Lib.hid (by rw [← hpre.out, hstop (by omega), wi_none (by omega)])
          have cB : decide ((X : Int) ≤ (b : Int)) = false := decide_eq_false (by omega)
          have cB' : decide (X ≤ b) = false := decide_eq_false hXb
          clear hstep hstop hskip hnext hpre hfs
          go_wp2_with fail
          refine (FB.out _).mono ?_
          rintro e w1 ⟨rfl, hb⟩
          replace HR := Lib.hid (HR.out.below hb)
          replace HW := Lib.hid (HW.out.trans (hb.mono HW.out.size))
          clear hb
          go_wp2_with (first | (refine wpList_var rfl rfl 29 9 rfl rfl rfl (.tmp 16) rfl (d4 0 0 0 0) (d4 (L : Int) (F : Int) (X : Int) 0) bd_zero' rfl rfl rfl bd_size (dt_one _ _ _ _) ?_; intro w2 HX HB; replace HR := Lib.hid (HR.out.below HB.out); replace HW := Lib.hid (HW.out.trans (HB.out.mono HW.out.size)); have HRR := Lib.hid (bd_range HX.out); clear HB) | (refine wpList_dst 17 rfl ?_; refine wpList_run 17 rfl rfl _ (exec_fieldAddr 29 (.tmp 9) 0 rfl _ _ rfl (bd_fB _ _)) ?_; go_frame) | (refine wpList_dst 18 rfl ?_; refine wpList_run 18 rfl rfl _ (exec_fieldAddr 23 (.tmp 17) 1 rfl _ _ rfl (bn_f1 _ _)) ?_; go_frame) | (refine wpList_dst 19 rfl ?_; refine wpList_run 19 rfl rfl _ (exec_loadI (.tmp 18) rfl (.int .i64 (F : Int)) rfl (HX.out.cell 1)) ?_; go_frame) | (refine wpList_dst 23 rfl ?_; refine wpList_runG 23 rfl rfl _ (exec_fieldAddr 29 (.tmp 9) 0 rfl _ _ rfl (bd_fB _ _)) ?_; go_frame) | (refine wpList_dst 24 rfl ?_; refine wpList_runG 24 rfl rfl _ (exec_fieldAddr 23 (.tmp 23) 2 rfl _ _ rfl (bn_f2 _ _)) ?_; go_frame) | (refine wpList_dst 25 rfl ?_; refine wpList_runG 25 rfl rfl _ (exec_loadI (.tmp 24) rfl (.int .i64 (X : Int)) rfl (HX.out.cell 2)) ?_; go_frame) | (refine wpList_dst 34 rfl ?_; refine wpList_run 34 rfl rfl _ (exec_fieldAddr 29 (.tmp 9) 0 rfl _ _ rfl (bd_fB _ _)) ?_; go_frame) | (refine wpList_dst 35 rfl ?_; refine wpList_run 35 rfl rfl _ (exec_fieldAddr 23 (.tmp 34) 2 rfl _ _ rfl (bn_f2 _ _)) ?_; go_frame) | (refine wpList_dst 36 rfl ?_; refine wpList_run 36 rfl rfl _ (exec_loadI (.tmp 35) rfl (.int .i64 (X : Int)) rfl (HX.out.cell 2)) ?_; go_frame))
          go_roundw
          case rel => exact ⟨_, X, rfl, by omega, by omega, HNX, HP, HR, HW⟩
          case measure => simp [intOf] <;> omega
      · obtain rfl : a = s := by omega
        have HP : Hid (pre ++ wi L X b = wi L a b) := Lib.hid (by rw [← hpre.out, hskip hFs])
        have cA : decide ((a : Int) ≤ (F : Int)) = false := decide_eq_false (by omega)
        have cA' : decide (a ≤ F) = false := decide_eq_false (by omega)
        clear hstep hstop hskip hnext hpre hfs
        go_wp2_with fail
        refine (FB.out _).mono ?_
        rintro e w1 ⟨rfl, hb⟩
        replace HR := Lib.hid (HR.out.below hb)
        replace HW := Lib.hid (HW.out.trans (hb.mono HW.out.size))
        clear hb
        go_wp2_with (first | (refine wpList_var rfl rfl 29 9 rfl rfl rfl (.tmp 16) rfl (d4 0 0 0 0) (d4 (L : Int) (F : Int) (X : Int) 0) bd_zero' rfl rfl rfl bd_size (dt_one _ _ _ _) ?_; intro w2 HX HB; replace HR := Lib.hid (HR.out.below HB.out); replace HW := Lib.hid (HW.out.trans (HB.out.mono HW.out.size)); have HRR := Lib.hid (bd_range HX.out); clear HB) | (refine wpList_dst 17 rfl ?_; refine wpList_run 17 rfl rfl _ (exec_fieldAddr 29 (.tmp 9) 0 rfl _ _ rfl (bd_fB _ _)) ?_; go_frame) | (refine wpList_dst 18 rfl ?_; refine wpList_run 18 rfl rfl _ (exec_fieldAddr 23 (.tmp 17) 1 rfl _ _ rfl (bn_f1 _ _)) ?_; go_frame) | (refine wpList_dst 19 rfl ?_; refine wpList_run 19 rfl rfl _ (exec_loadI (.tmp 18) rfl (.int .i64 (F : Int)) rfl (HX.out.cell 1)) ?_; go_frame) | (refine wpList_dst 23 rfl ?_; refine wpList_runG 23 rfl rfl _ (exec_fieldAddr 29 (.tmp 9) 0 rfl _ _ rfl (bd_fB _ _)) ?_; go_frame) | (refine wpList_dst 24 rfl ?_; refine wpList_runG 24 rfl rfl _ (exec_fieldAddr 23 (.tmp 23) 2 rfl _ _ rfl (bn_f2 _ _)) ?_; go_frame) | (refine wpList_dst 25 rfl ?_; refine wpList_runG 25 rfl rfl _ (exec_loadI (.tmp 24) rfl (.int .i64 (X : Int)) rfl (HX.out.cell 2)) ?_; go_frame) | (refine wpList_dst 34 rfl ?_; refine wpList_run 34 rfl rfl _ (exec_fieldAddr 29 (.tmp 9) 0 rfl _ _ rfl (bd_fB _ _)) ?_; go_frame) | (refine wpList_dst 35 rfl ?_; refine wpList_run 35 rfl rfl _ (exec_fieldAddr 23 (.tmp 34) 2 rfl _ _ rfl (bn_f2 _ _)) ?_; go_frame) | (refine wpList_dst 36 rfl ?_; refine wpList_run 36 rfl rfl _ (exec_loadI (.tmp 35) rfl (.int .i64 (X : Int)) rfl (HX.out.cell 2)) ?_; go_frame))
        go_roundw
        case rel => exact ⟨_, X, rfl, by omega, by omega, HNX, HP, HR, HW⟩
        case measure => simp [intOf] <;> omega
    · have HP : Hid (pre = wi L a b) := Lib.hid (by rw [← hpre.out, wi_none (by omega), List.append_nil])
      clear hpre hs3
      go_wp2_with fail
      go_ret
      exact ⟨⟨_, rfl, by rw [← HP.out]; exact HR.out⟩, HW.out⟩
end Go.Proofs.YtmifpaafpmibmaaDoor
