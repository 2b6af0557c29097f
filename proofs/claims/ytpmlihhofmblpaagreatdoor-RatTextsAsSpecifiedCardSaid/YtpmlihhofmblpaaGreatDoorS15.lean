/- The walk of RatTextsAsSpecified. -/
import Derived.Test.YtpmlihhofmblpaaGreatDoorS14
import Derived.Deep.DeepCutAuto
import Derived.Test.YtpmlihhofmblpaaGreatDoorS12
namespace Go.Proofs.YtpmlihhofmblpaaGreatDoor
open Go.RowKit Hm Wm Wn

theorem fa_rivermarkref05_Made_1_0 (g : Nat) (W : World) : (Instr.fieldAt 32 (.pointer (some ⟨g, 0, none⟩)) 1).run Tryz.prog W = .ok (.pointer (some ⟨g, 3, none⟩)) W := by kernel_rfl
theorem exec_lenT {oi : Oper} {a : Act} {w : World} (x : Operand) (ho : oi.op = .call { callee := .builtin .len, args := #[x], argTypes := #[22] }) (A : Option Addr) (n c : Nat) (hx : a.eval x = .slice A n c) : (execOp a.eval oi).run Tryz.prog w = .ok (.value (.int .i64 n)) w := by
  have hu := Tryz.underlying22
  simp [execOp, ho, hx, resolve, invoke, builtin, Builtin.len_, run_underlying hu, goInt]
set_option maxRecDepth 100000 in
set_option maxHeartbeats 800000 in
theorem tx_out_n (A : Option Addr) (n c : Nat) (s : ByteArray) (w : World) (hE : Env w) (hn : 12 < n) : Calls Tryz.prog 3 #[.slice A n c, .string s] w fun e w' => e = .returned (.bool true) ∧ Below w.heap.size w w' := by
  have HW := Lib.hid (Below.refl w.heap.size w)
  have HE := Lib.hid hE
  have H11 := Lib.hid (show decide ((12 : Int) < (n : Int)) = true from decide_eq_true (by omega))
  clear hn hE
  go_enter Tryz.func3, Tryz.ntmps3
  go_upto_region 1 with fail
  refine wp_region_lit ?_
  refine wpList_run 9 rfl rfl (.slice A n c) (exec_move (.tmp 0) rfl _ rfl) ?_
  go_frame
  refine wpList_run 10 rfl rfl (.int .i64 n) (exec_lenT (.tmp 9) rfl _ n _ rfl) ?_
  go_frame
  refine wpList_run 11 rfl rfl (.bool true) (exec_gtrI _ _ _ _ rfl .i64 (n) (12) true H11.out rfl rfl) ?_
  go_frame
  refine wpList_runSkip 12 rfl (by first | rfl | kernel_rfl) (.bool true) (exec_move (.tmp 11) rfl _ rfl) 3 [13, 14, 15] (by kernel_rfl) ?_
  simp only [List.drop_succ_cons, List.drop_zero, List.foldl_cons, List.foldl_nil]
  go_frame
  refine wpList_run 16 rfl rfl (.bool true) (exec_pickT _ _ _ rfl (.bool true) rfl rfl) ?_
  go_frame
  refine wpList_nil ?_
  go_wp2_with fail
  refine ((qsanity_any _ HE.out)).mono ?_
  rintro e w1 ⟨rfl, hb⟩
  replace HW := Lib.hid (HW.out.trans (hb.mono HW.out.size))
  replace HE := Lib.hid (HE.out.next hb)
  clear hb
  go_wp2_with fail
  go_ret
  exact ⟨rfl, HW.out⟩
set_option maxRecDepth 100000 in
set_option maxHeartbeats 800000 in
theorem tx_out_s (A : Option Addr) (n c : Nat) (s : ByteArray) (w : World) (hE : Env w) (hn : n ≤ 12) (hs : 500 < s.size) : Calls Tryz.prog 3 #[.slice A n c, .string s] w fun e w' => e = .returned (.bool true) ∧ Below w.heap.size w w' := by
  have HW := Lib.hid (Below.refl w.heap.size w)
  have HE := Lib.hid hE
  have H11 := Lib.hid (show decide ((12 : Int) < (n : Int)) = false from decide_eq_false (by omega))
  have H15 := Lib.hid (show decide ((500 : Int) < (s.size : Int)) = true from decide_eq_true (by omega))
  clear hn hE hs
  go_enter Tryz.func3, Tryz.ntmps3
  go_upto_region 1 with fail
  refine wp_region_lit ?_
  refine wpList_run 9 rfl rfl (.slice A n c) (exec_move (.tmp 0) rfl _ rfl) ?_
  go_frame
  refine wpList_run 10 rfl rfl (.int .i64 n) (exec_lenT (.tmp 9) rfl _ n _ rfl) ?_
  go_frame
  refine wpList_run 11 rfl rfl (.bool false) (exec_gtrI _ _ _ _ rfl .i64 (n) (12) false H11.out rfl rfl) ?_
  go_frame
  refine wpList_run 12 rfl rfl (.bool false) (exec_move (.tmp 11) rfl _ rfl) ?_
  go_frame
  refine wpList_runG 13 rfl (by first | rfl | kernel_rfl) (.string s) (exec_move (.tmp 1) rfl _ rfl) ?_
  go_frame
  refine wpList_runG 14 rfl (by first | rfl | kernel_rfl) (.int .i64 s.size) (exec_lenS 9 (.tmp 13) rfl Tryz.underlying9 s rfl) ?_
  go_frame
  refine wpList_runG 15 rfl (by first | rfl | kernel_rfl) (.bool true) (exec_gtrI _ _ _ _ rfl .i64 (s.size) (500) true H15.out rfl rfl) ?_
  go_frame
  refine wpList_run 16 rfl rfl (.bool true) (exec_pickF _ _ _ rfl (.bool true) rfl rfl) ?_
  go_frame
  refine wpList_nil ?_
  go_wp2_with fail
  refine ((qsanity_any _ HE.out)).mono ?_
  rintro e w1 ⟨rfl, hb⟩
  replace HW := Lib.hid (HW.out.trans (hb.mono HW.out.size))
  replace HE := Lib.hid (HE.out.next hb)
  clear hb
  go_wp2_with fail
  go_ret
  exact ⟨rfl, HW.out⟩
set_option maxRecDepth 100000 in
set_option maxHeartbeats 3000000 in
theorem tx_in (A : Option Addr) (n c : Nat) (l : List Rv) (s : ByteArray) (T : Rv → ByteArray) (q5 a1 : Rv) (e1 : Int) (w : World) (hE : Env w) (hn : n ≤ 12) (hln : l.length = n) (hs : s.size ≤ 500) (hr : RdQ w A l)
    (hF : ∀ x W, Calls Tryz.prog 5 #[rv x, .int .i64 20] W fun e w' => e = .returned (.bool (fewB 20 x)) ∧ Below W.heap.size W w')
    (hT : ∀ x, fewB 20 x = true → ∀ W, Env W → Calls Tryz.prog 6 #[rv x] W fun e w' => e = .returned (.string (T x)) ∧ Below W.heap.size W w') (hT5 : ∀ x, fewB 20 x = true → ∀ W, Env W → Calls Tryz.prog 7 #[rv x] W fun e w' => e = .returned (.string (T x)) ∧ Below W.heap.size W w')
    (hP : ∀ W, Env W → Calls Tryz.prog 8 #[.string s] W fun e w' => e = .returned (.tuple #[rv a1, .int .i64 e1]) ∧ Below W.heap.size W w') (hP5 : ∀ W, Env W → Calls Tryz.prog 9 #[.string s] W fun e w' => e = .returned (mk5 a1 e1) ∧ Below W.heap.size W w')
    (hS : (∀ x ∈ l, fewB 20 x = true) → ∀ W, RdQ W A l → Calls Tryz.prog 10 #[.slice A n c] W fun e w' => e = .returned (rv q5) ∧ Below W.heap.size W w') (hS5 : (∀ x ∈ l, fewB 20 x = true) → ∀ W, RdQ W A l → Calls Tryz.prog 11 #[.slice A n c] W fun e w' => e = .returned (rv q5) ∧ Below W.heap.size W w') : Calls Tryz.prog 3 #[.slice A n c, .string s] w fun e w' => e = .returned (.bool true) ∧ Below w.heap.size w w' := by
  have HW := Lib.hid (Below.refl w.heap.size w)
  have HE := Lib.hid hE
  have HL := Lib.hid hr
  have HLN := Lib.hid hln
  have FF := Lib.hid hF
  have FT := Lib.hid hT
  have FR := Lib.hid hT5
  have F44 := Lib.hid hP
  have F48 := Lib.hid hP5
  have FS := Lib.hid hS
  have FS5 := Lib.hid hS5
  have c1 : decide ((12 : Int) < (n : Int)) = false := decide_eq_false (by omega)
  have c2 : decide (12 < n) = false := decide_eq_false (by omega)
  have c3 : decide ((500 : Int) < (s.size : Int)) = false := decide_eq_false (by omega)
  have c4 : decide (500 < s.size) = false := decide_eq_false (by omega)
  clear hE hr hln hF hT hT5 hP hP5 hS hS5 hs
  go_enter Tryz.func3, Tryz.ntmps3
  go_wp2_with fail
  clear c1 c2 c3 c4
  go_loopw [5] (fun iv wr => ∃ k : Nat, iv = .int .i64 k ∧ k ≤ n ∧ Hid (RdQ wr A l) ∧ Hid (Below w.heap.size w wr) ∧ Hid (Env wr) ∧ Hid (∀ j x, j < k → l[j]? = some x → fewB 20 x = true)) (fun iv _ => n - (intOf iv).toNat)
  case atStart => exact ⟨0, rfl, Nat.zero_le _, HL, HW, HE, Lib.hid (fun j x h => absurd h (Nat.not_lt_zero _))⟩
  case round =>
    clear HL HW HE
    obtain ⟨k, rfl, hk, HL, HW, HE, HFW⟩ := hrel
    by_cases hlt : k < n
    · skip
      have hlt2 : k < l.length := by rw [HLN.out]; exact hlt
      obtain ⟨x, hx⟩ : ∃ x, l[k]? = some x := ⟨l[k], List.getElem?_eq_getElem hlt2⟩
      obtain ⟨bb, off, rfl, hrgx⟩ := HL.out.range hlt2
      have HXK := Lib.hid hx
      have F28 := Lib.hid (FF.out x)
      have i21 : decide ((k : Int) < (n : Int)) = true := decide_eq_true (by omega)
      clear hrgx hx hlt2
      go_wp2_with (first | (refine wpList_dst 26 rfl ?_; refine wpList_run 26 rfl rfl _ (exec_indexAddr 22 (.tmp 24) (.tmp 25) rfl _ _ _ rfl rfl (run_atR bb off n c k hlt _)) ?_; go_frame) | (refine wpList_dst 27 rfl ?_; refine wpList_run 27 rfl rfl _ (exec_load 26 (.tmp 26) rfl _ (rv x) rfl (run_loadAt_mid _ bb (off + k * 3) _ [.bool x.neg, .string x.n, .string x.d] _ (rdq_at HL.out HXK.out) qr_under rfl qr_size)) ?_; go_frame))
      refine (F28.out _).mono ?_
      rintro e w1 ⟨rfl, hb⟩
      replace HL := Lib.hid (HL.out.below hb)
      replace HW := Lib.hid (HW.out.trans (hb.mono HW.out.size))
      replace HE := Lib.hid (HE.out.next hb)
      clear hb
      cases hf : fewB 20 x with
      | false =>
        clear hf
        go_wp2_with fail
        refine ((qsanity_any _ HE.out)).mono ?_
        rintro e w2 ⟨rfl, hb⟩
        replace HL := Lib.hid (HL.out.below hb)
        replace HW := Lib.hid (HW.out.trans (hb.mono HW.out.size))
        replace HE := Lib.hid (HE.out.next hb)
        clear hb
        go_wp2_with fail
        try rw [Exit.noGoto_ret]
        go_ret
        exact ⟨rfl, HW.out⟩
      | true =>
        have HF := Lib.hid hf
        have F35 := Lib.hid (FT.out x hf)
        have F40 := Lib.hid (FR.out x hf)
        clear hf
        go_wp2_with fail
        refine late_begin (S := fun _ W => RdQ W (some ⟨bb, off, none⟩) l) (by kernel_rfl) ?_
        have hL0 := HL.out.below (Below.refl _ _).drew
        have hW0 := HW.out.drew
        have hE0 := HE.out.next (Below.refl _ _).drew
        generalize w1.drew = u0 at hL0 hW0 hE0 ⊢
        clear HL HW HE
        refine late_take [] (i := 0) (some 31) rfl rfl (by first | rfl | kernel_rfl) (by kernel_rfl) (by kernel_rfl) (by kernel_rfl) (by kernel_rfl) (by kernel_rfl) (fun Ls W h => h) (.slice (some ⟨bb, off, none⟩) n c) (fun _ _ _ h => h) (fun Ls W hl0 hW => exec_move (.tmp 0) rfl _ rfl) hL0 hL0 ?_
        go_frame
        refine late_take [] (i := 1) (some 32) rfl rfl (by first | rfl | kernel_rfl) (by kernel_rfl) (by kernel_rfl) (by kernel_rfl) (by kernel_rfl) (by kernel_rfl) (fun Ls W h => h) (.int .i64 k) (fun _ _ _ h => h) (fun Ls W hl0 hW => exec_move (.tmp 5) rfl _ rfl) hL0 hL0 ?_
        go_frame
        refine late_take [] (i := 2) (some 33) rfl rfl (by first | rfl | kernel_rfl) (by kernel_rfl) (by kernel_rfl) (by kernel_rfl) (by kernel_rfl) (by kernel_rfl) (fun Ls W h => h) (.pointer (some ⟨bb, off + k * 3, none⟩)) (fun _ _ _ h => h) (fun Ls W hl0 hW => exec_indexAddr 22 (.tmp 31) (.tmp 32) rfl _ _ _ rfl rfl (run_atR bb off n c k hlt W)) hL0 hL0 ?_
        go_frame
        refine late_take [] (i := 3) (some 34) rfl rfl (by first | rfl | kernel_rfl) (by kernel_rfl) (by kernel_rfl) (by kernel_rfl) (by kernel_rfl) (by kernel_rfl) (fun Ls W h => h) (rv x) (fun _ _ _ h => h) (fun Ls W hl0 hW => exec_load 26 (.tmp 33) rfl _ (rv x) rfl (run_loadAt_mid W bb (off + k * 3) _ [.bool x.neg, .string x.n, .string x.d] _ (rdq_at hW HXK.out) qr_under rfl qr_size)) hL0 hL0 ?_
        go_frame
        refine late_take [] (i := 5) (some 36) rfl rfl (by first | rfl | kernel_rfl) (by kernel_rfl) (by kernel_rfl) (by kernel_rfl) (by kernel_rfl) (by kernel_rfl) (fun Ls W h => h) (.slice (some ⟨bb, off, none⟩) n c) (fun _ _ _ h => h) (fun Ls W hl0 hW => exec_move (.tmp 0) rfl _ rfl) hL0 hL0 ?_
        go_frame
        refine late_take [] (i := 6) (some 37) rfl rfl (by first | rfl | kernel_rfl) (by kernel_rfl) (by kernel_rfl) (by kernel_rfl) (by kernel_rfl) (by kernel_rfl) (fun Ls W h => h) (.int .i64 k) (fun _ _ _ h => h) (fun Ls W hl0 hW => exec_move (.tmp 5) rfl _ rfl) hL0 hL0 ?_
        go_frame
        refine late_take [] (i := 7) (some 38) rfl rfl (by first | rfl | kernel_rfl) (by kernel_rfl) (by kernel_rfl) (by kernel_rfl) (by kernel_rfl) (by kernel_rfl) (fun Ls W h => h) (.pointer (some ⟨bb, off + k * 3, none⟩)) (fun _ _ _ h => h) (fun Ls W hl0 hW => exec_indexAddr 22 (.tmp 36) (.tmp 37) rfl _ _ _ rfl rfl (run_atR bb off n c k hlt W)) hL0 hL0 ?_
        go_frame
        refine late_take [] (i := 8) (some 39) rfl rfl (by first | rfl | kernel_rfl) (by kernel_rfl) (by kernel_rfl) (by kernel_rfl) (by kernel_rfl) (by kernel_rfl) (fun Ls W h => h) (rv x) (fun _ _ _ h => h) (fun Ls W hl0 hW => exec_load 26 (.tmp 38) rfl _ (rv x) rfl (run_loadAt_mid W bb (off + k * 3) _ [.bool x.neg, .string x.n, .string x.d] _ (rdq_at hW HXK.out) qr_under rfl qr_size)) hL0 hL0 ?_
        go_frame
        refine late_one (i := 4) (by kernel_rfl) (op_callG (some 35) rfl rfl (by first | rfl | kernel_rfl) rfl Tryz.func6 (by kernel_rfl) (by kernel_rfl) #[rv x] rfl (F35.out u0 hE0) ?_)
        rintro e u1 ⟨rfl, hb⟩
        have hL1 := hL0.below hb
        have hW1 := hW0.trans (hb.mono hW0.size)
        have hE1 := hE0.next hb
        refine ⟨_, rfl, hL1, ?_⟩
        go_frame
        clear hL0 hW0 hE0 hb
        refine late_one (i := 9) (by kernel_rfl) (op_callG (some 40) rfl rfl (by first | rfl | kernel_rfl) rfl Tryz.func7 (by kernel_rfl) (by kernel_rfl) #[rv x] rfl (F40.out u1 hE1) ?_)
        rintro e u2 ⟨rfl, hb⟩
        have hL2 := hL1.below hb
        have hW2 := hW1.trans (hb.mono hW1.size)
        have hE2 := hE1.next hb
        refine ⟨_, rfl, hL2, ?_⟩
        go_frame
        clear hL1 hW1 hE1 hb
        refine late_take [] (i := 10) (some 41) rfl rfl (by first | rfl | kernel_rfl) (by kernel_rfl) (by kernel_rfl) (by kernel_rfl) (by kernel_rfl) (by kernel_rfl) (fun Ls W h => h) (.bool false) (fun _ _ _ h => h) (fun Ls W hl0 hW => exec_bin .neq 9 _ (.tmp 35) (.tmp 40) rfl _ _ _ rfl rfl rfl (run_neqS (T x) (T x) false (decide_eq_false (fun h => h rfl)) _)) hL2 hL2 ?_
        refine late_done (by kernel_rfl) ?_ _
        go_frame
        have HL := Lib.hid hL2
        have HW := Lib.hid hW2
        have HE := Lib.hid hE2
        clear hL2 hW2 hE2
        go_wp2_with fail
        go_roundw
        case rel => exact ⟨k + 1, by go_num, by omega, HL, HW, HE, Lib.hid (fun j y hj hy => by
                  rcases Nat.lt_or_ge j k with h | h
                  · exact HFW.out j y h hy
                  · obtain rfl : j = k := by omega
                    rw [HXK.out] at hy
                    obtain rfl := Option.some.inj hy
                    exact HF.out)⟩
        case measure => simp [intOf]; omega
    · obtain rfl : k = n := by omega
      have i21 : decide ((k : Int) < (k : Int)) = false := decide_eq_false (by omega)
      have hall : ∀ x ∈ l, fewB 20 x = true := fun x hx => by obtain ⟨j, hj⟩ := List.mem_iff_getElem?.1 hx; exact HFW.out j x (by have := (List.getElem?_eq_some_iff.1 hj).1; have := HLN.out; omega) hj
      have F52 := Lib.hid (FS.out hall)
      have F54 := Lib.hid (FS5.out hall)
      clear hall
      go_wp2_with fail
      refine (F44.out _ HE.out).mono ?_
      rintro e w21 ⟨rfl, hb⟩
      replace HL := Lib.hid (HL.out.below hb)
      replace HW := Lib.hid (HW.out.trans (hb.mono HW.out.size))
      replace HE := Lib.hid (HE.out.next hb)
      clear hb
      go_wp2_with (first | (refine wpList_var rfl rfl 26 6 rfl rfl rfl (.tmp 45) rfl [.bool false, .string ByteArray.empty, .string ByteArray.empty] [.bool a1.neg, .string a1.n, .string a1.d] zero_api_Rat rfl rfl rfl size_api_Rat (List.forall_mem_cons.2 ⟨rfl, (List.forall_mem_cons.2 ⟨rfl, (List.forall_mem_cons.2 ⟨rfl, fun _ h => nomatch h⟩)⟩)⟩) ?_; intro w22 HPA HBw; replace HL := Lib.hid (HL.out.below HBw.out); replace HW := Lib.hid (HW.out.trans (HBw.out.mono HW.out.size)); replace HE := Lib.hid (HE.out.next HBw.out); clear HBw))
      obtain ⟨gPA, hgPA⟩ : ∃ q, q = w21.heap.size := ⟨_, rfl⟩
      rw [← hgPA] at HPA ⊢
      clear hgPA
      refine (F48.out _ HE.out).mono ?_
      rintro e w23 ⟨rfl, hb⟩
      replace HL := Lib.hid (HL.out.below hb)
      replace HW := Lib.hid (HW.out.trans (hb.mono HW.out.size))
      replace HE := Lib.hid (HE.out.next hb)
      replace HPA := Lib.hid (HPA.out.next hb)
      clear hb
      go_upto_region 12 with (first | (refine wpList_var rfl rfl 32 8 rfl rfl rfl (.tmp 48) rfl [.bool false, .string ByteArray.empty, .string ByteArray.empty, .int .i64 0] [.bool a1.neg, .string a1.n, .string a1.d, .int .i64 e1] zero_rivermarkref05_Made rfl rfl rfl size_rivermarkref05_Made (List.forall_mem_cons.2 ⟨rfl, (List.forall_mem_cons.2 ⟨rfl, (List.forall_mem_cons.2 ⟨rfl, (List.forall_mem_cons.2 ⟨rfl, fun _ h => nomatch h⟩)⟩)⟩)⟩) ?_; intro w24 HPB HBw; replace HL := Lib.hid (HL.out.below HBw.out); replace HW := Lib.hid (HW.out.trans (HBw.out.mono HW.out.size)); replace HE := Lib.hid (HE.out.next HBw.out); replace HPA := Lib.hid (HPA.out.next HBw.out); clear HBw))
      obtain ⟨gPB, hgPB⟩ : ∃ q, q = w23.heap.size := ⟨_, rfl⟩
      rw [← hgPB] at HPB ⊢
      clear hgPB
      refine wp_region_lit ?_
      refine wpList_callF 49 rfl (by first | rfl | kernel_rfl) rfl Tryz.func4 (by kernel_rfl) (by kernel_rfl) #[] rfl (qsanity_any _ HE.out) ?_
      rintro e wz ⟨rfl, hb⟩
      replace HL := Lib.hid (HL.out.below hb)
      replace HW := Lib.hid (HW.out.trans (hb.mono HW.out.size))
      replace HE := Lib.hid (HE.out.next hb)
      replace HPA := Lib.hid (HPA.out.next hb)
      replace HPB := Lib.hid (HPB.out.next hb)
      clear hb
      refine ⟨_, rfl, ?_⟩
      go_frame
      refine wpList_run 50 rfl rfl (.bool true) (exec_move (.tmp 49) rfl _ rfl) ?_
      go_frame
      refine wpList_runG 51 rfl (by first | rfl | kernel_rfl) (.slice A k c) (exec_move (.tmp 0) rfl _ rfl) ?_
      go_frame
      refine wpList_callF 52 rfl (by first | rfl | kernel_rfl) rfl Tryz.func10 (by kernel_rfl) (by kernel_rfl) #[.slice A k c] rfl (F52.out _ HL.out) ?_
      rintro e wz ⟨rfl, hb⟩
      replace HL := Lib.hid (HL.out.below hb)
      replace HW := Lib.hid (HW.out.trans (hb.mono HW.out.size))
      replace HE := Lib.hid (HE.out.next hb)
      replace HPA := Lib.hid (HPA.out.next hb)
      replace HPB := Lib.hid (HPB.out.next hb)
      clear hb
      refine ⟨_, rfl, ?_⟩
      go_frame
      refine wpList_runG 53 rfl (by first | rfl | kernel_rfl) (.slice A k c) (exec_move (.tmp 0) rfl _ rfl) ?_
      go_frame
      refine wpList_callF 54 rfl (by first | rfl | kernel_rfl) rfl Tryz.func11 (by kernel_rfl) (by kernel_rfl) #[.slice A k c] rfl (F54.out _ HL.out) ?_
      rintro e wz ⟨rfl, hb⟩
      replace HL := Lib.hid (HL.out.below hb)
      replace HW := Lib.hid (HW.out.trans (hb.mono HW.out.size))
      replace HE := Lib.hid (HE.out.next hb)
      replace HPA := Lib.hid (HPA.out.next hb)
      replace HPB := Lib.hid (HPB.out.next hb)
      clear hb
      refine ⟨_, rfl, ?_⟩
      go_frame
      refine wpList_runG 55 rfl (by first | rfl | kernel_rfl) (.bool true) (exec_bin .eql 26 _ _ _ rfl (rv q5) (rv q5) _ rfl rfl (rat_guard _ _ _ _ _) (run_eqRs _ _ _ _)) ?_
      go_frame
      refine wpList_run 56 rfl rfl (.bool true) (exec_pickT _ _ _ rfl (.bool true) rfl rfl) ?_
      go_frame
      refine wpList_run 57 rfl rfl (.bool true) (exec_move (.tmp 56) rfl _ rfl) ?_
      go_frame
      refine wpList_runG 58 rfl (by first | rfl | kernel_rfl) (.agg #[.bool a1.neg, .string a1.n, .string a1.d]) (exec_load 26 (.tmp 6) rfl _ _ rfl (run_load_part _ 26 _ 0 3 _ [.bool a1.neg, .string a1.n, .string a1.d] _ HPA.out (by simp) Tryz.underlying26 rfl size_api_Rat)) ?_
      go_frame
      refine wpList_runG 59 rfl (by first | rfl | kernel_rfl) (.pointer (some ⟨gPB, 0, none⟩)) (exec_fieldAddr 32 (.tmp 8) 0 rfl _ _ rfl (fa_rivermarkref05_Made_0_0 _ _)) ?_
      go_frame
      refine wpList_runG 60 rfl (by first | rfl | kernel_rfl) (.agg #[.bool a1.neg, .string a1.n, .string a1.d]) (exec_load 26 (.tmp 59) rfl _ _ rfl (run_load_part _ 26 _ 0 3 _ [.bool a1.neg, .string a1.n, .string a1.d, .int .i64 e1] _ HPB.out (by simp) Tryz.underlying26 rfl size_api_Rat)) ?_
      go_frame
      refine wpList_runG 61 rfl (by first | rfl | kernel_rfl) (.bool true) (exec_bin .eql 26 _ _ _ rfl (.agg #[.bool a1.neg, .string a1.n, .string a1.d]) (.agg #[.bool a1.neg, .string a1.n, .string a1.d]) _ rfl rfl (rat_guard _ _ _ _ _) (run_eqRs _ _ _ _)) ?_
      go_frame
      refine wpList_run 62 rfl rfl (.bool true) (exec_pickT _ _ _ rfl (.bool true) rfl rfl) ?_
      go_frame
      refine wpList_run 63 rfl rfl (.bool true) (exec_move (.tmp 62) rfl _ rfl) ?_
      go_frame
      refine wpList_runG 64 rfl (by first | rfl | kernel_rfl) (.int .i64 e1) (exec_move (.tmp 7) rfl _ rfl) ?_
      go_frame
      refine wpList_runG 65 rfl (by first | rfl | kernel_rfl) (.pointer (some ⟨gPB, 3, none⟩)) (exec_fieldAddr 32 (.tmp 8) 1 rfl _ _ rfl (fa_rivermarkref05_Made_1_0 _ _)) ?_
      go_frame
      refine wpList_runG 66 rfl (by first | rfl | kernel_rfl) (.int .i64 e1) (exec_load 28 (.tmp 65) rfl _ _ rfl (run_load_cell flat_api_Errno (HPB.out.cell 3))) ?_
      go_frame
      refine wpList_runG 67 rfl (by first | rfl | kernel_rfl) (.bool true) (exec_eqT _ _ _ _ rfl .i64 (e1) rfl rfl) ?_
      go_frame
      refine wpList_run 68 rfl rfl (.bool true) (exec_pickT _ _ _ rfl (.bool true) rfl rfl) ?_
      go_frame
      refine wpList_run 4 rfl rfl (.bool true) (exec_assign (.tmp 68) rfl _ rfl) ?_
      go_frame
      refine wpList_nil ?_
      go_wp2_with fail
      go_ret
      exact ⟨rfl, HW.out⟩
end Go.Proofs.YtpmlihhofmblpaaGreatDoor
