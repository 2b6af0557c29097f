/- The reference: numbers. -/
import Derived.Test.YtggjgikpiljoiaaDoorL36
namespace Go.Proofs.YtggjgikpiljoiaaDoor
open Go.RowKit Hm Wm Lx

theorem mul_ten (n : Nat) (h : n < 1000000000000000) (W : World) : (binOp .mul 3 (.int .i64 10) (.int .i64 n)).run Tryd.prog W = .ok (.int .i64 ((10 * n : Nat) : Int)) W := by
  simp [binOp, go_sem]
  simp [IntKind.wrap, IntKind.bits, IntKind.signed]; omega
theorem sub_48 (d : UInt8) (h : 48 ≤ d.toNat) (W : World) : (binOp .sub 5 (.int .u8 d.toNat) (.int .u8 48)).run Tryd.prog W = .ok (.int .u8 ((d.toNat - 48 : Nat) : Int)) W := by
  have h1 := d.toNat_lt
  simp [binOp, go_sem]
  simp [IntKind.wrap, IntKind.bits, IntKind.signed]; omega
theorem conv_u8n (x : Nat) (h : x < 256) (W : World) : (convert 5 3 (.int .u8 x)).run Tryd.prog W = .ok (.int .i64 (x : Int)) W := by
  rw [run_convert_int W 5 3 .u8 x (by kernel_rfl) (by kernel_rfl)]
  rw [show Tryd.prog.intKind 3 = .i64 from by kernel_rfl, IntWalk.i64_in _ (by omega)]
set_option maxRecDepth 100000 in
set_option maxHeartbeats 3000000 in
theorem rnumber_any (l r : List UInt8) (c : UInt8) (p : Nat) (w : World) (hl : l.length ≤ 65536) (hd : l.drop p = c :: r) (hc : dg c = true) :
    Calls Tryd.prog 34 #[.string (sb l), .int .i64 p] w fun e w' => e = .returned (oneV p (Lx.step (c :: r))) ∧ Below w.heap.size w w' := by
  have hz : (sb l).size = l.length := sb_size l
  have HZ := Lib.hid hz
  have hlen : p + (c :: r).length = l.length := by
    have h1 := congrArg List.length hd
    have h2 := (at_drop hd).2.2
    rw [List.length_drop] at h1; omega
  have hwl : (dgs (c :: r)).length ≤ (c :: r).length := tw_le dg (c :: r)
  have e : ∀ k, (c :: r)[k]? = l[p + k]? := fun k => by rw [← hd, List.getElem?_drop]
  have HIN := Lib.hid (show ∀ k, k < (dgs (c :: r)).length → ∃ d, l[p + k]? = some d ∧ dg d = true ∧ (dgs (c :: r))[k]? = some d from fun k hk => by
    obtain ⟨d, h1, h2⟩ := tw_in dg (c :: r) k hk
    refine ⟨d, by rw [e] at h1; exact h1, h2, ?_⟩
    have h3 : (dgs (c :: r)) = (c :: r).take (dgs (c :: r)).length := (tw_take dg _).symm
    rw [show (dgs (c :: r))[k]? = ((c :: r).take (dgs (c :: r)).length)[k]? from congrArg (·[k]?) h3, List.getElem?_take, if_pos hk]; exact h1)
  have hnx := dgs_next (c :: r)
  have HCC := Lib.hid (at_drop hd).1
  have HST := Lib.hid (step_dg (r := r) hc)
  have HB1 := Lib.hid (numOk_long (l := c :: r))
  have HB2 := Lib.hid (numOk_zero (c := c) (r := r))
  have HB3 := Lib.hid (show ∀ d, l[p + (dgs (c :: r)).length]? = some d → lt d = true → numOk (word (c :: r)) = false from fun d h1 h2 => numOk_bad (by rw [e]; exact h1) h2)
  have HY := Lib.hid (show (dgs (c :: r)).length ≤ 15 → ((dgs (c :: r)).length ≤ 1 ∨ c.toNat ≠ 48) → (p + (dgs (c :: r)).length = l.length ∨ ∃ d, l[p + (dgs (c :: r)).length]? = some d ∧ wd d = false) → numOk (word (c :: r)) = true ∧ word (c :: r) = dgs (c :: r) from fun h1 h2 h3 => numOk_yes hc h1 h2 (by
    rcases h3 with h3 | ⟨d, h3, h4⟩
    · exact .inl (by omega)
    · exact .inr ⟨d, by rw [e]; exact h3, h4⟩))
  have HOUT := Lib.hid (show p + (dgs (c :: r)).length = l.length ∨ ∃ d, l[p + (dgs (c :: r)).length]? = some d ∧ dg d = false from by
    rcases hnx with h | ⟨d, h1, h2⟩
    · exact .inl (by omega)
    · exact .inr ⟨d, by rw [e] at h1; exact h1, h2⟩)
  have hpos := dgs_pos (r := r) hc
  clear hz hd hc e hnx
  generalize hw : dgs (c :: r) = u at hwl HIN HOUT HB1 HB2 HB3 HY hpos
  generalize word (c :: r) = wo at HST HB1 HB2 HB3 HY
  generalize Lx.step (c :: r) = q at HST ⊢
  clear hw
  have hul : p + u.length ≤ l.length := by omega
  have HSB2 := Lib.hid (show IntKind.i64.wrap (((p + u.length : Nat) : Int) - (p : Int)) = (u.length : Int) from wrap_subN (p + u.length) p u.length (by omega) (by omega))
  go_enter Tryd.func34, Tryd.ntmps34
  go_wp2_with (first | (refine wpList_new rfl 50 rfl zO on_zero ?_; intro w1 HP HW))
  go_loopw [5] (fun a wr => ∃ k : Nat, a = .int .i64 ((p + k : Nat) : Int) ∧ k ≤ u.length ∧ wr = w1) (fun a _ => p + u.length - (intOf a).toNat)
  case atStart => exact ⟨0, rfl, Nat.zero_le _, rfl⟩
  case round =>
    obtain ⟨k, rfl, hk, rfl⟩ := hrel
    by_cases hlt : k < u.length
    · obtain ⟨d, hd, hw, _⟩ := HIN.out k hlt
      have HC := Lib.hid (show (sb l).data.toList[p + k]? = some d by rw [sb_list]; exact hd)
      have hlt2 := (List.getElem?_eq_some_iff.1 hd).1
      have l1 : decide (((p + k : Nat) : Int) < ((sb l).size : Int)) = true := decide_eq_true (by rw [HZ.out]; omega)
      have HDG := Lib.hid hw
      clear hd hw
      go_upto_region 2 with fail
      refine wp_region_lit ?_
      refine wpList_run 9 rfl rfl (.int .i64 ((p + k : Nat) : Int)) (exec_move (.tmp 5) rfl _ rfl) ?_
      go_frame
      refine wpList_run 10 rfl rfl (.string (sb l)) (exec_move (.tmp 0) rfl _ rfl) ?_
      go_frame
      refine wpList_run 11 rfl rfl (.int .i64 (sb l).size) (exec_lenS (.tmp 10) rfl (sb l) rfl) ?_
      go_frame
      refine wpList_run 12 rfl rfl (.bool true) (exec_lssI' _ _ _ _ rfl .i64 (((p + k : Nat) : Int)) ((sb l).size) true l1 rfl rfl) ?_
      go_frame
      refine wpList_run 13 rfl rfl (.bool true) (exec_move (.tmp 12) rfl _ rfl) ?_
      go_frame
      refine wpList_runG 14 rfl (by first | rfl | kernel_rfl) (.string (sb l)) (exec_move (.tmp 0) rfl _ rfl) ?_
      go_frame
      refine wpList_runG 15 rfl (by first | rfl | kernel_rfl) (.int .i64 ((p + k : Nat) : Int)) (exec_move (.tmp 5) rfl _ rfl) ?_
      go_frame
      refine wpList_runG 16 rfl (by first | rfl | kernel_rfl) (.int .u8 d.toNat) (exec_index 9 (.tmp 14) (.tmp 15) rfl _ _ (.int .u8 d.toNat) rfl rfl (sb_at (sb l) (k := p + k) HC.out _)) ?_
      go_frame
      refine wpList_callF 17 rfl (by first | rfl | kernel_rfl) rfl Tryd.func33 (by kernel_rfl) (by kernel_rfl) #[.int .u8 d.toNat] rfl (digit_any d true HDG.out _) ?_
      rintro e wz ⟨rfl, rfl⟩
      refine ⟨_, rfl, ?_⟩
      go_frame
      refine wpList_run 18 rfl rfl (.bool true) (exec_pickT _ _ _ rfl (.bool true) rfl rfl) ?_
      go_frame
      refine wpList_nil ?_
      go_wp2_with fail
      go_roundw
      case rel => exact ⟨k + 1, by go_num, by omega, by first | rfl | trivial⟩
      case measure => simp [intOf]; omega
    · obtain rfl : k = u.length := by omega
      rcases HOUT.out with ho | ⟨d, hd, hw⟩
      · have l1 : decide (((p + u.length : Nat) : Int) < ((sb l).size : Int)) = false := decide_eq_false (by rw [HZ.out]; omega)
        have HNE := Lib.hid (show p + u.length = l.length ∨ ∃ d, l[p + u.length]? = some d ∧ wd d = false from .inl ho)
        clear ho
        go_upto_region 2 with fail
        refine wp_region_lit ?_
        refine wpList_run 9 rfl rfl (.int .i64 ((p + u.length : Nat) : Int)) (exec_move (.tmp 5) rfl _ rfl) ?_
        go_frame
        refine wpList_run 10 rfl rfl (.string (sb l)) (exec_move (.tmp 0) rfl _ rfl) ?_
        go_frame
        refine wpList_run 11 rfl rfl (.int .i64 (sb l).size) (exec_lenS (.tmp 10) rfl (sb l) rfl) ?_
        go_frame
        refine wpList_run 12 rfl rfl (.bool false) (exec_lssI' _ _ _ _ rfl .i64 (((p + u.length : Nat) : Int)) ((sb l).size) false l1 rfl rfl) ?_
        go_frame
        refine wpList_runSkip 13 rfl (by first | rfl | kernel_rfl) (.bool false) (exec_move (.tmp 12) rfl _ rfl) 4 [14, 15, 16, 17] (by kernel_rfl) ?_
        simp only [List.drop_succ_cons, List.drop_zero, List.foldl_cons, List.foldl_nil]
        go_frame
        refine wpList_run 18 rfl rfl (.bool false) (exec_pickF _ _ _ rfl (.bool false) rfl rfl) ?_
        go_frame
        refine wpList_nil ?_
        by_cases h15 : 15 < u.length
        · have g15 : decide ((15 : Int) < (u.length : Int)) = true := decide_eq_true (by omega)
          have HQ := Lib.hid (show q = .bad 27 by rw [HST.out, HB1.out h15]; rfl)
          go_upto_region 4 with fail
          refine wp_region_lit ?_
          refine wpList_run 21 rfl rfl (.int .i64 ((p + u.length : Nat) : Int)) (exec_move (.tmp 5) rfl _ rfl) ?_
          go_frame
          refine wpList_run 22 rfl rfl (.int .i64 p) (exec_move (.tmp 1) rfl _ rfl) ?_
          go_frame
          refine wpList_run 23 rfl rfl (.int .i64 u.length) (exec_subI _ _ _ _ rfl _ _ _ rfl rfl HSB2.out) ?_
          go_frame
          refine wpList_run 24 rfl rfl (.bool true) (exec_gtrI _ _ _ _ rfl .i64 (u.length) (15) true g15 rfl rfl) ?_
          go_frame
          refine wpList_runSkip 25 rfl (by first | rfl | kernel_rfl) (.bool true) (exec_move (.tmp 24) rfl _ rfl) 10 [26, 27, 28, 29, 30, 31, 32, 33, 34, 35] (by kernel_rfl) ?_
          simp only [List.drop_succ_cons, List.drop_zero, List.foldl_cons, List.foldl_nil]
          go_frame
          refine wpList_run 36 rfl rfl (.bool true) (exec_pickT _ _ _ rfl (.bool true) rfl rfl) ?_
          go_frame
          refine wpList_runSkip 37 rfl (by first | rfl | kernel_rfl) (.bool true) (exec_move (.tmp 36) rfl _ rfl) 10 [38, 39, 40, 41, 42, 43, 44, 45, 46, 47] (by kernel_rfl) ?_
          simp only [List.drop_succ_cons, List.drop_zero, List.foldl_cons, List.foldl_nil]
          go_frame
          refine wpList_run 48 rfl rfl (.bool true) (exec_pickT _ _ _ rfl (.bool true) rfl rfl) ?_
          go_frame
          refine wpList_nil ?_
          go_wp2_with (first | (refine wpList_dst 49 rfl ?_; refine wpList_run 49 rfl rfl _ (exec_buildF 50 #[(2, .const (.int .i64 27))] rfl #[(2, .int .i64 27)] rfl _ (build_oe 27 _)) ?_; go_frame) | (refine wpList_store_all rfl 50 (.tmp 4) (.tmp 49) rfl w.heap.size 50 zO [.int .i64 0, .int .i64 0, .string ByteArray.empty, .int .i64 0, .int .i64 0, .int .i64 27] rfl rfl HP.out rfl on_size (List.forall_mem_cons.2 ⟨rfl, (List.forall_mem_cons.2 ⟨rfl, (List.forall_mem_cons.2 ⟨rfl, (List.forall_mem_cons.2 ⟨rfl, (List.forall_mem_cons.2 ⟨rfl, (List.forall_mem_cons.2 ⟨rfl, fun _ h => nomatch h⟩)⟩)⟩)⟩)⟩)⟩) ?_; intro w8 HP8 ho8; have HO8 := Lib.hid ho8; clear ho8))
          rw [HQ.out]
          exact bodyPost_ret (results_blk rfl _ _ w.heap.size _ [.int .i64 0, .int .i64 0, .string ByteArray.empty, .int .i64 0, .int .i64 0, .int .i64 27] _ rfl HP8.out on_under rfl on_size) rfl ⟨rfl, HW.out.trans (HO8.out.below (Nat.le_refl _))⟩
        have g15 : decide ((15 : Int) < (u.length : Int)) = false := decide_eq_false (by omega)
        by_cases h1 : 1 < u.length
        · have g1 : decide ((1 : Int) < (u.length : Int)) = true := decide_eq_true (by omega)
          by_cases h48 : c.toNat = 48
          · have g48 : ((c.toNat : Int) == 48) = true := by rw [h48]; rfl
            have HQ := Lib.hid (show q = .bad 27 by rw [HST.out, HB2.out h1 h48]; rfl)
            go_upto_region 4 with fail
            refine wp_region_lit ?_
            refine wpList_run 21 rfl rfl (.int .i64 ((p + u.length : Nat) : Int)) (exec_move (.tmp 5) rfl _ rfl) ?_
            go_frame
            refine wpList_run 22 rfl rfl (.int .i64 p) (exec_move (.tmp 1) rfl _ rfl) ?_
            go_frame
            refine wpList_run 23 rfl rfl (.int .i64 u.length) (exec_subI _ _ _ _ rfl _ _ _ rfl rfl HSB2.out) ?_
            go_frame
            refine wpList_run 24 rfl rfl (.bool false) (exec_gtrI _ _ _ _ rfl .i64 (u.length) (15) false g15 rfl rfl) ?_
            go_frame
            refine wpList_run 25 rfl rfl (.bool false) (exec_move (.tmp 24) rfl _ rfl) ?_
            go_frame
            refine wpList_runG 26 rfl (by first | rfl | kernel_rfl) (.int .i64 ((p + u.length : Nat) : Int)) (exec_move (.tmp 5) rfl _ rfl) ?_
            go_frame
            refine wpList_runG 27 rfl (by first | rfl | kernel_rfl) (.int .i64 p) (exec_move (.tmp 1) rfl _ rfl) ?_
            go_frame
            refine wpList_runG 28 rfl (by first | rfl | kernel_rfl) (.int .i64 u.length) (exec_subI _ _ _ _ rfl _ _ _ rfl rfl HSB2.out) ?_
            go_frame
            refine wpList_runG 29 rfl (by first | rfl | kernel_rfl) (.bool true) (exec_gtrI _ _ _ _ rfl .i64 (u.length) (1) true g1 rfl rfl) ?_
            go_frame
            refine wpList_runG 30 rfl (by first | rfl | kernel_rfl) (.bool true) (exec_move (.tmp 29) rfl _ rfl) ?_
            go_frame
            refine wpList_runG 31 rfl (by first | rfl | kernel_rfl) (.string (sb l)) (exec_move (.tmp 0) rfl _ rfl) ?_
            go_frame
            refine wpList_runG 32 rfl (by first | rfl | kernel_rfl) (.int .i64 p) (exec_move (.tmp 1) rfl _ rfl) ?_
            go_frame
            refine wpList_runG 33 rfl (by first | rfl | kernel_rfl) (.int .u8 c.toNat) (exec_index 9 (.tmp 31) (.tmp 32) rfl _ _ (.int .u8 c.toNat) rfl rfl (sb_at (sb l) (k := p) HCC.out _)) ?_
            go_frame
            refine wpList_runG 34 rfl (by first | rfl | kernel_rfl) (.bool true) (exec_eqlI _ _ _ _ rfl .u8 (c.toNat) (48) true g48 rfl rfl) ?_
            go_frame
            refine wpList_runG 35 rfl (by first | rfl | kernel_rfl) (.bool true) (exec_pickT _ _ _ rfl (.bool true) rfl rfl) ?_
            go_frame
            refine wpList_run 36 rfl rfl (.bool true) (exec_pickF _ _ _ rfl (.bool true) rfl rfl) ?_
            go_frame
            refine wpList_runSkip 37 rfl (by first | rfl | kernel_rfl) (.bool true) (exec_move (.tmp 36) rfl _ rfl) 10 [38, 39, 40, 41, 42, 43, 44, 45, 46, 47] (by kernel_rfl) ?_
            simp only [List.drop_succ_cons, List.drop_zero, List.foldl_cons, List.foldl_nil]
            go_frame
            refine wpList_run 48 rfl rfl (.bool true) (exec_pickT _ _ _ rfl (.bool true) rfl rfl) ?_
            go_frame
            refine wpList_nil ?_
            go_wp2_with (first | (refine wpList_dst 49 rfl ?_; refine wpList_run 49 rfl rfl _ (exec_buildF 50 #[(2, .const (.int .i64 27))] rfl #[(2, .int .i64 27)] rfl _ (build_oe 27 _)) ?_; go_frame) | (refine wpList_store_all rfl 50 (.tmp 4) (.tmp 49) rfl w.heap.size 50 zO [.int .i64 0, .int .i64 0, .string ByteArray.empty, .int .i64 0, .int .i64 0, .int .i64 27] rfl rfl HP.out rfl on_size (List.forall_mem_cons.2 ⟨rfl, (List.forall_mem_cons.2 ⟨rfl, (List.forall_mem_cons.2 ⟨rfl, (List.forall_mem_cons.2 ⟨rfl, (List.forall_mem_cons.2 ⟨rfl, (List.forall_mem_cons.2 ⟨rfl, fun _ h => nomatch h⟩)⟩)⟩)⟩)⟩)⟩) ?_; intro w8 HP8 ho8; have HO8 := Lib.hid ho8; clear ho8))
            rw [HQ.out]
            exact bodyPost_ret (results_blk rfl _ _ w.heap.size _ [.int .i64 0, .int .i64 0, .string ByteArray.empty, .int .i64 0, .int .i64 0, .int .i64 27] _ rfl HP8.out on_under rfl on_size) rfl ⟨rfl, HW.out.trans (HO8.out.below (Nat.le_refl _))⟩
          · have g48 : ((c.toNat : Int) == 48) = false := by rw [beq_eq_false_iff_ne]; omega
            have hy := HY.out (by omega) (.inr h48) HNE.out
            have HOK := Lib.hid (show numOk u = true by rw [← hy.2]; exact hy.1)
            have HQ := Lib.hid (show q = .tok 2 [] (numV u) u.length by rw [HST.out, hy.1, hy.2]; rfl)
            clear hy
            go_upto_region 4 with fail
            refine wp_region_lit ?_
            refine wpList_run 21 rfl rfl (.int .i64 ((p + u.length : Nat) : Int)) (exec_move (.tmp 5) rfl _ rfl) ?_
            go_frame
            refine wpList_run 22 rfl rfl (.int .i64 p) (exec_move (.tmp 1) rfl _ rfl) ?_
            go_frame
            refine wpList_run 23 rfl rfl (.int .i64 u.length) (exec_subI _ _ _ _ rfl _ _ _ rfl rfl HSB2.out) ?_
            go_frame
            refine wpList_run 24 rfl rfl (.bool false) (exec_gtrI _ _ _ _ rfl .i64 (u.length) (15) false g15 rfl rfl) ?_
            go_frame
            refine wpList_run 25 rfl rfl (.bool false) (exec_move (.tmp 24) rfl _ rfl) ?_
            go_frame
            refine wpList_runG 26 rfl (by first | rfl | kernel_rfl) (.int .i64 ((p + u.length : Nat) : Int)) (exec_move (.tmp 5) rfl _ rfl) ?_
            go_frame
            refine wpList_runG 27 rfl (by first | rfl | kernel_rfl) (.int .i64 p) (exec_move (.tmp 1) rfl _ rfl) ?_
            go_frame
            refine wpList_runG 28 rfl (by first | rfl | kernel_rfl) (.int .i64 u.length) (exec_subI _ _ _ _ rfl _ _ _ rfl rfl HSB2.out) ?_
            go_frame
            refine wpList_runG 29 rfl (by first | rfl | kernel_rfl) (.bool true) (exec_gtrI _ _ _ _ rfl .i64 (u.length) (1) true g1 rfl rfl) ?_
            go_frame
            refine wpList_runG 30 rfl (by first | rfl | kernel_rfl) (.bool true) (exec_move (.tmp 29) rfl _ rfl) ?_
            go_frame
            refine wpList_runG 31 rfl (by first | rfl | kernel_rfl) (.string (sb l)) (exec_move (.tmp 0) rfl _ rfl) ?_
            go_frame
            refine wpList_runG 32 rfl (by first | rfl | kernel_rfl) (.int .i64 p) (exec_move (.tmp 1) rfl _ rfl) ?_
            go_frame
            refine wpList_runG 33 rfl (by first | rfl | kernel_rfl) (.int .u8 c.toNat) (exec_index 9 (.tmp 31) (.tmp 32) rfl _ _ (.int .u8 c.toNat) rfl rfl (sb_at (sb l) (k := p) HCC.out _)) ?_
            go_frame
            refine wpList_runG 34 rfl (by first | rfl | kernel_rfl) (.bool false) (exec_eqlI _ _ _ _ rfl .u8 (c.toNat) (48) false g48 rfl rfl) ?_
            go_frame
            refine wpList_runG 35 rfl (by first | rfl | kernel_rfl) (.bool false) (exec_pickT _ _ _ rfl (.bool false) rfl rfl) ?_
            go_frame
            refine wpList_run 36 rfl rfl (.bool false) (exec_pickF _ _ _ rfl (.bool false) rfl rfl) ?_
            go_frame
            refine wpList_run 37 rfl rfl (.bool false) (exec_move (.tmp 36) rfl _ rfl) ?_
            go_frame
            refine wpList_runG 38 rfl (by first | rfl | kernel_rfl) (.int .i64 ((p + u.length : Nat) : Int)) (exec_move (.tmp 5) rfl _ rfl) ?_
            go_frame
            refine wpList_runG 39 rfl (by first | rfl | kernel_rfl) (.string (sb l)) (exec_move (.tmp 0) rfl _ rfl) ?_
            go_frame
            refine wpList_runG 40 rfl (by first | rfl | kernel_rfl) (.int .i64 (sb l).size) (exec_lenS (.tmp 39) rfl (sb l) rfl) ?_
            go_frame
            refine wpList_runG 41 rfl (by first | rfl | kernel_rfl) (.bool false) (exec_lssI' _ _ _ _ rfl .i64 (((p + u.length : Nat) : Int)) ((sb l).size) false l1 rfl rfl) ?_
            go_frame
            refine wpList_runSkip 42 rfl (by first | rfl | kernel_rfl) (.bool false) (exec_move (.tmp 41) rfl _ rfl) 4 [43, 44, 45, 46] (by kernel_rfl) ?_
            simp only [List.drop_succ_cons, List.drop_zero, List.foldl_cons, List.foldl_nil]
            go_frame
            refine wpList_runG 47 rfl (by first | rfl | kernel_rfl) (.bool false) (exec_pickF _ _ _ rfl (.bool false) rfl rfl) ?_
            go_frame
            refine wpList_run 48 rfl rfl (.bool false) (exec_pickF _ _ _ rfl (.bool false) rfl rfl) ?_
            go_frame
            refine wpList_nil ?_
            go_wp2_with fail
            obtain ⟨wv, rfl⟩ : ∃ wv : World, wv = wr := ⟨_, rfl⟩
            go_loopw [6, 7] (fun a b wr => ∃ j : Nat, a = .int .i64 ((numV (u.take j) : Nat) : Int) ∧ b = .int .i64 ((p + j : Nat) : Int) ∧ j ≤ u.length ∧ Hid (Blk wr w.heap.size 50 zO) ∧ Hid (Below w.heap.size w wr)) (fun _ b _ => p + u.length - (intOf b).toNat)
            case atStart => exact ⟨0, rfl, rfl, Nat.zero_le _, HP, HW⟩
            case round =>
              clear HP HW
              obtain ⟨j, rfl, rfl, hj, HP, HW⟩ := hrel
              have hnv := numV_lt (numOk_take HOK.out j)
              by_cases hjl : j < u.length
              · obtain ⟨e, he, he2, he3⟩ := HIN.out j hjl
                have HEC := Lib.hid (show (sb l).data.toList[p + j]? = some e by rw [sb_list]; exact he)
                have HNX := Lib.hid (numV_take he3)
                have hdg := dg_eq he2
                have j1 : decide (((p + j : Nat) : Int) < ((p + u.length : Nat) : Int)) = true := decide_eq_true (by omega)
                clear he he2 he3
                generalize numV (u.take j) = n at hnv HNX
                have HM := Lib.hid (mul_ten n hnv)
                have HS4 := Lib.hid (sub_48 e hdg.1)
                have HCV := Lib.hid (conv_u8n (e.toNat - 48) (by omega))
                have HAD := Lib.hid (show IntKind.i64.wrap (((10 * n : Nat) : Int) + ((e.toNat - 48 : Nat) : Int)) = ((10 * n + (e.toNat - 48) : Nat) : Int) from wrap_add _ _ (by omega))
                go_upto_region 8 with fail
                refine wp_region_lit ?_
                refine wpList_run 51 rfl rfl (.int .i64 ((p + j : Nat) : Int)) (exec_move (.tmp 7) rfl _ rfl) ?_
                go_frame
                refine wpList_run 52 rfl rfl (.int .i64 ((p + u.length : Nat) : Int)) (exec_move (.tmp 5) rfl _ rfl) ?_
                go_frame
                refine wpList_run 53 rfl rfl (.bool true) (exec_lssI' _ _ _ _ rfl .i64 (((p + j : Nat) : Int)) (((p + u.length : Nat) : Int)) true j1 rfl rfl) ?_
                go_frame
                refine wpList_nil ?_
                go_upto_region 10 with fail
                refine wp_region_lit ?_
                refine wpList_run 56 rfl rfl (.int .i64 n) (exec_move (.tmp 6) rfl _ rfl) ?_
                go_frame
                refine wpList_run 57 rfl rfl (.int .i64 ((10 * n : Nat) : Int)) (exec_bin .mul 3 _ _ (.tmp 56) rfl (.int .i64 10) (.int .i64 n) _ rfl rfl rfl (HM.out _)) ?_
                go_frame
                refine wpList_run 58 rfl rfl (.string (sb l)) (exec_move (.tmp 0) rfl _ rfl) ?_
                go_frame
                refine wpList_run 59 rfl rfl (.int .i64 ((p + j : Nat) : Int)) (exec_move (.tmp 7) rfl _ rfl) ?_
                go_frame
                refine wpList_run 60 rfl rfl (.int .u8 e.toNat) (exec_index 9 (.tmp 58) (.tmp 59) rfl _ _ (.int .u8 e.toNat) rfl rfl (sb_at (sb l) (k := p + j) HEC.out _)) ?_
                go_frame
                refine wpList_run 61 rfl rfl (.int .u8 ((e.toNat - 48 : Nat) : Int)) (exec_bin .sub 5 _ (.tmp 60) _ rfl (.int .u8 e.toNat) (.int .u8 48) _ rfl rfl rfl (HS4.out _)) ?_
                go_frame
                refine wpList_run 62 rfl rfl (.int .i64 ((e.toNat - 48 : Nat) : Int)) (exec_convert 5 3 (.tmp 61) rfl _ _ rfl (HCV.out _)) ?_
                go_frame
                refine wpList_run 63 rfl rfl (.int .i64 ((10 * n + (e.toNat - 48) : Nat) : Int)) (exec_addI _ _ _ _ rfl _ _ _ rfl rfl HAD.out) ?_
                go_frame
                refine wpList_run 6 rfl rfl (.int .i64 ((10 * n + (e.toNat - 48) : Nat) : Int)) (exec_assign (.tmp 63) rfl _ rfl) ?_
                go_frame
                refine wpList_nil ?_
                go_wp2_with fail
                go_roundw
                case rel => exact ⟨j + 1, by rw [HNX.out], by go_num, by omega, HP, HW⟩
                case measure => simp [intOf]; omega
              · obtain rfl : j = u.length := by omega
                have j1 : decide (((p + u.length : Nat) : Int) < ((p + u.length : Nat) : Int)) = false := decide_eq_false (by omega)
                have HTK := Lib.hid (show numV (u.take u.length) = numV u by rw [List.take_length])
                go_upto_region 8 with fail
                refine wp_region_lit ?_
                refine wpList_run 51 rfl rfl (.int .i64 ((p + u.length : Nat) : Int)) (exec_move (.tmp 7) rfl _ rfl) ?_
                go_frame
                refine wpList_run 52 rfl rfl (.int .i64 ((p + u.length : Nat) : Int)) (exec_move (.tmp 5) rfl _ rfl) ?_
                go_frame
                refine wpList_run 53 rfl rfl (.bool false) (exec_lssI' _ _ _ _ rfl .i64 (((p + u.length : Nat) : Int)) (((p + u.length : Nat) : Int)) false j1 rfl rfl) ?_
                go_frame
                refine wpList_nil ?_
                go_wp2_with (first | (refine wpList_dst 66 rfl ?_; refine wpList_run 66 rfl rfl _ (exec_buildF 33 #[(0, .const (.int .i64 2)), (1, .tmp 64), (3, .tmp 65)] rfl #[(0, .int .i64 2), (1, .int .i64 p), (3, .int .i64 ((numV (u.take u.length) : Nat) : Int))] rfl _ (build_kv 2 p _ _)) ?_; go_frame) | (refine wpList_dst 68 rfl ?_; refine wpList_run 68 rfl rfl _ (exec_buildF 50 #[(0, .tmp 66), (1, .tmp 67)] rfl #[(0, .agg #[.int .i64 2, .int .i64 p, .string ByteArray.empty, .int .i64 ((numV (u.take u.length) : Nat) : Int)]), (1, .int .i64 ((p + u.length : Nat) : Int))] rfl _ (build_ot 2 p _ _ ByteArray.empty _)) ?_; go_frame) | (refine wpList_store_all rfl 50 (.tmp 4) (.tmp 68) rfl w.heap.size 50 zO [.int .i64 2, .int .i64 p, .string ByteArray.empty, .int .i64 ((numV (u.take u.length) : Nat) : Int), .int .i64 ((p + u.length : Nat) : Int), .int .i64 0] rfl rfl HP.out rfl on_size (List.forall_mem_cons.2 ⟨rfl, (List.forall_mem_cons.2 ⟨rfl, (List.forall_mem_cons.2 ⟨rfl, (List.forall_mem_cons.2 ⟨rfl, (List.forall_mem_cons.2 ⟨rfl, (List.forall_mem_cons.2 ⟨rfl, fun _ h => nomatch h⟩)⟩)⟩)⟩)⟩)⟩) ?_; intro w8 HP8 ho8; have HO8 := Lib.hid ho8; clear ho8))
                rw [HQ.out, ← HTK.out]
                exact bodyPost_ret (results_blk rfl _ _ w.heap.size _ [.int .i64 2, .int .i64 p, .string ByteArray.empty, .int .i64 ((numV (u.take u.length) : Nat) : Int), .int .i64 ((p + u.length : Nat) : Int), .int .i64 0] _ rfl HP8.out on_under rfl on_size) rfl ⟨rfl, HW.out.trans (HO8.out.below (Nat.le_refl _))⟩
        · have g1 : decide ((1 : Int) < (u.length : Int)) = false := decide_eq_false (by omega)
          have hy := HY.out (by omega) (.inl (by omega)) HNE.out
          have HOK := Lib.hid (show numOk u = true by rw [← hy.2]; exact hy.1)
          have HQ := Lib.hid (show q = .tok 2 [] (numV u) u.length by rw [HST.out, hy.1, hy.2]; rfl)
          clear hy
          go_upto_region 4 with fail
          refine wp_region_lit ?_
          refine wpList_run 21 rfl rfl (.int .i64 ((p + u.length : Nat) : Int)) (exec_move (.tmp 5) rfl _ rfl) ?_
          go_frame
          refine wpList_run 22 rfl rfl (.int .i64 p) (exec_move (.tmp 1) rfl _ rfl) ?_
          go_frame
          refine wpList_run 23 rfl rfl (.int .i64 u.length) (exec_subI _ _ _ _ rfl _ _ _ rfl rfl HSB2.out) ?_
          go_frame
          refine wpList_run 24 rfl rfl (.bool false) (exec_gtrI _ _ _ _ rfl .i64 (u.length) (15) false g15 rfl rfl) ?_
          go_frame
          refine wpList_run 25 rfl rfl (.bool false) (exec_move (.tmp 24) rfl _ rfl) ?_
          go_frame
          refine wpList_runG 26 rfl (by first | rfl | kernel_rfl) (.int .i64 ((p + u.length : Nat) : Int)) (exec_move (.tmp 5) rfl _ rfl) ?_
          go_frame
          refine wpList_runG 27 rfl (by first | rfl | kernel_rfl) (.int .i64 p) (exec_move (.tmp 1) rfl _ rfl) ?_
          go_frame
          refine wpList_runG 28 rfl (by first | rfl | kernel_rfl) (.int .i64 u.length) (exec_subI _ _ _ _ rfl _ _ _ rfl rfl HSB2.out) ?_
          go_frame
          refine wpList_runG 29 rfl (by first | rfl | kernel_rfl) (.bool false) (exec_gtrI _ _ _ _ rfl .i64 (u.length) (1) false g1 rfl rfl) ?_
          go_frame
          refine wpList_runSkip 30 rfl (by first | rfl | kernel_rfl) (.bool false) (exec_move (.tmp 29) rfl _ rfl) 4 [31, 32, 33, 34] (by kernel_rfl) ?_
          simp only [List.drop_succ_cons, List.drop_zero, List.foldl_cons, List.foldl_nil]
          go_frame
          refine wpList_runG 35 rfl (by first | rfl | kernel_rfl) (.bool false) (exec_pickF _ _ _ rfl (.bool false) rfl rfl) ?_
          go_frame
          refine wpList_run 36 rfl rfl (.bool false) (exec_pickF _ _ _ rfl (.bool false) rfl rfl) ?_
          go_frame
          refine wpList_run 37 rfl rfl (.bool false) (exec_move (.tmp 36) rfl _ rfl) ?_
          go_frame
          refine wpList_runG 38 rfl (by first | rfl | kernel_rfl) (.int .i64 ((p + u.length : Nat) : Int)) (exec_move (.tmp 5) rfl _ rfl) ?_
          go_frame
          refine wpList_runG 39 rfl (by first | rfl | kernel_rfl) (.string (sb l)) (exec_move (.tmp 0) rfl _ rfl) ?_
          go_frame
          refine wpList_runG 40 rfl (by first | rfl | kernel_rfl) (.int .i64 (sb l).size) (exec_lenS (.tmp 39) rfl (sb l) rfl) ?_
          go_frame
          refine wpList_runG 41 rfl (by first | rfl | kernel_rfl) (.bool false) (exec_lssI' _ _ _ _ rfl .i64 (((p + u.length : Nat) : Int)) ((sb l).size) false l1 rfl rfl) ?_
          go_frame
          refine wpList_runSkip 42 rfl (by first | rfl | kernel_rfl) (.bool false) (exec_move (.tmp 41) rfl _ rfl) 4 [43, 44, 45, 46] (by kernel_rfl) ?_
          simp only [List.drop_succ_cons, List.drop_zero, List.foldl_cons, List.foldl_nil]
          go_frame
          refine wpList_runG 47 rfl (by first | rfl | kernel_rfl) (.bool false) (exec_pickF _ _ _ rfl (.bool false) rfl rfl) ?_
          go_frame
          refine wpList_run 48 rfl rfl (.bool false) (exec_pickF _ _ _ rfl (.bool false) rfl rfl) ?_
          go_frame
          refine wpList_nil ?_
          go_wp2_with fail
          obtain ⟨wv, rfl⟩ : ∃ wv : World, wv = wr := ⟨_, rfl⟩
          go_loopw [6, 7] (fun a b wr => ∃ j : Nat, a = .int .i64 ((numV (u.take j) : Nat) : Int) ∧ b = .int .i64 ((p + j : Nat) : Int) ∧ j ≤ u.length ∧ Hid (Blk wr w.heap.size 50 zO) ∧ Hid (Below w.heap.size w wr)) (fun _ b _ => p + u.length - (intOf b).toNat)
          case atStart => exact ⟨0, rfl, rfl, Nat.zero_le _, HP, HW⟩
          case round =>
            clear HP HW
            obtain ⟨j, rfl, rfl, hj, HP, HW⟩ := hrel
            have hnv := numV_lt (numOk_take HOK.out j)
            by_cases hjl : j < u.length
            · obtain ⟨e, he, he2, he3⟩ := HIN.out j hjl
              have HEC := Lib.hid (show (sb l).data.toList[p + j]? = some e by rw [sb_list]; exact he)
              have HNX := Lib.hid (numV_take he3)
              have hdg := dg_eq he2
              have j1 : decide (((p + j : Nat) : Int) < ((p + u.length : Nat) : Int)) = true := decide_eq_true (by omega)
              clear he he2 he3
              generalize numV (u.take j) = n at hnv HNX
              have HM := Lib.hid (mul_ten n hnv)
              have HS4 := Lib.hid (sub_48 e hdg.1)
              have HCV := Lib.hid (conv_u8n (e.toNat - 48) (by omega))
              have HAD := Lib.hid (show IntKind.i64.wrap (((10 * n : Nat) : Int) + ((e.toNat - 48 : Nat) : Int)) = ((10 * n + (e.toNat - 48) : Nat) : Int) from wrap_add _ _ (by omega))
              go_upto_region 8 with fail
              refine wp_region_lit ?_
              refine wpList_run 51 rfl rfl (.int .i64 ((p + j : Nat) : Int)) (exec_move (.tmp 7) rfl _ rfl) ?_
              go_frame
              refine wpList_run 52 rfl rfl (.int .i64 ((p + u.length : Nat) : Int)) (exec_move (.tmp 5) rfl _ rfl) ?_
              go_frame
              refine wpList_run 53 rfl rfl (.bool true) (exec_lssI' _ _ _ _ rfl .i64 (((p + j : Nat) : Int)) (((p + u.length : Nat) : Int)) true j1 rfl rfl) ?_
              go_frame
              refine wpList_nil ?_
              go_upto_region 10 with fail
              refine wp_region_lit ?_
              refine wpList_run 56 rfl rfl (.int .i64 n) (exec_move (.tmp 6) rfl _ rfl) ?_
              go_frame
              refine wpList_run 57 rfl rfl (.int .i64 ((10 * n : Nat) : Int)) (exec_bin .mul 3 _ _ (.tmp 56) rfl (.int .i64 10) (.int .i64 n) _ rfl rfl rfl (HM.out _)) ?_
              go_frame
              refine wpList_run 58 rfl rfl (.string (sb l)) (exec_move (.tmp 0) rfl _ rfl) ?_
              go_frame
              refine wpList_run 59 rfl rfl (.int .i64 ((p + j : Nat) : Int)) (exec_move (.tmp 7) rfl _ rfl) ?_
              go_frame
              refine wpList_run 60 rfl rfl (.int .u8 e.toNat) (exec_index 9 (.tmp 58) (.tmp 59) rfl _ _ (.int .u8 e.toNat) rfl rfl (sb_at (sb l) (k := p + j) HEC.out _)) ?_
              go_frame
              refine wpList_run 61 rfl rfl (.int .u8 ((e.toNat - 48 : Nat) : Int)) (exec_bin .sub 5 _ (.tmp 60) _ rfl (.int .u8 e.toNat) (.int .u8 48) _ rfl rfl rfl (HS4.out _)) ?_
              go_frame
              refine wpList_run 62 rfl rfl (.int .i64 ((e.toNat - 48 : Nat) : Int)) (exec_convert 5 3 (.tmp 61) rfl _ _ rfl (HCV.out _)) ?_
              go_frame
              refine wpList_run 63 rfl rfl (.int .i64 ((10 * n + (e.toNat - 48) : Nat) : Int)) (exec_addI _ _ _ _ rfl _ _ _ rfl rfl HAD.out) ?_
              go_frame
              refine wpList_run 6 rfl rfl (.int .i64 ((10 * n + (e.toNat - 48) : Nat) : Int)) (exec_assign (.tmp 63) rfl _ rfl) ?_
              go_frame
              refine wpList_nil ?_
              go_wp2_with fail
              go_roundw
              case rel => exact ⟨j + 1, by rw [HNX.out], by go_num, by omega, HP, HW⟩
              case measure => simp [intOf]; omega
            · obtain rfl : j = u.length := by omega
              have j1 : decide (((p + u.length : Nat) : Int) < ((p + u.length : Nat) : Int)) = false := decide_eq_false (by omega)
              have HTK := Lib.hid (show numV (u.take u.length) = numV u by rw [List.take_length])
              go_upto_region 8 with fail
              refine wp_region_lit ?_
              refine wpList_run 51 rfl rfl (.int .i64 ((p + u.length : Nat) : Int)) (exec_move (.tmp 7) rfl _ rfl) ?_
              go_frame
              refine wpList_run 52 rfl rfl (.int .i64 ((p + u.length : Nat) : Int)) (exec_move (.tmp 5) rfl _ rfl) ?_
              go_frame
              refine wpList_run 53 rfl rfl (.bool false) (exec_lssI' _ _ _ _ rfl .i64 (((p + u.length : Nat) : Int)) (((p + u.length : Nat) : Int)) false j1 rfl rfl) ?_
              go_frame
              refine wpList_nil ?_
              go_wp2_with (first | (refine wpList_dst 66 rfl ?_; refine wpList_run 66 rfl rfl _ (exec_buildF 33 #[(0, .const (.int .i64 2)), (1, .tmp 64), (3, .tmp 65)] rfl #[(0, .int .i64 2), (1, .int .i64 p), (3, .int .i64 ((numV (u.take u.length) : Nat) : Int))] rfl _ (build_kv 2 p _ _)) ?_; go_frame) | (refine wpList_dst 68 rfl ?_; refine wpList_run 68 rfl rfl _ (exec_buildF 50 #[(0, .tmp 66), (1, .tmp 67)] rfl #[(0, .agg #[.int .i64 2, .int .i64 p, .string ByteArray.empty, .int .i64 ((numV (u.take u.length) : Nat) : Int)]), (1, .int .i64 ((p + u.length : Nat) : Int))] rfl _ (build_ot 2 p _ _ ByteArray.empty _)) ?_; go_frame) | (refine wpList_store_all rfl 50 (.tmp 4) (.tmp 68) rfl w.heap.size 50 zO [.int .i64 2, .int .i64 p, .string ByteArray.empty, .int .i64 ((numV (u.take u.length) : Nat) : Int), .int .i64 ((p + u.length : Nat) : Int), .int .i64 0] rfl rfl HP.out rfl on_size (List.forall_mem_cons.2 ⟨rfl, (List.forall_mem_cons.2 ⟨rfl, (List.forall_mem_cons.2 ⟨rfl, (List.forall_mem_cons.2 ⟨rfl, (List.forall_mem_cons.2 ⟨rfl, (List.forall_mem_cons.2 ⟨rfl, fun _ h => nomatch h⟩)⟩)⟩)⟩)⟩)⟩) ?_; intro w8 HP8 ho8; have HO8 := Lib.hid ho8; clear ho8))
              rw [HQ.out, ← HTK.out]
              exact bodyPost_ret (results_blk rfl _ _ w.heap.size _ [.int .i64 2, .int .i64 p, .string ByteArray.empty, .int .i64 ((numV (u.take u.length) : Nat) : Int), .int .i64 ((p + u.length : Nat) : Int), .int .i64 0] _ rfl HP8.out on_under rfl on_size) rfl ⟨rfl, HW.out.trans (HO8.out.below (Nat.le_refl _))⟩
      · have HC := Lib.hid (show (sb l).data.toList[p + u.length]? = some d by rw [sb_list]; exact hd)
        have hlt2 := (List.getElem?_eq_some_iff.1 hd).1
        have l1 : decide (((p + u.length : Nat) : Int) < ((sb l).size : Int)) = true := decide_eq_true (by rw [HZ.out]; omega)
        have HDG := Lib.hid hw
        have HDD := Lib.hid hd
        clear hd hw
        go_upto_region 2 with fail
        refine wp_region_lit ?_
        refine wpList_run 9 rfl rfl (.int .i64 ((p + u.length : Nat) : Int)) (exec_move (.tmp 5) rfl _ rfl) ?_
        go_frame
        refine wpList_run 10 rfl rfl (.string (sb l)) (exec_move (.tmp 0) rfl _ rfl) ?_
        go_frame
        refine wpList_run 11 rfl rfl (.int .i64 (sb l).size) (exec_lenS (.tmp 10) rfl (sb l) rfl) ?_
        go_frame
        refine wpList_run 12 rfl rfl (.bool true) (exec_lssI' _ _ _ _ rfl .i64 (((p + u.length : Nat) : Int)) ((sb l).size) true l1 rfl rfl) ?_
        go_frame
        refine wpList_run 13 rfl rfl (.bool true) (exec_move (.tmp 12) rfl _ rfl) ?_
        go_frame
        refine wpList_runG 14 rfl (by first | rfl | kernel_rfl) (.string (sb l)) (exec_move (.tmp 0) rfl _ rfl) ?_
        go_frame
        refine wpList_runG 15 rfl (by first | rfl | kernel_rfl) (.int .i64 ((p + u.length : Nat) : Int)) (exec_move (.tmp 5) rfl _ rfl) ?_
        go_frame
        refine wpList_runG 16 rfl (by first | rfl | kernel_rfl) (.int .u8 d.toNat) (exec_index 9 (.tmp 14) (.tmp 15) rfl _ _ (.int .u8 d.toNat) rfl rfl (sb_at (sb l) (k := p + u.length) HC.out _)) ?_
        go_frame
        refine wpList_callF 17 rfl (by first | rfl | kernel_rfl) rfl Tryd.func33 (by kernel_rfl) (by kernel_rfl) #[.int .u8 d.toNat] rfl (digit_any d false HDG.out _) ?_
        rintro e wz ⟨rfl, rfl⟩
        refine ⟨_, rfl, ?_⟩
        go_frame
        refine wpList_run 18 rfl rfl (.bool false) (exec_pickT _ _ _ rfl (.bool false) rfl rfl) ?_
        go_frame
        refine wpList_nil ?_
        cases hle : lt d with
        | true =>
          have HLE := Lib.hid hle
          clear hle
          by_cases h15 : 15 < u.length
          · have g15 : decide ((15 : Int) < (u.length : Int)) = true := decide_eq_true (by omega)
            have HQ := Lib.hid (show q = .bad 27 by rw [HST.out, HB1.out h15]; rfl)
            go_upto_region 4 with fail
            refine wp_region_lit ?_
            refine wpList_run 21 rfl rfl (.int .i64 ((p + u.length : Nat) : Int)) (exec_move (.tmp 5) rfl _ rfl) ?_
            go_frame
            refine wpList_run 22 rfl rfl (.int .i64 p) (exec_move (.tmp 1) rfl _ rfl) ?_
            go_frame
            refine wpList_run 23 rfl rfl (.int .i64 u.length) (exec_subI _ _ _ _ rfl _ _ _ rfl rfl HSB2.out) ?_
            go_frame
            refine wpList_run 24 rfl rfl (.bool true) (exec_gtrI _ _ _ _ rfl .i64 (u.length) (15) true g15 rfl rfl) ?_
            go_frame
            refine wpList_runSkip 25 rfl (by first | rfl | kernel_rfl) (.bool true) (exec_move (.tmp 24) rfl _ rfl) 10 [26, 27, 28, 29, 30, 31, 32, 33, 34, 35] (by kernel_rfl) ?_
            simp only [List.drop_succ_cons, List.drop_zero, List.foldl_cons, List.foldl_nil]
            go_frame
            refine wpList_run 36 rfl rfl (.bool true) (exec_pickT _ _ _ rfl (.bool true) rfl rfl) ?_
            go_frame
            refine wpList_runSkip 37 rfl (by first | rfl | kernel_rfl) (.bool true) (exec_move (.tmp 36) rfl _ rfl) 10 [38, 39, 40, 41, 42, 43, 44, 45, 46, 47] (by kernel_rfl) ?_
            simp only [List.drop_succ_cons, List.drop_zero, List.foldl_cons, List.foldl_nil]
            go_frame
            refine wpList_run 48 rfl rfl (.bool true) (exec_pickT _ _ _ rfl (.bool true) rfl rfl) ?_
            go_frame
            refine wpList_nil ?_
            go_wp2_with (first | (refine wpList_dst 49 rfl ?_; refine wpList_run 49 rfl rfl _ (exec_buildF 50 #[(2, .const (.int .i64 27))] rfl #[(2, .int .i64 27)] rfl _ (build_oe 27 _)) ?_; go_frame) | (refine wpList_store_all rfl 50 (.tmp 4) (.tmp 49) rfl w.heap.size 50 zO [.int .i64 0, .int .i64 0, .string ByteArray.empty, .int .i64 0, .int .i64 0, .int .i64 27] rfl rfl HP.out rfl on_size (List.forall_mem_cons.2 ⟨rfl, (List.forall_mem_cons.2 ⟨rfl, (List.forall_mem_cons.2 ⟨rfl, (List.forall_mem_cons.2 ⟨rfl, (List.forall_mem_cons.2 ⟨rfl, (List.forall_mem_cons.2 ⟨rfl, fun _ h => nomatch h⟩)⟩)⟩)⟩)⟩)⟩) ?_; intro w8 HP8 ho8; have HO8 := Lib.hid ho8; clear ho8))
            rw [HQ.out]
            exact bodyPost_ret (results_blk rfl _ _ w.heap.size _ [.int .i64 0, .int .i64 0, .string ByteArray.empty, .int .i64 0, .int .i64 0, .int .i64 27] _ rfl HP8.out on_under rfl on_size) rfl ⟨rfl, HW.out.trans (HO8.out.below (Nat.le_refl _))⟩
          have g15 : decide ((15 : Int) < (u.length : Int)) = false := decide_eq_false (by omega)
          by_cases h1 : 1 < u.length
          · have g1 : decide ((1 : Int) < (u.length : Int)) = true := decide_eq_true (by omega)
            by_cases h48 : c.toNat = 48
            · have g48 : ((c.toNat : Int) == 48) = true := by rw [h48]; rfl
              have HQ := Lib.hid (show q = .bad 27 by rw [HST.out, HB2.out h1 h48]; rfl)
              go_upto_region 4 with fail
              refine wp_region_lit ?_
              refine wpList_run 21 rfl rfl (.int .i64 ((p + u.length : Nat) : Int)) (exec_move (.tmp 5) rfl _ rfl) ?_
              go_frame
              refine wpList_run 22 rfl rfl (.int .i64 p) (exec_move (.tmp 1) rfl _ rfl) ?_
              go_frame
              refine wpList_run 23 rfl rfl (.int .i64 u.length) (exec_subI _ _ _ _ rfl _ _ _ rfl rfl HSB2.out) ?_
              go_frame
              refine wpList_run 24 rfl rfl (.bool false) (exec_gtrI _ _ _ _ rfl .i64 (u.length) (15) false g15 rfl rfl) ?_
              go_frame
              refine wpList_run 25 rfl rfl (.bool false) (exec_move (.tmp 24) rfl _ rfl) ?_
              go_frame
              refine wpList_runG 26 rfl (by first | rfl | kernel_rfl) (.int .i64 ((p + u.length : Nat) : Int)) (exec_move (.tmp 5) rfl _ rfl) ?_
              go_frame
              refine wpList_runG 27 rfl (by first | rfl | kernel_rfl) (.int .i64 p) (exec_move (.tmp 1) rfl _ rfl) ?_
              go_frame
              refine wpList_runG 28 rfl (by first | rfl | kernel_rfl) (.int .i64 u.length) (exec_subI _ _ _ _ rfl _ _ _ rfl rfl HSB2.out) ?_
              go_frame
              refine wpList_runG 29 rfl (by first | rfl | kernel_rfl) (.bool true) (exec_gtrI _ _ _ _ rfl .i64 (u.length) (1) true g1 rfl rfl) ?_
              go_frame
              refine wpList_runG 30 rfl (by first | rfl | kernel_rfl) (.bool true) (exec_move (.tmp 29) rfl _ rfl) ?_
              go_frame
              refine wpList_runG 31 rfl (by first | rfl | kernel_rfl) (.string (sb l)) (exec_move (.tmp 0) rfl _ rfl) ?_
              go_frame
              refine wpList_runG 32 rfl (by first | rfl | kernel_rfl) (.int .i64 p) (exec_move (.tmp 1) rfl _ rfl) ?_
              go_frame
              refine wpList_runG 33 rfl (by first | rfl | kernel_rfl) (.int .u8 c.toNat) (exec_index 9 (.tmp 31) (.tmp 32) rfl _ _ (.int .u8 c.toNat) rfl rfl (sb_at (sb l) (k := p) HCC.out _)) ?_
              go_frame
              refine wpList_runG 34 rfl (by first | rfl | kernel_rfl) (.bool true) (exec_eqlI _ _ _ _ rfl .u8 (c.toNat) (48) true g48 rfl rfl) ?_
              go_frame
              refine wpList_runG 35 rfl (by first | rfl | kernel_rfl) (.bool true) (exec_pickT _ _ _ rfl (.bool true) rfl rfl) ?_
              go_frame
              refine wpList_run 36 rfl rfl (.bool true) (exec_pickF _ _ _ rfl (.bool true) rfl rfl) ?_
              go_frame
              refine wpList_runSkip 37 rfl (by first | rfl | kernel_rfl) (.bool true) (exec_move (.tmp 36) rfl _ rfl) 10 [38, 39, 40, 41, 42, 43, 44, 45, 46, 47] (by kernel_rfl) ?_
              simp only [List.drop_succ_cons, List.drop_zero, List.foldl_cons, List.foldl_nil]
              go_frame
              refine wpList_run 48 rfl rfl (.bool true) (exec_pickT _ _ _ rfl (.bool true) rfl rfl) ?_
              go_frame
              refine wpList_nil ?_
              go_wp2_with (first | (refine wpList_dst 49 rfl ?_; refine wpList_run 49 rfl rfl _ (exec_buildF 50 #[(2, .const (.int .i64 27))] rfl #[(2, .int .i64 27)] rfl _ (build_oe 27 _)) ?_; go_frame) | (refine wpList_store_all rfl 50 (.tmp 4) (.tmp 49) rfl w.heap.size 50 zO [.int .i64 0, .int .i64 0, .string ByteArray.empty, .int .i64 0, .int .i64 0, .int .i64 27] rfl rfl HP.out rfl on_size (List.forall_mem_cons.2 ⟨rfl, (List.forall_mem_cons.2 ⟨rfl, (List.forall_mem_cons.2 ⟨rfl, (List.forall_mem_cons.2 ⟨rfl, (List.forall_mem_cons.2 ⟨rfl, (List.forall_mem_cons.2 ⟨rfl, fun _ h => nomatch h⟩)⟩)⟩)⟩)⟩)⟩) ?_; intro w8 HP8 ho8; have HO8 := Lib.hid ho8; clear ho8))
              rw [HQ.out]
              exact bodyPost_ret (results_blk rfl _ _ w.heap.size _ [.int .i64 0, .int .i64 0, .string ByteArray.empty, .int .i64 0, .int .i64 0, .int .i64 27] _ rfl HP8.out on_under rfl on_size) rfl ⟨rfl, HW.out.trans (HO8.out.below (Nat.le_refl _))⟩
            · have g48 : ((c.toNat : Int) == 48) = false := by rw [beq_eq_false_iff_ne]; omega
              have HQ := Lib.hid (show q = .bad 27 by rw [HST.out, HB3.out d HDD.out HLE.out]; rfl)
              go_upto_region 4 with fail
              refine wp_region_lit ?_
              refine wpList_run 21 rfl rfl (.int .i64 ((p + u.length : Nat) : Int)) (exec_move (.tmp 5) rfl _ rfl) ?_
              go_frame
              refine wpList_run 22 rfl rfl (.int .i64 p) (exec_move (.tmp 1) rfl _ rfl) ?_
              go_frame
              refine wpList_run 23 rfl rfl (.int .i64 u.length) (exec_subI _ _ _ _ rfl _ _ _ rfl rfl HSB2.out) ?_
              go_frame
              refine wpList_run 24 rfl rfl (.bool false) (exec_gtrI _ _ _ _ rfl .i64 (u.length) (15) false g15 rfl rfl) ?_
              go_frame
              refine wpList_run 25 rfl rfl (.bool false) (exec_move (.tmp 24) rfl _ rfl) ?_
              go_frame
              refine wpList_runG 26 rfl (by first | rfl | kernel_rfl) (.int .i64 ((p + u.length : Nat) : Int)) (exec_move (.tmp 5) rfl _ rfl) ?_
              go_frame
              refine wpList_runG 27 rfl (by first | rfl | kernel_rfl) (.int .i64 p) (exec_move (.tmp 1) rfl _ rfl) ?_
              go_frame
              refine wpList_runG 28 rfl (by first | rfl | kernel_rfl) (.int .i64 u.length) (exec_subI _ _ _ _ rfl _ _ _ rfl rfl HSB2.out) ?_
              go_frame
              refine wpList_runG 29 rfl (by first | rfl | kernel_rfl) (.bool true) (exec_gtrI _ _ _ _ rfl .i64 (u.length) (1) true g1 rfl rfl) ?_
              go_frame
              refine wpList_runG 30 rfl (by first | rfl | kernel_rfl) (.bool true) (exec_move (.tmp 29) rfl _ rfl) ?_
              go_frame
              refine wpList_runG 31 rfl (by first | rfl | kernel_rfl) (.string (sb l)) (exec_move (.tmp 0) rfl _ rfl) ?_
              go_frame
              refine wpList_runG 32 rfl (by first | rfl | kernel_rfl) (.int .i64 p) (exec_move (.tmp 1) rfl _ rfl) ?_
              go_frame
              refine wpList_runG 33 rfl (by first | rfl | kernel_rfl) (.int .u8 c.toNat) (exec_index 9 (.tmp 31) (.tmp 32) rfl _ _ (.int .u8 c.toNat) rfl rfl (sb_at (sb l) (k := p) HCC.out _)) ?_
              go_frame
              refine wpList_runG 34 rfl (by first | rfl | kernel_rfl) (.bool false) (exec_eqlI _ _ _ _ rfl .u8 (c.toNat) (48) false g48 rfl rfl) ?_
              go_frame
              refine wpList_runG 35 rfl (by first | rfl | kernel_rfl) (.bool false) (exec_pickT _ _ _ rfl (.bool false) rfl rfl) ?_
              go_frame
              refine wpList_run 36 rfl rfl (.bool false) (exec_pickF _ _ _ rfl (.bool false) rfl rfl) ?_
              go_frame
              refine wpList_run 37 rfl rfl (.bool false) (exec_move (.tmp 36) rfl _ rfl) ?_
              go_frame
              refine wpList_runG 38 rfl (by first | rfl | kernel_rfl) (.int .i64 ((p + u.length : Nat) : Int)) (exec_move (.tmp 5) rfl _ rfl) ?_
              go_frame
              refine wpList_runG 39 rfl (by first | rfl | kernel_rfl) (.string (sb l)) (exec_move (.tmp 0) rfl _ rfl) ?_
              go_frame
              refine wpList_runG 40 rfl (by first | rfl | kernel_rfl) (.int .i64 (sb l).size) (exec_lenS (.tmp 39) rfl (sb l) rfl) ?_
              go_frame
              refine wpList_runG 41 rfl (by first | rfl | kernel_rfl) (.bool true) (exec_lssI' _ _ _ _ rfl .i64 (((p + u.length : Nat) : Int)) ((sb l).size) true l1 rfl rfl) ?_
              go_frame
              refine wpList_runG 42 rfl (by first | rfl | kernel_rfl) (.bool true) (exec_move (.tmp 41) rfl _ rfl) ?_
              go_frame
              refine wpList_runG 43 rfl (by first | rfl | kernel_rfl) (.string (sb l)) (exec_move (.tmp 0) rfl _ rfl) ?_
              go_frame
              refine wpList_runG 44 rfl (by first | rfl | kernel_rfl) (.int .i64 ((p + u.length : Nat) : Int)) (exec_move (.tmp 5) rfl _ rfl) ?_
              go_frame
              refine wpList_runG 45 rfl (by first | rfl | kernel_rfl) (.int .u8 d.toNat) (exec_index 9 (.tmp 43) (.tmp 44) rfl _ _ (.int .u8 d.toNat) rfl rfl (sb_at (sb l) (k := p + u.length) HC.out _)) ?_
              go_frame
              refine wpList_callF 46 rfl (by first | rfl | kernel_rfl) rfl Tryd.func31 (by kernel_rfl) (by kernel_rfl) #[.int .u8 d.toNat] rfl (letter_any d true HLE.out _) ?_
              rintro e wz ⟨rfl, rfl⟩
              refine ⟨_, rfl, ?_⟩
              go_frame
              refine wpList_runG 47 rfl (by first | rfl | kernel_rfl) (.bool true) (exec_pickT _ _ _ rfl (.bool true) rfl rfl) ?_
              go_frame
              refine wpList_run 48 rfl rfl (.bool true) (exec_pickF _ _ _ rfl (.bool true) rfl rfl) ?_
              go_frame
              refine wpList_nil ?_
              go_wp2_with (first | (refine wpList_dst 49 rfl ?_; refine wpList_run 49 rfl rfl _ (exec_buildF 50 #[(2, .const (.int .i64 27))] rfl #[(2, .int .i64 27)] rfl _ (build_oe 27 _)) ?_; go_frame) | (refine wpList_store_all rfl 50 (.tmp 4) (.tmp 49) rfl w.heap.size 50 zO [.int .i64 0, .int .i64 0, .string ByteArray.empty, .int .i64 0, .int .i64 0, .int .i64 27] rfl rfl HP.out rfl on_size (List.forall_mem_cons.2 ⟨rfl, (List.forall_mem_cons.2 ⟨rfl, (List.forall_mem_cons.2 ⟨rfl, (List.forall_mem_cons.2 ⟨rfl, (List.forall_mem_cons.2 ⟨rfl, (List.forall_mem_cons.2 ⟨rfl, fun _ h => nomatch h⟩)⟩)⟩)⟩)⟩)⟩) ?_; intro w8 HP8 ho8; have HO8 := Lib.hid ho8; clear ho8))
              rw [HQ.out]
              exact bodyPost_ret (results_blk rfl _ _ w.heap.size _ [.int .i64 0, .int .i64 0, .string ByteArray.empty, .int .i64 0, .int .i64 0, .int .i64 27] _ rfl HP8.out on_under rfl on_size) rfl ⟨rfl, HW.out.trans (HO8.out.below (Nat.le_refl _))⟩
          · have g1 : decide ((1 : Int) < (u.length : Int)) = false := decide_eq_false (by omega)
            have HQ := Lib.hid (show q = .bad 27 by rw [HST.out, HB3.out d HDD.out HLE.out]; rfl)
            go_upto_region 4 with fail
            refine wp_region_lit ?_
            refine wpList_run 21 rfl rfl (.int .i64 ((p + u.length : Nat) : Int)) (exec_move (.tmp 5) rfl _ rfl) ?_
            go_frame
            refine wpList_run 22 rfl rfl (.int .i64 p) (exec_move (.tmp 1) rfl _ rfl) ?_
            go_frame
            refine wpList_run 23 rfl rfl (.int .i64 u.length) (exec_subI _ _ _ _ rfl _ _ _ rfl rfl HSB2.out) ?_
            go_frame
            refine wpList_run 24 rfl rfl (.bool false) (exec_gtrI _ _ _ _ rfl .i64 (u.length) (15) false g15 rfl rfl) ?_
            go_frame
            refine wpList_run 25 rfl rfl (.bool false) (exec_move (.tmp 24) rfl _ rfl) ?_
            go_frame
            refine wpList_runG 26 rfl (by first | rfl | kernel_rfl) (.int .i64 ((p + u.length : Nat) : Int)) (exec_move (.tmp 5) rfl _ rfl) ?_
            go_frame
            refine wpList_runG 27 rfl (by first | rfl | kernel_rfl) (.int .i64 p) (exec_move (.tmp 1) rfl _ rfl) ?_
            go_frame
            refine wpList_runG 28 rfl (by first | rfl | kernel_rfl) (.int .i64 u.length) (exec_subI _ _ _ _ rfl _ _ _ rfl rfl HSB2.out) ?_
            go_frame
            refine wpList_runG 29 rfl (by first | rfl | kernel_rfl) (.bool false) (exec_gtrI _ _ _ _ rfl .i64 (u.length) (1) false g1 rfl rfl) ?_
            go_frame
            refine wpList_runSkip 30 rfl (by first | rfl | kernel_rfl) (.bool false) (exec_move (.tmp 29) rfl _ rfl) 4 [31, 32, 33, 34] (by kernel_rfl) ?_
            simp only [List.drop_succ_cons, List.drop_zero, List.foldl_cons, List.foldl_nil]
            go_frame
            refine wpList_runG 35 rfl (by first | rfl | kernel_rfl) (.bool false) (exec_pickF _ _ _ rfl (.bool false) rfl rfl) ?_
            go_frame
            refine wpList_run 36 rfl rfl (.bool false) (exec_pickF _ _ _ rfl (.bool false) rfl rfl) ?_
            go_frame
            refine wpList_run 37 rfl rfl (.bool false) (exec_move (.tmp 36) rfl _ rfl) ?_
            go_frame
            refine wpList_runG 38 rfl (by first | rfl | kernel_rfl) (.int .i64 ((p + u.length : Nat) : Int)) (exec_move (.tmp 5) rfl _ rfl) ?_
            go_frame
            refine wpList_runG 39 rfl (by first | rfl | kernel_rfl) (.string (sb l)) (exec_move (.tmp 0) rfl _ rfl) ?_
            go_frame
            refine wpList_runG 40 rfl (by first | rfl | kernel_rfl) (.int .i64 (sb l).size) (exec_lenS (.tmp 39) rfl (sb l) rfl) ?_
            go_frame
            refine wpList_runG 41 rfl (by first | rfl | kernel_rfl) (.bool true) (exec_lssI' _ _ _ _ rfl .i64 (((p + u.length : Nat) : Int)) ((sb l).size) true l1 rfl rfl) ?_
            go_frame
            refine wpList_runG 42 rfl (by first | rfl | kernel_rfl) (.bool true) (exec_move (.tmp 41) rfl _ rfl) ?_
            go_frame
            refine wpList_runG 43 rfl (by first | rfl | kernel_rfl) (.string (sb l)) (exec_move (.tmp 0) rfl _ rfl) ?_
            go_frame
            refine wpList_runG 44 rfl (by first | rfl | kernel_rfl) (.int .i64 ((p + u.length : Nat) : Int)) (exec_move (.tmp 5) rfl _ rfl) ?_
            go_frame
            refine wpList_runG 45 rfl (by first | rfl | kernel_rfl) (.int .u8 d.toNat) (exec_index 9 (.tmp 43) (.tmp 44) rfl _ _ (.int .u8 d.toNat) rfl rfl (sb_at (sb l) (k := p + u.length) HC.out _)) ?_
            go_frame
            refine wpList_callF 46 rfl (by first | rfl | kernel_rfl) rfl Tryd.func31 (by kernel_rfl) (by kernel_rfl) #[.int .u8 d.toNat] rfl (letter_any d true HLE.out _) ?_
            rintro e wz ⟨rfl, rfl⟩
            refine ⟨_, rfl, ?_⟩
            go_frame
            refine wpList_runG 47 rfl (by first | rfl | kernel_rfl) (.bool true) (exec_pickT _ _ _ rfl (.bool true) rfl rfl) ?_
            go_frame
            refine wpList_run 48 rfl rfl (.bool true) (exec_pickF _ _ _ rfl (.bool true) rfl rfl) ?_
            go_frame
            refine wpList_nil ?_
            go_wp2_with (first | (refine wpList_dst 49 rfl ?_; refine wpList_run 49 rfl rfl _ (exec_buildF 50 #[(2, .const (.int .i64 27))] rfl #[(2, .int .i64 27)] rfl _ (build_oe 27 _)) ?_; go_frame) | (refine wpList_store_all rfl 50 (.tmp 4) (.tmp 49) rfl w.heap.size 50 zO [.int .i64 0, .int .i64 0, .string ByteArray.empty, .int .i64 0, .int .i64 0, .int .i64 27] rfl rfl HP.out rfl on_size (List.forall_mem_cons.2 ⟨rfl, (List.forall_mem_cons.2 ⟨rfl, (List.forall_mem_cons.2 ⟨rfl, (List.forall_mem_cons.2 ⟨rfl, (List.forall_mem_cons.2 ⟨rfl, (List.forall_mem_cons.2 ⟨rfl, fun _ h => nomatch h⟩)⟩)⟩)⟩)⟩)⟩) ?_; intro w8 HP8 ho8; have HO8 := Lib.hid ho8; clear ho8))
            rw [HQ.out]
            exact bodyPost_ret (results_blk rfl _ _ w.heap.size _ [.int .i64 0, .int .i64 0, .string ByteArray.empty, .int .i64 0, .int .i64 0, .int .i64 27] _ rfl HP8.out on_under rfl on_size) rfl ⟨rfl, HW.out.trans (HO8.out.below (Nat.le_refl _))⟩
        | false =>
          have HNE := Lib.hid (show p + u.length = l.length ∨ ∃ d, l[p + u.length]? = some d ∧ wd d = false from .inr ⟨d, HDD.out, by simp [wd, HDG.out, hle]⟩)
          have HLE := Lib.hid hle
          clear hle
          by_cases h15 : 15 < u.length
          · have g15 : decide ((15 : Int) < (u.length : Int)) = true := decide_eq_true (by omega)
            have HQ := Lib.hid (show q = .bad 27 by rw [HST.out, HB1.out h15]; rfl)
            go_upto_region 4 with fail
            refine wp_region_lit ?_
            refine wpList_run 21 rfl rfl (.int .i64 ((p + u.length : Nat) : Int)) (exec_move (.tmp 5) rfl _ rfl) ?_
            go_frame
            refine wpList_run 22 rfl rfl (.int .i64 p) (exec_move (.tmp 1) rfl _ rfl) ?_
            go_frame
            refine wpList_run 23 rfl rfl (.int .i64 u.length) (exec_subI _ _ _ _ rfl _ _ _ rfl rfl HSB2.out) ?_
            go_frame
            refine wpList_run 24 rfl rfl (.bool true) (exec_gtrI _ _ _ _ rfl .i64 (u.length) (15) true g15 rfl rfl) ?_
            go_frame
            refine wpList_runSkip 25 rfl (by first | rfl | kernel_rfl) (.bool true) (exec_move (.tmp 24) rfl _ rfl) 10 [26, 27, 28, 29, 30, 31, 32, 33, 34, 35] (by kernel_rfl) ?_
            simp only [List.drop_succ_cons, List.drop_zero, List.foldl_cons, List.foldl_nil]
            go_frame
            refine wpList_run 36 rfl rfl (.bool true) (exec_pickT _ _ _ rfl (.bool true) rfl rfl) ?_
            go_frame
            refine wpList_runSkip 37 rfl (by first | rfl | kernel_rfl) (.bool true) (exec_move (.tmp 36) rfl _ rfl) 10 [38, 39, 40, 41, 42, 43, 44, 45, 46, 47] (by kernel_rfl) ?_
            simp only [List.drop_succ_cons, List.drop_zero, List.foldl_cons, List.foldl_nil]
            go_frame
            refine wpList_run 48 rfl rfl (.bool true) (exec_pickT _ _ _ rfl (.bool true) rfl rfl) ?_
            go_frame
            refine wpList_nil ?_
            go_wp2_with (first | (refine wpList_dst 49 rfl ?_; refine wpList_run 49 rfl rfl _ (exec_buildF 50 #[(2, .const (.int .i64 27))] rfl #[(2, .int .i64 27)] rfl _ (build_oe 27 _)) ?_; go_frame) | (refine wpList_store_all rfl 50 (.tmp 4) (.tmp 49) rfl w.heap.size 50 zO [.int .i64 0, .int .i64 0, .string ByteArray.empty, .int .i64 0, .int .i64 0, .int .i64 27] rfl rfl HP.out rfl on_size (List.forall_mem_cons.2 ⟨rfl, (List.forall_mem_cons.2 ⟨rfl, (List.forall_mem_cons.2 ⟨rfl, (List.forall_mem_cons.2 ⟨rfl, (List.forall_mem_cons.2 ⟨rfl, (List.forall_mem_cons.2 ⟨rfl, fun _ h => nomatch h⟩)⟩)⟩)⟩)⟩)⟩) ?_; intro w8 HP8 ho8; have HO8 := Lib.hid ho8; clear ho8))
            rw [HQ.out]
            exact bodyPost_ret (results_blk rfl _ _ w.heap.size _ [.int .i64 0, .int .i64 0, .string ByteArray.empty, .int .i64 0, .int .i64 0, .int .i64 27] _ rfl HP8.out on_under rfl on_size) rfl ⟨rfl, HW.out.trans (HO8.out.below (Nat.le_refl _))⟩
          have g15 : decide ((15 : Int) < (u.length : Int)) = false := decide_eq_false (by omega)
          by_cases h1 : 1 < u.length
          · have g1 : decide ((1 : Int) < (u.length : Int)) = true := decide_eq_true (by omega)
            by_cases h48 : c.toNat = 48
            · have g48 : ((c.toNat : Int) == 48) = true := by rw [h48]; rfl
              have HQ := Lib.hid (show q = .bad 27 by rw [HST.out, HB2.out h1 h48]; rfl)
              go_upto_region 4 with fail
              refine wp_region_lit ?_
              refine wpList_run 21 rfl rfl (.int .i64 ((p + u.length : Nat) : Int)) (exec_move (.tmp 5) rfl _ rfl) ?_
              go_frame
              refine wpList_run 22 rfl rfl (.int .i64 p) (exec_move (.tmp 1) rfl _ rfl) ?_
              go_frame
              refine wpList_run 23 rfl rfl (.int .i64 u.length) (exec_subI _ _ _ _ rfl _ _ _ rfl rfl HSB2.out) ?_
              go_frame
              refine wpList_run 24 rfl rfl (.bool false) (exec_gtrI _ _ _ _ rfl .i64 (u.length) (15) false g15 rfl rfl) ?_
              go_frame
              refine wpList_run 25 rfl rfl (.bool false) (exec_move (.tmp 24) rfl _ rfl) ?_
              go_frame
              refine wpList_runG 26 rfl (by first | rfl | kernel_rfl) (.int .i64 ((p + u.length : Nat) : Int)) (exec_move (.tmp 5) rfl _ rfl) ?_
              go_frame
              refine wpList_runG 27 rfl (by first | rfl | kernel_rfl) (.int .i64 p) (exec_move (.tmp 1) rfl _ rfl) ?_
              go_frame
              refine wpList_runG 28 rfl (by first | rfl | kernel_rfl) (.int .i64 u.length) (exec_subI _ _ _ _ rfl _ _ _ rfl rfl HSB2.out) ?_
              go_frame
              refine wpList_runG 29 rfl (by first | rfl | kernel_rfl) (.bool true) (exec_gtrI _ _ _ _ rfl .i64 (u.length) (1) true g1 rfl rfl) ?_
              go_frame
              refine wpList_runG 30 rfl (by first | rfl | kernel_rfl) (.bool true) (exec_move (.tmp 29) rfl _ rfl) ?_
              go_frame
              refine wpList_runG 31 rfl (by first | rfl | kernel_rfl) (.string (sb l)) (exec_move (.tmp 0) rfl _ rfl) ?_
              go_frame
              refine wpList_runG 32 rfl (by first | rfl | kernel_rfl) (.int .i64 p) (exec_move (.tmp 1) rfl _ rfl) ?_
              go_frame
              refine wpList_runG 33 rfl (by first | rfl | kernel_rfl) (.int .u8 c.toNat) (exec_index 9 (.tmp 31) (.tmp 32) rfl _ _ (.int .u8 c.toNat) rfl rfl (sb_at (sb l) (k := p) HCC.out _)) ?_
              go_frame
              refine wpList_runG 34 rfl (by first | rfl | kernel_rfl) (.bool true) (exec_eqlI _ _ _ _ rfl .u8 (c.toNat) (48) true g48 rfl rfl) ?_
              go_frame
              refine wpList_runG 35 rfl (by first | rfl | kernel_rfl) (.bool true) (exec_pickT _ _ _ rfl (.bool true) rfl rfl) ?_
              go_frame
              refine wpList_run 36 rfl rfl (.bool true) (exec_pickF _ _ _ rfl (.bool true) rfl rfl) ?_
              go_frame
              refine wpList_runSkip 37 rfl (by first | rfl | kernel_rfl) (.bool true) (exec_move (.tmp 36) rfl _ rfl) 10 [38, 39, 40, 41, 42, 43, 44, 45, 46, 47] (by kernel_rfl) ?_
              simp only [List.drop_succ_cons, List.drop_zero, List.foldl_cons, List.foldl_nil]
              go_frame
              refine wpList_run 48 rfl rfl (.bool true) (exec_pickT _ _ _ rfl (.bool true) rfl rfl) ?_
              go_frame
              refine wpList_nil ?_
              go_wp2_with (first | (refine wpList_dst 49 rfl ?_; refine wpList_run 49 rfl rfl _ (exec_buildF 50 #[(2, .const (.int .i64 27))] rfl #[(2, .int .i64 27)] rfl _ (build_oe 27 _)) ?_; go_frame) | (refine wpList_store_all rfl 50 (.tmp 4) (.tmp 49) rfl w.heap.size 50 zO [.int .i64 0, .int .i64 0, .string ByteArray.empty, .int .i64 0, .int .i64 0, .int .i64 27] rfl rfl HP.out rfl on_size (List.forall_mem_cons.2 ⟨rfl, (List.forall_mem_cons.2 ⟨rfl, (List.forall_mem_cons.2 ⟨rfl, (List.forall_mem_cons.2 ⟨rfl, (List.forall_mem_cons.2 ⟨rfl, (List.forall_mem_cons.2 ⟨rfl, fun _ h => nomatch h⟩)⟩)⟩)⟩)⟩)⟩) ?_; intro w8 HP8 ho8; have HO8 := Lib.hid ho8; clear ho8))
              rw [HQ.out]
              exact bodyPost_ret (results_blk rfl _ _ w.heap.size _ [.int .i64 0, .int .i64 0, .string ByteArray.empty, .int .i64 0, .int .i64 0, .int .i64 27] _ rfl HP8.out on_under rfl on_size) rfl ⟨rfl, HW.out.trans (HO8.out.below (Nat.le_refl _))⟩
            · have g48 : ((c.toNat : Int) == 48) = false := by rw [beq_eq_false_iff_ne]; omega
              have hy := HY.out (by omega) (.inr h48) HNE.out
              have HOK := Lib.hid (show numOk u = true by rw [← hy.2]; exact hy.1)
              have HQ := Lib.hid (show q = .tok 2 [] (numV u) u.length by rw [HST.out, hy.1, hy.2]; rfl)
              clear hy
              go_upto_region 4 with fail
              refine wp_region_lit ?_
              refine wpList_run 21 rfl rfl (.int .i64 ((p + u.length : Nat) : Int)) (exec_move (.tmp 5) rfl _ rfl) ?_
              go_frame
              refine wpList_run 22 rfl rfl (.int .i64 p) (exec_move (.tmp 1) rfl _ rfl) ?_
              go_frame
              refine wpList_run 23 rfl rfl (.int .i64 u.length) (exec_subI _ _ _ _ rfl _ _ _ rfl rfl HSB2.out) ?_
              go_frame
              refine wpList_run 24 rfl rfl (.bool false) (exec_gtrI _ _ _ _ rfl .i64 (u.length) (15) false g15 rfl rfl) ?_
              go_frame
              refine wpList_run 25 rfl rfl (.bool false) (exec_move (.tmp 24) rfl _ rfl) ?_
              go_frame
              refine wpList_runG 26 rfl (by first | rfl | kernel_rfl) (.int .i64 ((p + u.length : Nat) : Int)) (exec_move (.tmp 5) rfl _ rfl) ?_
              go_frame
              refine wpList_runG 27 rfl (by first | rfl | kernel_rfl) (.int .i64 p) (exec_move (.tmp 1) rfl _ rfl) ?_
              go_frame
              refine wpList_runG 28 rfl (by first | rfl | kernel_rfl) (.int .i64 u.length) (exec_subI _ _ _ _ rfl _ _ _ rfl rfl HSB2.out) ?_
              go_frame
              refine wpList_runG 29 rfl (by first | rfl | kernel_rfl) (.bool true) (exec_gtrI _ _ _ _ rfl .i64 (u.length) (1) true g1 rfl rfl) ?_
              go_frame
              refine wpList_runG 30 rfl (by first | rfl | kernel_rfl) (.bool true) (exec_move (.tmp 29) rfl _ rfl) ?_
              go_frame
              refine wpList_runG 31 rfl (by first | rfl | kernel_rfl) (.string (sb l)) (exec_move (.tmp 0) rfl _ rfl) ?_
              go_frame
              refine wpList_runG 32 rfl (by first | rfl | kernel_rfl) (.int .i64 p) (exec_move (.tmp 1) rfl _ rfl) ?_
              go_frame
              refine wpList_runG 33 rfl (by first | rfl | kernel_rfl) (.int .u8 c.toNat) (exec_index 9 (.tmp 31) (.tmp 32) rfl _ _ (.int .u8 c.toNat) rfl rfl (sb_at (sb l) (k := p) HCC.out _)) ?_
              go_frame
              refine wpList_runG 34 rfl (by first | rfl | kernel_rfl) (.bool false) (exec_eqlI _ _ _ _ rfl .u8 (c.toNat) (48) false g48 rfl rfl) ?_
              go_frame
              refine wpList_runG 35 rfl (by first | rfl | kernel_rfl) (.bool false) (exec_pickT _ _ _ rfl (.bool false) rfl rfl) ?_
              go_frame
              refine wpList_run 36 rfl rfl (.bool false) (exec_pickF _ _ _ rfl (.bool false) rfl rfl) ?_
              go_frame
              refine wpList_run 37 rfl rfl (.bool false) (exec_move (.tmp 36) rfl _ rfl) ?_
              go_frame
              refine wpList_runG 38 rfl (by first | rfl | kernel_rfl) (.int .i64 ((p + u.length : Nat) : Int)) (exec_move (.tmp 5) rfl _ rfl) ?_
              go_frame
              refine wpList_runG 39 rfl (by first | rfl | kernel_rfl) (.string (sb l)) (exec_move (.tmp 0) rfl _ rfl) ?_
              go_frame
              refine wpList_runG 40 rfl (by first | rfl | kernel_rfl) (.int .i64 (sb l).size) (exec_lenS (.tmp 39) rfl (sb l) rfl) ?_
              go_frame
              refine wpList_runG 41 rfl (by first | rfl | kernel_rfl) (.bool true) (exec_lssI' _ _ _ _ rfl .i64 (((p + u.length : Nat) : Int)) ((sb l).size) true l1 rfl rfl) ?_
              go_frame
              refine wpList_runG 42 rfl (by first | rfl | kernel_rfl) (.bool true) (exec_move (.tmp 41) rfl _ rfl) ?_
              go_frame
              refine wpList_runG 43 rfl (by first | rfl | kernel_rfl) (.string (sb l)) (exec_move (.tmp 0) rfl _ rfl) ?_
              go_frame
              refine wpList_runG 44 rfl (by first | rfl | kernel_rfl) (.int .i64 ((p + u.length : Nat) : Int)) (exec_move (.tmp 5) rfl _ rfl) ?_
              go_frame
              refine wpList_runG 45 rfl (by first | rfl | kernel_rfl) (.int .u8 d.toNat) (exec_index 9 (.tmp 43) (.tmp 44) rfl _ _ (.int .u8 d.toNat) rfl rfl (sb_at (sb l) (k := p + u.length) HC.out _)) ?_
              go_frame
              refine wpList_callF 46 rfl (by first | rfl | kernel_rfl) rfl Tryd.func31 (by kernel_rfl) (by kernel_rfl) #[.int .u8 d.toNat] rfl (letter_any d false HLE.out _) ?_
              rintro e wz ⟨rfl, rfl⟩
              refine ⟨_, rfl, ?_⟩
              go_frame
              refine wpList_runG 47 rfl (by first | rfl | kernel_rfl) (.bool false) (exec_pickT _ _ _ rfl (.bool false) rfl rfl) ?_
              go_frame
              refine wpList_run 48 rfl rfl (.bool false) (exec_pickF _ _ _ rfl (.bool false) rfl rfl) ?_
              go_frame
              refine wpList_nil ?_
              go_wp2_with fail
              obtain ⟨wv, rfl⟩ : ∃ wv : World, wv = wr := ⟨_, rfl⟩
              go_loopw [6, 7] (fun a b wr => ∃ j : Nat, a = .int .i64 ((numV (u.take j) : Nat) : Int) ∧ b = .int .i64 ((p + j : Nat) : Int) ∧ j ≤ u.length ∧ Hid (Blk wr w.heap.size 50 zO) ∧ Hid (Below w.heap.size w wr)) (fun _ b _ => p + u.length - (intOf b).toNat)
              case atStart => exact ⟨0, rfl, rfl, Nat.zero_le _, HP, HW⟩
              case round =>
                clear HP HW
                obtain ⟨j, rfl, rfl, hj, HP, HW⟩ := hrel
                have hnv := numV_lt (numOk_take HOK.out j)
                by_cases hjl : j < u.length
                · obtain ⟨e, he, he2, he3⟩ := HIN.out j hjl
                  have HEC := Lib.hid (show (sb l).data.toList[p + j]? = some e by rw [sb_list]; exact he)
                  have HNX := Lib.hid (numV_take he3)
                  have hdg := dg_eq he2
                  have j1 : decide (((p + j : Nat) : Int) < ((p + u.length : Nat) : Int)) = true := decide_eq_true (by omega)
                  clear he he2 he3
                  generalize numV (u.take j) = n at hnv HNX
                  have HM := Lib.hid (mul_ten n hnv)
                  have HS4 := Lib.hid (sub_48 e hdg.1)
                  have HCV := Lib.hid (conv_u8n (e.toNat - 48) (by omega))
                  have HAD := Lib.hid (show IntKind.i64.wrap (((10 * n : Nat) : Int) + ((e.toNat - 48 : Nat) : Int)) = ((10 * n + (e.toNat - 48) : Nat) : Int) from wrap_add _ _ (by omega))
                  go_upto_region 8 with fail
                  refine wp_region_lit ?_
                  refine wpList_run 51 rfl rfl (.int .i64 ((p + j : Nat) : Int)) (exec_move (.tmp 7) rfl _ rfl) ?_
                  go_frame
                  refine wpList_run 52 rfl rfl (.int .i64 ((p + u.length : Nat) : Int)) (exec_move (.tmp 5) rfl _ rfl) ?_
                  go_frame
                  refine wpList_run 53 rfl rfl (.bool true) (exec_lssI' _ _ _ _ rfl .i64 (((p + j : Nat) : Int)) (((p + u.length : Nat) : Int)) true j1 rfl rfl) ?_
                  go_frame
                  refine wpList_nil ?_
                  go_upto_region 10 with fail
                  refine wp_region_lit ?_
                  refine wpList_run 56 rfl rfl (.int .i64 n) (exec_move (.tmp 6) rfl _ rfl) ?_
                  go_frame
                  refine wpList_run 57 rfl rfl (.int .i64 ((10 * n : Nat) : Int)) (exec_bin .mul 3 _ _ (.tmp 56) rfl (.int .i64 10) (.int .i64 n) _ rfl rfl rfl (HM.out _)) ?_
                  go_frame
                  refine wpList_run 58 rfl rfl (.string (sb l)) (exec_move (.tmp 0) rfl _ rfl) ?_
                  go_frame
                  refine wpList_run 59 rfl rfl (.int .i64 ((p + j : Nat) : Int)) (exec_move (.tmp 7) rfl _ rfl) ?_
                  go_frame
                  refine wpList_run 60 rfl rfl (.int .u8 e.toNat) (exec_index 9 (.tmp 58) (.tmp 59) rfl _ _ (.int .u8 e.toNat) rfl rfl (sb_at (sb l) (k := p + j) HEC.out _)) ?_
                  go_frame
                  refine wpList_run 61 rfl rfl (.int .u8 ((e.toNat - 48 : Nat) : Int)) (exec_bin .sub 5 _ (.tmp 60) _ rfl (.int .u8 e.toNat) (.int .u8 48) _ rfl rfl rfl (HS4.out _)) ?_
                  go_frame
                  refine wpList_run 62 rfl rfl (.int .i64 ((e.toNat - 48 : Nat) : Int)) (exec_convert 5 3 (.tmp 61) rfl _ _ rfl (HCV.out _)) ?_
                  go_frame
                  refine wpList_run 63 rfl rfl (.int .i64 ((10 * n + (e.toNat - 48) : Nat) : Int)) (exec_addI _ _ _ _ rfl _ _ _ rfl rfl HAD.out) ?_
                  go_frame
                  refine wpList_run 6 rfl rfl (.int .i64 ((10 * n + (e.toNat - 48) : Nat) : Int)) (exec_assign (.tmp 63) rfl _ rfl) ?_
                  go_frame
                  refine wpList_nil ?_
                  go_wp2_with fail
                  go_roundw
                  case rel => exact ⟨j + 1, by rw [HNX.out], by go_num, by omega, HP, HW⟩
                  case measure => simp [intOf]; omega
                · obtain rfl : j = u.length := by omega
                  have j1 : decide (((p + u.length : Nat) : Int) < ((p + u.length : Nat) : Int)) = false := decide_eq_false (by omega)
                  have HTK := Lib.hid (show numV (u.take u.length) = numV u by rw [List.take_length])
                  go_upto_region 8 with fail
                  refine wp_region_lit ?_
                  refine wpList_run 51 rfl rfl (.int .i64 ((p + u.length : Nat) : Int)) (exec_move (.tmp 7) rfl _ rfl) ?_
                  go_frame
                  refine wpList_run 52 rfl rfl (.int .i64 ((p + u.length : Nat) : Int)) (exec_move (.tmp 5) rfl _ rfl) ?_
                  go_frame
                  refine wpList_run 53 rfl rfl (.bool false) (exec_lssI' _ _ _ _ rfl .i64 (((p + u.length : Nat) : Int)) (((p + u.length : Nat) : Int)) false j1 rfl rfl) ?_
                  go_frame
                  refine wpList_nil ?_
                  go_wp2_with (first | (refine wpList_dst 66 rfl ?_; refine wpList_run 66 rfl rfl _ (exec_buildF 33 #[(0, .const (.int .i64 2)), (1, .tmp 64), (3, .tmp 65)] rfl #[(0, .int .i64 2), (1, .int .i64 p), (3, .int .i64 ((numV (u.take u.length) : Nat) : Int))] rfl _ (build_kv 2 p _ _)) ?_; go_frame) | (refine wpList_dst 68 rfl ?_; refine wpList_run 68 rfl rfl _ (exec_buildF 50 #[(0, .tmp 66), (1, .tmp 67)] rfl #[(0, .agg #[.int .i64 2, .int .i64 p, .string ByteArray.empty, .int .i64 ((numV (u.take u.length) : Nat) : Int)]), (1, .int .i64 ((p + u.length : Nat) : Int))] rfl _ (build_ot 2 p _ _ ByteArray.empty _)) ?_; go_frame) | (refine wpList_store_all rfl 50 (.tmp 4) (.tmp 68) rfl w.heap.size 50 zO [.int .i64 2, .int .i64 p, .string ByteArray.empty, .int .i64 ((numV (u.take u.length) : Nat) : Int), .int .i64 ((p + u.length : Nat) : Int), .int .i64 0] rfl rfl HP.out rfl on_size (List.forall_mem_cons.2 ⟨rfl, (List.forall_mem_cons.2 ⟨rfl, (List.forall_mem_cons.2 ⟨rfl, (List.forall_mem_cons.2 ⟨rfl, (List.forall_mem_cons.2 ⟨rfl, (List.forall_mem_cons.2 ⟨rfl, fun _ h => nomatch h⟩)⟩)⟩)⟩)⟩)⟩) ?_; intro w8 HP8 ho8; have HO8 := Lib.hid ho8; clear ho8))
                  rw [HQ.out, ← HTK.out]
                  exact bodyPost_ret (results_blk rfl _ _ w.heap.size _ [.int .i64 2, .int .i64 p, .string ByteArray.empty, .int .i64 ((numV (u.take u.length) : Nat) : Int), .int .i64 ((p + u.length : Nat) : Int), .int .i64 0] _ rfl HP8.out on_under rfl on_size) rfl ⟨rfl, HW.out.trans (HO8.out.below (Nat.le_refl _))⟩
          · have g1 : decide ((1 : Int) < (u.length : Int)) = false := decide_eq_false (by omega)
            have hy := HY.out (by omega) (.inl (by omega)) HNE.out
            have HOK := Lib.hid (show numOk u = true by rw [← hy.2]; exact hy.1)
            have HQ := Lib.hid (show q = .tok 2 [] (numV u) u.length by rw [HST.out, hy.1, hy.2]; rfl)
            clear hy
            go_upto_region 4 with fail
            refine wp_region_lit ?_
            refine wpList_run 21 rfl rfl (.int .i64 ((p + u.length : Nat) : Int)) (exec_move (.tmp 5) rfl _ rfl) ?_
            go_frame
            refine wpList_run 22 rfl rfl (.int .i64 p) (exec_move (.tmp 1) rfl _ rfl) ?_
            go_frame
            refine wpList_run 23 rfl rfl (.int .i64 u.length) (exec_subI _ _ _ _ rfl _ _ _ rfl rfl HSB2.out) ?_
            go_frame
            refine wpList_run 24 rfl rfl (.bool false) (exec_gtrI _ _ _ _ rfl .i64 (u.length) (15) false g15 rfl rfl) ?_
            go_frame
            refine wpList_run 25 rfl rfl (.bool false) (exec_move (.tmp 24) rfl _ rfl) ?_
            go_frame
            refine wpList_runG 26 rfl (by first | rfl | kernel_rfl) (.int .i64 ((p + u.length : Nat) : Int)) (exec_move (.tmp 5) rfl _ rfl) ?_
            go_frame
            refine wpList_runG 27 rfl (by first | rfl | kernel_rfl) (.int .i64 p) (exec_move (.tmp 1) rfl _ rfl) ?_
            go_frame
            refine wpList_runG 28 rfl (by first | rfl | kernel_rfl) (.int .i64 u.length) (exec_subI _ _ _ _ rfl _ _ _ rfl rfl HSB2.out) ?_
            go_frame
            refine wpList_runG 29 rfl (by first | rfl | kernel_rfl) (.bool false) (exec_gtrI _ _ _ _ rfl .i64 (u.length) (1) false g1 rfl rfl) ?_
            go_frame
            refine wpList_runSkip 30 rfl (by first | rfl | kernel_rfl) (.bool false) (exec_move (.tmp 29) rfl _ rfl) 4 [31, 32, 33, 34] (by kernel_rfl) ?_
            simp only [List.drop_succ_cons, List.drop_zero, List.foldl_cons, List.foldl_nil]
            go_frame
            refine wpList_runG 35 rfl (by first | rfl | kernel_rfl) (.bool false) (exec_pickF _ _ _ rfl (.bool false) rfl rfl) ?_
            go_frame
            refine wpList_run 36 rfl rfl (.bool false) (exec_pickF _ _ _ rfl (.bool false) rfl rfl) ?_
            go_frame
            refine wpList_run 37 rfl rfl (.bool false) (exec_move (.tmp 36) rfl _ rfl) ?_
            go_frame
            refine wpList_runG 38 rfl (by first | rfl | kernel_rfl) (.int .i64 ((p + u.length : Nat) : Int)) (exec_move (.tmp 5) rfl _ rfl) ?_
            go_frame
            refine wpList_runG 39 rfl (by first | rfl | kernel_rfl) (.string (sb l)) (exec_move (.tmp 0) rfl _ rfl) ?_
            go_frame
            refine wpList_runG 40 rfl (by first | rfl | kernel_rfl) (.int .i64 (sb l).size) (exec_lenS (.tmp 39) rfl (sb l) rfl) ?_
            go_frame
            refine wpList_runG 41 rfl (by first | rfl | kernel_rfl) (.bool true) (exec_lssI' _ _ _ _ rfl .i64 (((p + u.length : Nat) : Int)) ((sb l).size) true l1 rfl rfl) ?_
            go_frame
            refine wpList_runG 42 rfl (by first | rfl | kernel_rfl) (.bool true) (exec_move (.tmp 41) rfl _ rfl) ?_
            go_frame
            refine wpList_runG 43 rfl (by first | rfl | kernel_rfl) (.string (sb l)) (exec_move (.tmp 0) rfl _ rfl) ?_
            go_frame
            refine wpList_runG 44 rfl (by first | rfl | kernel_rfl) (.int .i64 ((p + u.length : Nat) : Int)) (exec_move (.tmp 5) rfl _ rfl) ?_
            go_frame
            refine wpList_runG 45 rfl (by first | rfl | kernel_rfl) (.int .u8 d.toNat) (exec_index 9 (.tmp 43) (.tmp 44) rfl _ _ (.int .u8 d.toNat) rfl rfl (sb_at (sb l) (k := p + u.length) HC.out _)) ?_
            go_frame
            refine wpList_callF 46 rfl (by first | rfl | kernel_rfl) rfl Tryd.func31 (by kernel_rfl) (by kernel_rfl) #[.int .u8 d.toNat] rfl (letter_any d false HLE.out _) ?_
            rintro e wz ⟨rfl, rfl⟩
            refine ⟨_, rfl, ?_⟩
            go_frame
            refine wpList_runG 47 rfl (by first | rfl | kernel_rfl) (.bool false) (exec_pickT _ _ _ rfl (.bool false) rfl rfl) ?_
            go_frame
            refine wpList_run 48 rfl rfl (.bool false) (exec_pickF _ _ _ rfl (.bool false) rfl rfl) ?_
            go_frame
            refine wpList_nil ?_
            go_wp2_with fail
            obtain ⟨wv, rfl⟩ : ∃ wv : World, wv = wr := ⟨_, rfl⟩
            go_loopw [6, 7] (fun a b wr => ∃ j : Nat, a = .int .i64 ((numV (u.take j) : Nat) : Int) ∧ b = .int .i64 ((p + j : Nat) : Int) ∧ j ≤ u.length ∧ Hid (Blk wr w.heap.size 50 zO) ∧ Hid (Below w.heap.size w wr)) (fun _ b _ => p + u.length - (intOf b).toNat)
            case atStart => exact ⟨0, rfl, rfl, Nat.zero_le _, HP, HW⟩
            case round =>
              clear HP HW
              obtain ⟨j, rfl, rfl, hj, HP, HW⟩ := hrel
              have hnv := numV_lt (numOk_take HOK.out j)
              by_cases hjl : j < u.length
              · obtain ⟨e, he, he2, he3⟩ := HIN.out j hjl
                have HEC := Lib.hid (show (sb l).data.toList[p + j]? = some e by rw [sb_list]; exact he)
                have HNX := Lib.hid (numV_take he3)
                have hdg := dg_eq he2
                have j1 : decide (((p + j : Nat) : Int) < ((p + u.length : Nat) : Int)) = true := decide_eq_true (by omega)
                clear he he2 he3
                generalize numV (u.take j) = n at hnv HNX
                have HM := Lib.hid (mul_ten n hnv)
                have HS4 := Lib.hid (sub_48 e hdg.1)
                have HCV := Lib.hid (conv_u8n (e.toNat - 48) (by omega))
                have HAD := Lib.hid (show IntKind.i64.wrap (((10 * n : Nat) : Int) + ((e.toNat - 48 : Nat) : Int)) = ((10 * n + (e.toNat - 48) : Nat) : Int) from wrap_add _ _ (by omega))
                go_upto_region 8 with fail
                refine wp_region_lit ?_
                refine wpList_run 51 rfl rfl (.int .i64 ((p + j : Nat) : Int)) (exec_move (.tmp 7) rfl _ rfl) ?_
                go_frame
                refine wpList_run 52 rfl rfl (.int .i64 ((p + u.length : Nat) : Int)) (exec_move (.tmp 5) rfl _ rfl) ?_
                go_frame
                refine wpList_run 53 rfl rfl (.bool true) (exec_lssI' _ _ _ _ rfl .i64 (((p + j : Nat) : Int)) (((p + u.length : Nat) : Int)) true j1 rfl rfl) ?_
                go_frame
                refine wpList_nil ?_
                go_upto_region 10 with fail
                refine wp_region_lit ?_
                refine wpList_run 56 rfl rfl (.int .i64 n) (exec_move (.tmp 6) rfl _ rfl) ?_
                go_frame
                refine wpList_run 57 rfl rfl (.int .i64 ((10 * n : Nat) : Int)) (exec_bin .mul 3 _ _ (.tmp 56) rfl (.int .i64 10) (.int .i64 n) _ rfl rfl rfl (HM.out _)) ?_
                go_frame
                refine wpList_run 58 rfl rfl (.string (sb l)) (exec_move (.tmp 0) rfl _ rfl) ?_
                go_frame
                refine wpList_run 59 rfl rfl (.int .i64 ((p + j : Nat) : Int)) (exec_move (.tmp 7) rfl _ rfl) ?_
                go_frame
                refine wpList_run 60 rfl rfl (.int .u8 e.toNat) (exec_index 9 (.tmp 58) (.tmp 59) rfl _ _ (.int .u8 e.toNat) rfl rfl (sb_at (sb l) (k := p + j) HEC.out _)) ?_
                go_frame
                refine wpList_run 61 rfl rfl (.int .u8 ((e.toNat - 48 : Nat) : Int)) (exec_bin .sub 5 _ (.tmp 60) _ rfl (.int .u8 e.toNat) (.int .u8 48) _ rfl rfl rfl (HS4.out _)) ?_
                go_frame
                refine wpList_run 62 rfl rfl (.int .i64 ((e.toNat - 48 : Nat) : Int)) (exec_convert 5 3 (.tmp 61) rfl _ _ rfl (HCV.out _)) ?_
                go_frame
                refine wpList_run 63 rfl rfl (.int .i64 ((10 * n + (e.toNat - 48) : Nat) : Int)) (exec_addI _ _ _ _ rfl _ _ _ rfl rfl HAD.out) ?_
                go_frame
                refine wpList_run 6 rfl rfl (.int .i64 ((10 * n + (e.toNat - 48) : Nat) : Int)) (exec_assign (.tmp 63) rfl _ rfl) ?_
                go_frame
                refine wpList_nil ?_
                go_wp2_with fail
                go_roundw
                case rel => exact ⟨j + 1, by rw [HNX.out], by go_num, by omega, HP, HW⟩
                case measure => simp [intOf]; omega
              · obtain rfl : j = u.length := by omega
                have j1 : decide (((p + u.length : Nat) : Int) < ((p + u.length : Nat) : Int)) = false := decide_eq_false (by omega)
                have HTK := Lib.hid (show numV (u.take u.length) = numV u by rw [List.take_length])
                go_upto_region 8 with fail
                refine wp_region_lit ?_
                refine wpList_run 51 rfl rfl (.int .i64 ((p + u.length : Nat) : Int)) (exec_move (.tmp 7) rfl _ rfl) ?_
                go_frame
                refine wpList_run 52 rfl rfl (.int .i64 ((p + u.length : Nat) : Int)) (exec_move (.tmp 5) rfl _ rfl) ?_
                go_frame
                refine wpList_run 53 rfl rfl (.bool false) (exec_lssI' _ _ _ _ rfl .i64 (((p + u.length : Nat) : Int)) (((p + u.length : Nat) : Int)) false j1 rfl rfl) ?_
                go_frame
                refine wpList_nil ?_
                go_wp2_with (first | (refine wpList_dst 66 rfl ?_; refine wpList_run 66 rfl rfl _ (exec_buildF 33 #[(0, .const (.int .i64 2)), (1, .tmp 64), (3, .tmp 65)] rfl #[(0, .int .i64 2), (1, .int .i64 p), (3, .int .i64 ((numV (u.take u.length) : Nat) : Int))] rfl _ (build_kv 2 p _ _)) ?_; go_frame) | (refine wpList_dst 68 rfl ?_; refine wpList_run 68 rfl rfl _ (exec_buildF 50 #[(0, .tmp 66), (1, .tmp 67)] rfl #[(0, .agg #[.int .i64 2, .int .i64 p, .string ByteArray.empty, .int .i64 ((numV (u.take u.length) : Nat) : Int)]), (1, .int .i64 ((p + u.length : Nat) : Int))] rfl _ (build_ot 2 p _ _ ByteArray.empty _)) ?_; go_frame) | (refine wpList_store_all rfl 50 (.tmp 4) (.tmp 68) rfl w.heap.size 50 zO [.int .i64 2, .int .i64 p, .string ByteArray.empty, .int .i64 ((numV (u.take u.length) : Nat) : Int), .int .i64 ((p + u.length : Nat) : Int), .int .i64 0] rfl rfl HP.out rfl on_size (List.forall_mem_cons.2 ⟨rfl, (List.forall_mem_cons.2 ⟨rfl, (List.forall_mem_cons.2 ⟨rfl, (List.forall_mem_cons.2 ⟨rfl, (List.forall_mem_cons.2 ⟨rfl, (List.forall_mem_cons.2 ⟨rfl, fun _ h => nomatch h⟩)⟩)⟩)⟩)⟩)⟩) ?_; intro w8 HP8 ho8; have HO8 := Lib.hid ho8; clear ho8))
                rw [HQ.out, ← HTK.out]
                exact bodyPost_ret (results_blk rfl _ _ w.heap.size _ [.int .i64 2, .int .i64 p, .string ByteArray.empty, .int .i64 ((numV (u.take u.length) : Nat) : Int), .int .i64 ((p + u.length : Nat) : Int), .int .i64 0] _ rfl HP8.out on_under rfl on_size) rfl ⟨rfl, HW.out.trans (HO8.out.below (Nat.le_refl _))⟩
end Go.Proofs.YtggjgikpiljoiaaDoor
