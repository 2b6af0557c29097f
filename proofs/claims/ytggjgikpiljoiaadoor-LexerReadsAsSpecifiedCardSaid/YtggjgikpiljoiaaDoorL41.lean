/- The walk of LexerReadsAsSpecified. -/
import Derived.Test.YtggjgikpiljoiaaDoorL40
namespace Go.Proofs.YtggjgikpiljoiaaDoor
open Go.RowKit Hm Wm Lx

theorem fa_rivermarkref07_Read_1_0 (g : Nat) (W : World) : (Instr.fieldAt 30 (.pointer (some ⟨g, 0, none⟩)) 1).run Tryd.prog W = .ok (.pointer (some ⟨g, 1, none⟩)) W := by kernel_rfl
theorem fa_rivermarkref07_Read_0_0 (g : Nat) (W : World) : (Instr.fieldAt 30 (.pointer (some ⟨g, 0, none⟩)) 0).run Tryd.prog W = .ok (.pointer (some ⟨g, 0, none⟩)) W := by kernel_rfl
theorem pb_neA (a b : Int) (W : World) : (binOp .neq 26 (.agg #[.int .i64 a, .int .i64 b]) (.agg #[.int .i64 a, .int .i64 b])).run Tryd.prog W = .ok (.bool false) W := by
  have h := pb_eqA a b W
  simp [binOp] at h ⊢
  generalize Sem.run Tryd.prog (Op.equal 26 (.agg #[.int .i64 a, .int .i64 b]) (.agg #[.int .i64 a, .int .i64 b])) W = R at h ⊢
  cases R <;> simp_all
theorem pb_gdN (x y : Operand) (xs ys : Array Value) (W : World) : (eqGuard .neq 26 x y (.agg xs) (.agg ys)).run Tryd.prog W = .ok () W := run_eqGuard_agg W .neq _ x y xs ys (by kernel_rfl)
theorem rr_f (g k : Nat) (h : k = 0 ∨ k = 1) (W : World) : (Instr.fieldAt 30 (.pointer (some ⟨g, 0, none⟩)) k).run Tryd.prog W = .ok (.pointer (some ⟨g, k, none⟩)) W := by
  rcases h with rfl | rfl <;> kernel_rfl
theorem reads_far (l : List UInt8) (w : World) (hE : Env w) (h : 70000 < l.length) : Calls Tryd.prog 3 #[.string (sb l)] w fun e w' => e = .returned (.bool true) ∧ Below w.heap.size w w' := by
  have hz : (sb l).size = l.length := sb_size l
  have HE := Lib.hid hE
  have HW := Lib.hid (Below.refl w.heap.size w)
  have h1 : decide ((70000 : Int) < ((sb l).size : Int)) = true := decide_eq_true (by omega)
  clear hz hE h
  go_enter Tryd.func3, Tryd.ntmps3
  go_wp2_with (first | ((with_reducible refine (sanity_any _ HE.out).mono ?_); rintro e wy ⟨rfl, hb⟩; replace HE := Lib.hid (HE.out.next hb); replace HW := Lib.hid (HW.out.trans (hb.mono HW.out.size)); clear hb))
  go_ret
  exact ⟨rfl, HW.out⟩
set_option maxRecDepth 100000 in
set_option maxHeartbeats 2000000 in
theorem reads_all (l : List UInt8) (w : World) (hE : Env w) (h : l.length ≤ 70000) (T : List Tok) (x k : Nat) (hT : T.length ≤ 70001) (hP : (∀ W, Env W → Calls Tryd.prog 9 #[.string (sb l)] W fun e w' => (∃ A c, e = .returned (.tuple #[.slice A T.length c, .agg #[.int .i64 x, .int .i64 k]]) ∧ RdT w' A (T.map toT)) ∧ Below W.heap.size W w')) (hR : (∀ W, Calls Tryd.prog 10 #[.string (sb l)] W fun e w' => (∃ A c, e = .returned (.agg #[.slice A T.length c, .int .i64 x, .int .i64 k]) ∧ RdT w' A (T.map toT)) ∧ Below W.heap.size W w')) : Calls Tryd.prog 3 #[.string (sb l)] w fun e w' => e = .returned (.bool true) ∧ Below w.heap.size w w' := by
  have hz : (sb l).size = l.length := sb_size l
  have HE := Lib.hid hE
  have HW := Lib.hid (Below.refl w.heap.size w)
  have HPP := Lib.hid hP
  have HRF := Lib.hid hR
  have h1 : decide ((70000 : Int) < ((sb l).size : Int)) = false := decide_eq_false (by omega)
  clear hz hE h hP hR
  go_enter Tryd.func3, Tryd.ntmps3
  go_upto_region 4 with (first | ((with_reducible refine (HPP.out _ HE.out).mono ?_); rintro e a1 ⟨⟨A1, c1, rfl, hrd⟩, hb⟩; replace HE := Lib.hid (HE.out.next hb); replace HW := Lib.hid (HW.out.trans (hb.mono HW.out.size)); have HR1 := Lib.hid hrd; clear hrd hb) | (refine wpList_new rfl 26 rfl [.int .i64 0, .int .i64 0] pb_zero ?_; intro d1 HP1 HB1) | (refine wpList_store_all rfl 26 (.tmp 4) (.tmp 15) rfl a1.heap.size 26 [.int .i64 0, .int .i64 0] [.int .i64 x, .int .i64 k] rfl rfl HP1.out rfl pb_size (List.forall_mem_cons.2 ⟨rfl, (List.forall_mem_cons.2 ⟨rfl, fun _ h => nomatch h⟩)⟩) ?_; intro f1 HQ1 ho; have hb := HB1.out.trans (ho.below (Nat.le_refl _)); replace HE := Lib.hid (HE.out.next hb); replace HW := Lib.hid (HW.out.trans (hb.mono HW.out.size)); replace HR1 := Lib.hid (HR1.out.below hb); clear hb ho HP1 HB1))
  go_upto_region 5 with (first | ((with_reducible refine (HRF.out _).mono ?_); rintro e a2 ⟨⟨A2, c2, rfl, hrd⟩, hb⟩; replace HE := Lib.hid (HE.out.next hb); replace HW := Lib.hid (HW.out.trans (hb.mono HW.out.size)); replace HR1 := Lib.hid (HR1.out.below hb); replace HQ1 := Lib.hid (HQ1.out.next hb); have HR2 := Lib.hid hrd; clear hrd hb) | (refine wpList_dst 5 rfl ?_; refine wpList_var rfl rfl 30 5 rfl rfl rfl (.tmp 17) rfl zR [.slice A2 T.length c2, .int .i64 x, .int .i64 k] rd_ref_zero rfl rfl rfl rd_ref_size (List.forall_mem_cons.2 ⟨rfl, (List.forall_mem_cons.2 ⟨rfl, (List.forall_mem_cons.2 ⟨rfl, fun _ h => nomatch h⟩)⟩)⟩) ?_; intro f2 HV HBw; replace HE := Lib.hid (HE.out.next HBw.out); replace HW := Lib.hid (HW.out.trans (HBw.out.mono HW.out.size)); replace HR1 := Lib.hid (HR1.out.below HBw.out); replace HQ1 := Lib.hid (HQ1.out.next HBw.out); replace HR2 := Lib.hid (HR2.out.below HBw.out); clear HBw))
  refine wp_region_lit ?_
  refine wpList_run 18 rfl rfl (.agg #[.int .i64 x, .int .i64 k]) (exec_load 26 (.tmp 4) rfl _ _ rfl (run_load_part _ 26 _ 0 2 _ [.int .i64 x, .int .i64 k] _ HQ1.out (by simp) Tryd.underlying26 rfl size_api_Problem)) ?_
  go_frame
  refine wpList_run 19 rfl rfl (.pointer (some ⟨a2.heap.size, 1, none⟩)) (exec_fieldAddr 30 (.tmp 5) 1 rfl _ _ rfl (fa_rivermarkref07_Read_1_0 _ _)) ?_
  go_frame
  refine wpList_run 20 rfl rfl (.agg #[.int .i64 x, .int .i64 k]) (exec_load 26 (.tmp 19) rfl _ _ rfl (run_load_part _ 26 _ 1 2 _ [.slice A2 T.length c2, .int .i64 x, .int .i64 k] _ HV.out (by simp) Tryd.underlying26 rfl size_api_Problem)) ?_
  go_frame
  refine wpList_run 21 rfl rfl (.bool false) (exec_bin .neq 26 _ (.tmp 18) (.tmp 20) rfl (.agg #[.int .i64 x, .int .i64 k]) (.agg #[.int .i64 x, .int .i64 k]) _ rfl rfl (pb_gdN _ _ _ _ _) (pb_neA _ _ _)) ?_
  go_frame
  refine wpList_run 22 rfl rfl (.bool false) (exec_move (.tmp 21) rfl _ rfl) ?_
  go_frame
  refine wpList_runG 23 rfl (by first | rfl | kernel_rfl) (.slice A1 T.length c1) (exec_move (.tmp 3) rfl _ rfl) ?_
  go_frame
  refine wpList_runG 24 rfl (by first | rfl | kernel_rfl) (.int .i64 T.length) (exec_lenT (.tmp 23) rfl _ T.length _ rfl) ?_
  go_frame
  refine wpList_runG 25 rfl (by first | rfl | kernel_rfl) (.pointer (some ⟨a2.heap.size, 0, none⟩)) (exec_fieldAddr 30 (.tmp 5) 0 rfl _ _ rfl (fa_rivermarkref07_Read_0_0 _ _)) ?_
  go_frame
  refine wpList_runG 26 rfl (by first | rfl | kernel_rfl) (.slice A2 T.length c2) (exec_load 23 (.tmp 25) rfl _ _ rfl (run_load_cell flat___api_Token (HV.out.cell 0))) ?_
  go_frame
  refine wpList_runG 27 rfl (by first | rfl | kernel_rfl) (.int .i64 T.length) (exec_lenT (.tmp 26) rfl _ T.length _ rfl) ?_
  go_frame
  refine wpList_runG 28 rfl (by first | rfl | kernel_rfl) (.bool false) (exec_neqT _ _ _ _ rfl .i64 (T.length) rfl rfl) ?_
  go_frame
  refine wpList_run 29 rfl rfl (.bool false) (exec_pickF _ _ _ rfl (.bool false) rfl rfl) ?_
  go_frame
  refine wpList_nil ?_
  go_wp2_with fail
  go_loopw [6] (fun a wr => ∃ j : Nat, a = .int .i64 j ∧ j ≤ T.length ∧ Hid (Env wr) ∧ Hid (RdT wr A1 (T.map toT)) ∧ Hid (RdT wr A2 (T.map toT)) ∧ Hid (Blk wr a2.heap.size 30 [.slice A2 T.length c2, .int .i64 x, .int .i64 k]) ∧ Hid (Below w.heap.size w wr)) (fun a _ => T.length - (intOf a).toNat)
  case atStart => exact ⟨0, rfl, Nat.zero_le _, HE, HR1, HR2, HV, HW⟩
  case round =>
    clear HE HR1 HR2 HV HW HQ1 h1
    obtain ⟨j, rfl, hj, HE, HR1, HR2, HV, HW⟩ := hrel
    by_cases hlt : j < T.length
    · obtain ⟨t, ht⟩ : ∃ t, T[j]? = some t := ⟨T[j], List.getElem?_eq_getElem hlt⟩
      obtain ⟨b1, o1, hA1, hc1⟩ := HR1.out.at (show (T.map toT)[j]? = some (toT t) by rw [List.getElem?_map, ht]; rfl)
      obtain ⟨b2, o2, hA2, hc2⟩ := HR2.out.at (show (T.map toT)[j]? = some (toT t) by rw [List.getElem?_map, ht]; rfl)
      subst hA1 hA2
      obtain ⟨tk, ta, ts, tv⟩ := t
      simp only [toT] at hc1 hc2
      have HC1 := Lib.hid hc1
      have HC2 := Lib.hid hc2
      have h1 : decide ((j : Int) < (T.length : Int)) = true := decide_eq_true (by omega)
      have h1n : decide (j < T.length) = true := decide_eq_true hlt
      clear hc1 hc2 ht
      go_upto_region 10 with fail
      refine late_begin (S := fun _ W => Blk W a2.heap.size 30 [.slice (some ⟨b2, o2, none⟩) T.length c2, .int .i64 x, .int .i64 k] ∧ W.rangeAt b1 (o1 + j * 4) (cT ⟨tk, ta, sb ts, tv⟩) ∧ W.rangeAt b2 (o2 + j * 4) (cT ⟨tk, ta, sb ts, tv⟩)) (by kernel_rfl) ?_
      have hE0 := HE.out.next (Below.refl _ _).drew
      have hR10 := HR1.out.below (Below.refl _ _).drew
      have hR20 := HR2.out.below (Below.refl _ _).drew
      have hW0 := HW.out.drew
      have hV0 := HV.out.drew
      have hC10 := range_below' HC1.out (Below.refl _ _).drew
      have hC20 := range_below' HC2.out (Below.refl _ _).drew
      generalize wr.drew = u0 at hE0 hR10 hR20 hW0 hV0 hC10 hC20 ⊢
      clear HE HR1 HR2 HW HV HC1 HC2
      refine late_take [] (i := 0) (some 36) rfl rfl (by first | rfl | kernel_rfl) (by kernel_rfl) (by kernel_rfl) (by kernel_rfl) (by kernel_rfl) (by kernel_rfl) (fun Ls W h => h) (.slice (some ⟨b1, o1, none⟩) T.length c1) (fun _ _ _ h => h) (fun Ls W hl0 hW => exec_move (.tmp 3) rfl _ rfl) ⟨hV0, hC10, hC20⟩ ⟨hV0, hC10, hC20⟩ ?_
      go_frame
      refine late_take [] (i := 1) (some 37) rfl rfl (by first | rfl | kernel_rfl) (by kernel_rfl) (by kernel_rfl) (by kernel_rfl) (by kernel_rfl) (by kernel_rfl) (fun Ls W h => h) (.int .i64 j) (fun _ _ _ h => h) (fun Ls W hl0 hW => exec_move (.tmp 6) rfl _ rfl) ⟨hV0, hC10, hC20⟩ ⟨hV0, hC10, hC20⟩ ?_
      go_frame
      refine late_take [] (i := 2) (some 38) rfl rfl (by first | rfl | kernel_rfl) (by kernel_rfl) (by kernel_rfl) (by kernel_rfl) (by kernel_rfl) (by kernel_rfl) (fun Ls W h => h) (.pointer (some ⟨b1, o1 + j * 4, none⟩)) (fun _ _ _ h => h) (fun Ls W hl0 hW => exec_atT (.tmp 36) (.tmp 37) rfl b1 o1 _ c1 j hlt rfl rfl) ⟨hV0, hC10, hC20⟩ ⟨hV0, hC10, hC20⟩ ?_
      go_frame
      refine late_take [] (i := 3) (some 39) rfl rfl (by first | rfl | kernel_rfl) (by kernel_rfl) (by kernel_rfl) (by kernel_rfl) (by kernel_rfl) (by kernel_rfl) (fun Ls W h => h) (.agg #[.int .i64 tk, .int .i64 ta, .string (sb ts), .int .i64 tv]) (fun _ _ _ h => h) (fun Ls W hl0 hW => exec_loadT (.tmp 38) rfl b1 _ ⟨tk, ta, sb ts, tv⟩ rfl hW.2.1) ⟨hV0, hC10, hC20⟩ ⟨hV0, hC10, hC20⟩ ?_
      go_frame
      refine late_take [] (i := 4) (some 40) rfl rfl (by first | rfl | kernel_rfl) (by kernel_rfl) (by kernel_rfl) (by kernel_rfl) (by kernel_rfl) (by kernel_rfl) (fun Ls W h => h) (.pointer (some ⟨a2.heap.size, 0, none⟩)) (fun _ _ _ h => h) (fun Ls W hl0 hW => exec_fieldAddr 30 (.tmp 5) 0 rfl _ _ rfl (fa_rivermarkref07_Read_0_0 _ _)) ⟨hV0, hC10, hC20⟩ ⟨hV0, hC10, hC20⟩ ?_
      go_frame
      refine late_take [] (i := 5) (some 41) rfl rfl (by first | rfl | kernel_rfl) (by kernel_rfl) (by kernel_rfl) (by kernel_rfl) (by kernel_rfl) (by kernel_rfl) (fun Ls W h => h) (.slice (some ⟨b2, o2, none⟩) T.length c2) (fun _ _ _ h => h) (fun Ls W hl0 hW => exec_load 23 (.tmp 40) rfl _ _ rfl (run_load_cell flat___api_Token (hW.1.cell 0))) ⟨hV0, hC10, hC20⟩ ⟨hV0, hC10, hC20⟩ ?_
      go_frame
      refine late_take [] (i := 6) (some 42) rfl rfl (by first | rfl | kernel_rfl) (by kernel_rfl) (by kernel_rfl) (by kernel_rfl) (by kernel_rfl) (by kernel_rfl) (fun Ls W h => h) (.int .i64 j) (fun _ _ _ h => h) (fun Ls W hl0 hW => exec_move (.tmp 6) rfl _ rfl) ⟨hV0, hC10, hC20⟩ ⟨hV0, hC10, hC20⟩ ?_
      go_frame
      refine late_take [] (i := 7) (some 43) rfl rfl (by first | rfl | kernel_rfl) (by kernel_rfl) (by kernel_rfl) (by kernel_rfl) (by kernel_rfl) (by kernel_rfl) (fun Ls W h => h) (.pointer (some ⟨b2, o2 + j * 4, none⟩)) (fun _ _ _ h => h) (fun Ls W hl0 hW => exec_atT (.tmp 41) (.tmp 42) rfl b2 o2 _ c2 j hlt rfl rfl) ⟨hV0, hC10, hC20⟩ ⟨hV0, hC10, hC20⟩ ?_
      go_frame
      refine late_take [] (i := 8) (some 44) rfl rfl (by first | rfl | kernel_rfl) (by kernel_rfl) (by kernel_rfl) (by kernel_rfl) (by kernel_rfl) (by kernel_rfl) (fun Ls W h => h) (.agg #[.int .i64 tk, .int .i64 ta, .string (sb ts), .int .i64 tv]) (fun _ _ _ h => h) (fun Ls W hl0 hW => exec_loadT (.tmp 43) rfl b2 _ ⟨tk, ta, sb ts, tv⟩ rfl hW.2.2) ⟨hV0, hC10, hC20⟩ ⟨hV0, hC10, hC20⟩ ?_
      go_frame
      refine late_take [] (i := 9) (some 45) rfl rfl (by first | rfl | kernel_rfl) (by kernel_rfl) (by kernel_rfl) (by kernel_rfl) (by kernel_rfl) (by kernel_rfl) (fun Ls W h => h) (.bool false) (fun _ _ _ h => h) (fun Ls W hl0 hW => exec_bin .neq 33 _ (.tmp 39) (.tmp 44) rfl (.agg #[.int .i64 tk, .int .i64 ta, .string (sb ts), .int .i64 tv]) (.agg #[.int .i64 tk, .int .i64 ta, .string (sb ts), .int .i64 tv]) _ rfl rfl (tk_gdN _ _ _ _ _) (tk_neA _ _ _ _ _)) ⟨hV0, hC10, hC20⟩ ⟨hV0, hC10, hC20⟩ ?_
      refine late_done (by kernel_rfl) ?_ _
      go_frame
      have HE := Lib.hid hE0
      have HR1 := Lib.hid hR10
      have HR2 := Lib.hid hR20
      have HW := Lib.hid hW0
      have HV := Lib.hid hV0
      have HC1 := Lib.hid hC10
      have HC2 := Lib.hid hC20
      clear hE0 hR10 hR20 hW0 hV0 hC10 hC20
      go_wp2_with fail
      go_roundw
      case rel => first | exact ⟨j + 1, by go_num, by omega, HE, HR1, HR2, HV, HW⟩ | ((repeat apply Exists.intro); exact ⟨⟨j + 1, by go_num, by omega, HE, HR1, HR2, HV, HW⟩, rfl⟩)
      case measure => simp [intOf]; omega
    · obtain rfl : j = T.length := by omega
      have h1 : decide ((T.length : Int) < (T.length : Int)) = false := decide_eq_false (by omega)
      go_wp2_with (first | ((with_reducible refine (sanity_any _ HE.out).mono ?_); rintro e wy ⟨rfl, hb⟩; replace HE := Lib.hid (HE.out.next hb); replace HW := Lib.hid (HW.out.trans (hb.mono HW.out.size)); clear hb))
      go_ret
      exact ⟨rfl, HW.out⟩
theorem walk_readsAs (s : ByteArray) (w : World) (hE : Env w) : Calls Tryd.prog 3 #[.string s] w fun e w' => e = .returned (.bool true) ∧ Below w.heap.size w w' := by
  rw [(sb_of s).symm]
  generalize s.data.toList = l
  rcases Nat.lt_or_ge 70000 l.length with h | h
  · exact reads_far l w hE h
  · have hP : ∀ W, Env W → Calls Tryd.prog 9 #[.string (sb l)] W (TokP W (lexAll l)) := fun W hW => by
      unfold lexAll
      by_cases h2 : 65536 < l.length
      · rw [if_pos h2]; exact tokens_long l W (by omega) h2
      · rw [if_neg h2]; exact tokens_ok l W (by omega) hW
    have hR := fun W => rtokens_any l W
    cases hx : lexAll l with
    | ok T =>
      rw [hx] at hP hR
      have hT : T.length ≤ 70001 := by
        unfold lexAll at hx
        by_cases h2 : 65536 < l.length
        · rw [if_pos h2] at hx; cases hx
        · rw [if_neg h2] at hx
          have := (lex_small l 0 T hx).1
          omega
      refine reads_all l w hE h T 0 0 hT (fun W hW => (hP W hW).mono fun e w' hq => ?_) (fun W => (hR W).mono fun e w' hq => ?_)
      · obtain ⟨v, e1, e2, e3⟩ := hq
        obtain ⟨A, c, rfl, _, hr⟩ := e2.reads
        rw [List.length_map] at e1
        exact ⟨⟨A, c, e1, hr⟩, e3⟩
      · obtain ⟨A, c, e1, e2, e3⟩ := hq
        exact ⟨⟨A, c, e1, e2⟩, e3⟩
    | bad x k =>
      rw [hx] at hP hR
      refine reads_all l w hE h [] x k (by simp) (fun W hW => (hP W hW).mono fun e w' hq => ?_) (fun W => (hR W).mono fun e w' hq => ?_)
      · exact ⟨⟨none, 0, hq.1, Rd.nil _ _⟩, hq.2⟩
      · exact ⟨⟨none, 0, hq.1, Rd.nil _ _⟩, hq.2⟩
end Go.Proofs.YtggjgikpiljoiaaDoor
