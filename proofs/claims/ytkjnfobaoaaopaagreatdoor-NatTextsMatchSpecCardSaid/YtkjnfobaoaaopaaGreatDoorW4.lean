/- The walk of NatTextsMatchSpec. -/
import Derived.Test.YtkjnfobaoaaopaaGreatDoorRB
namespace Go.Proofs.YtkjnfobaoaaopaaGreatDoor
open Go.RowKit Hm Wm Wn

set_option maxRecDepth 1000000 in
set_option maxHeartbeats 2000000 in
theorem walk_texts_out (n : Int) (s t : ByteArray) (w : World) (hT : Pow w) (h : ¬ (s.size ≤ 40 ∧ t.size ≤ 100)) : Calls Tryz.prog 4 #[.int .i64 n, .string s, .string t] w fun e w' => e = .returned (.bool true) ∧ Below w.heap.size w w' := by
  have HS := Lib.hid (sanity_any w hT)
  clear hT
  by_cases h0 : s.size ≤ 40
  · have c0 : decide ((40 : Int) < (s.size : Int)) = false := decide_eq_false (by omega)
    have c0' : decide (40 < s.size) = false := decide_eq_false (by omega)
    have c1 : decide ((100 : Int) < (t.size : Int)) = true := decide_eq_true (by omega)
    have c1' : decide (100 < t.size) = true := decide_eq_true (by omega)
    clear h h0
    go_enter Tryz.func4, Tryz.ntmps4
    go_wp2_with fail
    refine HS.out.mono ?_
    rintro e w1 ⟨rfl, hb⟩
    have HB := Lib.hid hb
    clear hb HS
    go_wp2
    go_ret
    exact ⟨rfl, HB.out⟩
  · have c0 : decide ((40 : Int) < (s.size : Int)) = true := decide_eq_true (by omega)
    have c0' : decide (40 < s.size) = true := decide_eq_true (by omega)
    clear h h0
    go_enter Tryz.func4, Tryz.ntmps4
    go_wp2_with fail
    refine HS.out.mono ?_
    rintro e w1 ⟨rfl, hb⟩
    have HB := Lib.hid hb
    clear hb HS
    go_wp2
    go_ret
    exact ⟨rfl, HB.out⟩
set_option maxRecDepth 1000000 in
set_option maxHeartbeats 8000000 in
theorem walk_texts (n : Int) (s t : ByteArray) (w : World) (hT : Pow w) (hn : n ≤ 9223372036854775807) : Calls Tryz.prog 4 #[.int .i64 n, .string s, .string t] w fun e w' => e = .returned (.bool true) ∧ Below w.heap.size w w' := by
  by_cases h : s.size ≤ 40 ∧ t.size ≤ 100
  · obtain ⟨hs, ht⟩ := h
    have PW := Lib.hid hT
    have HB := Lib.hid (Below.refl w.heap.size w)
    have c0 : decide ((40 : Int) < (s.size : Int)) = false := decide_eq_false (by omega)
    have c0' : decide (40 < s.size) = false := decide_eq_false (by omega)
    have c1 : decide ((100 : Int) < (t.size : Int)) = false := decide_eq_false (by omega)
    have c1' : decide (100 < t.size) = false := decide_eq_false (by omega)
    obtain ⟨X, kX, hX1, hX2⟩ := int_both n hn
    obtain ⟨y, kY, hY1, hY2⟩ := value_both s hs
    obtain ⟨Z, kZ, hZ1, hZ2⟩ := parse_both t ht
    have F27 := Lib.hid hX1
    have F41 := Lib.hid hX2
    have F32 := Lib.hid hY1
    have F43 := Lib.hid hY2
    have F37 := Lib.hid hZ1
    have F45 := Lib.hid hZ2
    have F46 := Lib.hid (fun W h => sanity_any W h)
    have F85 := Lib.hid (fun W h => textS_any s W (by omega) h)
    have F87 := Lib.hid (fun W => rtext_any s W (by omega))
    generalize sb (Lib.decDigits (nB s)) = T at F85 F87
    clear hT hs ht hn hX1 hX2 hY1 hY2 hZ1 hZ2
    go_enter Tryz.func4, Tryz.ntmps4
    go_wp2_with fail
    refine (F27.out _).mono ?_
    rintro e w1 ⟨rfl, hb⟩
    replace PW := Lib.hid (PW.out.next hb)
    replace HB := Lib.hid (HB.out.trans (hb.mono HB.out.size))
    clear hb
    go_wp2_with fail
    refine (F32.out _).mono ?_
    rintro e w2 ⟨rfl, hb⟩
    replace PW := Lib.hid (PW.out.next hb)
    replace HB := Lib.hid (HB.out.trans (hb.mono HB.out.size))
    clear hb
    go_wp2_with fail
    refine (F37.out _).mono ?_
    rintro e w3 ⟨rfl, hb⟩
    replace PW := Lib.hid (PW.out.next hb)
    replace HB := Lib.hid (HB.out.trans (hb.mono HB.out.size))
    clear hb
    go_wp2_with fail
    refine (F41.out _).mono ?_
    rintro e w4 ⟨rfl, hb⟩
    replace PW := Lib.hid (PW.out.next hb)
    replace HB := Lib.hid (HB.out.trans (hb.mono HB.out.size))
    clear hb
    go_wp2_with (refine wpList_var rfl rfl 29 13 rfl rfl rfl (.tmp 41) rfl [.string ⟨#[]⟩, .int .i64 0] [.string X, .int .i64 kX] md_zero rfl rfl rfl md_size (md_one _ _) ?_; intro v13 K13 D13; replace PW := Lib.hid (PW.out.next D13.out); replace HB := Lib.hid (HB.out.trans (D13.out.mono HB.out.size)); clear D13)
    go_wp2_with fail
    refine (F43.out _).mono ?_
    rintro e w5 ⟨rfl, hb⟩
    replace PW := Lib.hid (PW.out.next hb)
    replace HB := Lib.hid (HB.out.trans (hb.mono HB.out.size))
    replace K13 := Lib.hid (K13.out.next hb)
    clear hb
    go_wp2_with (refine wpList_var rfl rfl 45 14 rfl rfl rfl (.tmp 43) rfl [.int .i64 0, .int .i64 0] [.int .i64 y, .int .i64 kY] ct_zero rfl rfl rfl ct_size (ct_one _ _) ?_; intro v14 K14 D14; replace PW := Lib.hid (PW.out.next D14.out); replace HB := Lib.hid (HB.out.trans (D14.out.mono HB.out.size)); replace K13 := Lib.hid (K13.out.next D14.out); clear D14)
    go_wp2_with fail
    refine (F45.out _).mono ?_
    rintro e w6 ⟨rfl, hb⟩
    replace PW := Lib.hid (PW.out.next hb)
    replace HB := Lib.hid (HB.out.trans (hb.mono HB.out.size))
    replace K13 := Lib.hid (K13.out.next hb)
    replace K14 := Lib.hid (K14.out.next hb)
    clear hb
    go_wp2_with (refine wpList_var rfl rfl 29 15 rfl rfl rfl (.tmp 45) rfl [.string ⟨#[]⟩, .int .i64 0] [.string Z, .int .i64 kZ] md_zero rfl rfl rfl md_size (md_one _ _) ?_; intro v15 K15 D15; replace PW := Lib.hid (PW.out.next D15.out); replace HB := Lib.hid (HB.out.trans (D15.out.mono HB.out.size)); replace K13 := Lib.hid (K13.out.next D15.out); replace K14 := Lib.hid (K14.out.next D15.out); clear D15)
    go_wp2_with fail
    refine (F46.out _ PW.out).mono ?_
    rintro e w7 ⟨rfl, hb⟩
    replace PW := Lib.hid (PW.out.next hb)
    replace HB := Lib.hid (HB.out.trans (hb.mono HB.out.size))
    replace K13 := Lib.hid (K13.out.next hb)
    replace K14 := Lib.hid (K14.out.next hb)
    replace K15 := Lib.hid (K15.out.next hb)
    clear hb
    go_wp2_with (first | (refine wpList_dst 49 rfl ?_; refine wpList_runG 49 rfl rfl _ (exec_fieldAddr 29 (.tmp 13) 0 rfl _ _ rfl (md_f0 _ _)) ?_) | (refine wpList_dst 50 rfl ?_; refine wpList_runG 50 rfl rfl _ (exec_loadF 9 str_flat (.tmp 49) rfl (.string X) rfl (K13.out.cell 0)) ?_) | (refine wpList_dst 51 rfl ?_; refine wpList_runG 51 rfl rfl _ (exec_bin .eql 9 _ (.tmp 48) (.tmp 50) rfl _ _ _ rfl rfl rfl (run_eqS X X true (decide_eq_true rfl) _)) ?_) | (refine wpList_dst 55 rfl ?_; refine wpList_runG 55 rfl rfl _ (exec_fieldAddr 29 (.tmp 13) 1 rfl _ _ rfl (md_f1 _ _)) ?_) | (refine wpList_dst 56 rfl ?_; refine wpList_runG 56 rfl rfl _ (exec_loadF 23 errno_flat (.tmp 55) rfl (.int .i64 kX) rfl (K13.out.cell 1)) ?_) | (refine wpList_dst 57 rfl ?_; refine wpList_runG 57 rfl rfl _ (exec_bin .eql 23 _ (.tmp 54) (.tmp 56) rfl _ _ _ rfl rfl rfl (run_eqE kX _)) ?_) | (refine wpList_dst 61 rfl ?_; refine wpList_runG 61 rfl rfl _ (exec_fieldAddr 45 (.tmp 14) 0 rfl _ _ rfl (ct_f0 _ _)) ?_) | (refine wpList_dst 62 rfl ?_; refine wpList_runG 62 rfl rfl _ (exec_loadF 3 int_flat (.tmp 61) rfl (.int .i64 y) rfl (K14.out.cell 0)) ?_) | (refine wpList_dst 63 rfl ?_; refine wpList_runG 63 rfl rfl _ (exec_bin .eql 3 _ (.tmp 60) (.tmp 62) rfl _ _ _ rfl rfl rfl (run_eqI y _)) ?_) | (refine wpList_dst 67 rfl ?_; refine wpList_runG 67 rfl rfl _ (exec_fieldAddr 45 (.tmp 14) 1 rfl _ _ rfl (ct_f1 _ _)) ?_) | (refine wpList_dst 68 rfl ?_; refine wpList_runG 68 rfl rfl _ (exec_loadF 23 errno_flat (.tmp 67) rfl (.int .i64 kY) rfl (K14.out.cell 1)) ?_) | (refine wpList_dst 69 rfl ?_; refine wpList_runG 69 rfl rfl _ (exec_bin .eql 23 _ (.tmp 66) (.tmp 68) rfl _ _ _ rfl rfl rfl (run_eqE kY _)) ?_) | (refine wpList_dst 73 rfl ?_; refine wpList_runG 73 rfl rfl _ (exec_fieldAddr 29 (.tmp 15) 0 rfl _ _ rfl (md_f0 _ _)) ?_) | (refine wpList_dst 74 rfl ?_; refine wpList_runG 74 rfl rfl _ (exec_loadF 9 str_flat (.tmp 73) rfl (.string Z) rfl (K15.out.cell 0)) ?_) | (refine wpList_dst 75 rfl ?_; refine wpList_runG 75 rfl rfl _ (exec_bin .eql 9 _ (.tmp 72) (.tmp 74) rfl _ _ _ rfl rfl rfl (run_eqS Z Z true (decide_eq_true rfl) _)) ?_) | (refine wpList_dst 79 rfl ?_; refine wpList_runG 79 rfl rfl _ (exec_fieldAddr 29 (.tmp 15) 1 rfl _ _ rfl (md_f1 _ _)) ?_) | (refine wpList_dst 80 rfl ?_; refine wpList_runG 80 rfl rfl _ (exec_loadF 23 errno_flat (.tmp 79) rfl (.int .i64 kZ) rfl (K15.out.cell 1)) ?_) | (refine wpList_dst 81 rfl ?_; refine wpList_runG 81 rfl rfl _ (exec_bin .eql 23 _ (.tmp 78) (.tmp 80) rfl _ _ _ rfl rfl rfl (run_eqE kZ _)) ?_))
    refine (F85.out _ PW.out).mono ?_
    rintro e w8 ⟨rfl, hb⟩
    replace PW := Lib.hid (PW.out.next hb)
    replace HB := Lib.hid (HB.out.trans (hb.mono HB.out.size))
    replace K13 := Lib.hid (K13.out.next hb)
    replace K14 := Lib.hid (K14.out.next hb)
    replace K15 := Lib.hid (K15.out.next hb)
    clear hb
    go_wp2_with fail
    refine (F87.out _).mono ?_
    rintro e w9 ⟨rfl, hb⟩
    replace PW := Lib.hid (PW.out.next hb)
    replace HB := Lib.hid (HB.out.trans (hb.mono HB.out.size))
    replace K13 := Lib.hid (K13.out.next hb)
    replace K14 := Lib.hid (K14.out.next hb)
    replace K15 := Lib.hid (K15.out.next hb)
    clear hb
    go_wp2_with (first | (refine wpList_dst 88 rfl ?_; refine wpList_runG 88 rfl rfl _ (exec_bin .eql 9 _ (.tmp 85) (.tmp 87) rfl _ _ _ rfl rfl rfl (run_eqS T T true (decide_eq_true rfl) _)) ?_))
    go_ret
    exact ⟨rfl, HB.out⟩
  · exact walk_texts_out n s t w hT h
end Go.Proofs.YtkjnfobaoaaopaaGreatDoor
