/- The walk of NatMatchesSpec. -/
import Derived.Test.YtkjnfobaoaaopaaGreatDoorRB
namespace Go.Proofs.YtkjnfobaoaaopaaGreatDoor
open Go.RowKit Hm Wm Wn

set_option maxRecDepth 1000000 in
set_option maxHeartbeats 2000000 in
theorem walk_matches_out (s t : ByteArray) (w : World) (hT : Pow w) (h : ¬ (s.size ≤ 40 ∧ t.size ≤ 40)) : Calls Tryz.prog 3 #[.string s, .string t] w fun e w' => e = .returned (.bool true) ∧ Below w.heap.size w w' := by
  have HS := Lib.hid (sanity_any w hT)
  clear hT
  by_cases h0 : s.size ≤ 40
  · have c0 : decide ((40 : Int) < (s.size : Int)) = false := decide_eq_false (by omega)
    have c0' : decide (40 < s.size) = false := decide_eq_false (by omega)
    have c1 : decide ((40 : Int) < (t.size : Int)) = true := decide_eq_true (by omega)
    have c1' : decide (40 < t.size) = true := decide_eq_true (by omega)
    clear h h0
    go_enter Tryz.func3, Tryz.ntmps3
    go_wp2_with fail
    refine HS.out.mono ?_
    rintro e w1 ⟨rfl, hb⟩
    have HB := Lib.hid hb
    clear hb HS
    go_wp2
    go_ret
    exact ⟨rfl, HB.out⟩
  · have c0 : decide ((40 : Int) < (s.size : Int)) = true := decide_eq_true (by omega)
    have c0' : decide (40 < s.size) = true := decide_eq_true (by omega)
    clear h h0
    go_enter Tryz.func3, Tryz.ntmps3
    go_wp2_with fail
    refine HS.out.mono ?_
    rintro e w1 ⟨rfl, hb⟩
    have HB := Lib.hid hb
    clear hb HS
    go_wp2
    go_ret
    exact ⟨rfl, HB.out⟩
set_option maxRecDepth 1000000 in
set_option maxHeartbeats 8000000 in
theorem walk_matches (s t : ByteArray) (w : World) (hT : Pow w) : Calls Tryz.prog 3 #[.string s, .string t] w fun e w' => e = .returned (.bool true) ∧ Below w.heap.size w w' := by
  by_cases h : s.size ≤ 40 ∧ t.size ≤ 40
  · obtain ⟨hs, ht⟩ := h
    have PW := Lib.hid hT
    have HB := Lib.hid (Below.refl w.heap.size w)
    have c0 : decide ((40 : Int) < (s.size : Int)) = false := decide_eq_false (by omega)
    have c0' : decide (40 < s.size) = false := decide_eq_false (by omega)
    have c1 : decide ((40 : Int) < (t.size : Int)) = false := decide_eq_false (by omega)
    have c1' : decide (40 < t.size) = false := decide_eq_false (by omega)
    obtain ⟨L, kL, hL1, hL2⟩ := sub_both s t hs ht
    obtain ⟨Q, R, kQ, hQ1, hQ2⟩ := div_both s t hs ht
    have F25 := Lib.hid hL1
    have F37 := Lib.hid hL2
    have F31 := Lib.hid hQ1
    have F40 := Lib.hid hQ2
    have F42 := Lib.hid (fun W => valid_any s W)
    have F44 := Lib.hid (fun W => rvalid_any s W (by omega))
    have F48 := Lib.hid (fun W => cleanC s _ W rfl)
    have F50 := Lib.hid (fun W => rclean_any s W (by omega))
    have F56 := Lib.hid (fun W => cmpC s t _ W rfl)
    have F59 := Lib.hid (fun W => rcmp_any s t W (by omega) (by omega))
    have F65 := Lib.hid (fun W => addC s t _ W (by omega) (by omega) rfl)
    have F68 := Lib.hid (fun W => radd_any s t W (by omega) (by omega))
    have F83 := Lib.hid (fun W h => sanity_any W h)
    have F90 := Lib.hid (fun W => mulC s t _ W (by omega) (by omega) rfl)
    have F93 := Lib.hid (fun W => rmul_any s t W (by omega) (by omega))
    have F117 := Lib.hid (fun W => gcdC s t _ W (by omega) (by omega) rfl)
    have F120 := Lib.hid (fun W => rgcd_any s t W (by omega) (by omega))
    generalize validB s = V at F42 F44
    generalize cS (nB s) = C at F48 F50
    generalize cmpN (nB s) (nB t) = K at F56 F59
    generalize cS (nB s + nB t) = A at F65 F68
    generalize cS (nB s * nB t) = M at F90 F93
    generalize cS (Nat.gcd (nB s) (nB t)) = G at F117 F120
    clear hT hs ht hL1 hL2 hQ1 hQ2
    go_enter Tryz.func3, Tryz.ntmps3
    go_wp2_with fail
    refine (F25.out _).mono ?_
    rintro e w1 ⟨rfl, hb⟩
    replace PW := Lib.hid (PW.out.next hb)
    replace HB := Lib.hid (HB.out.trans (hb.mono HB.out.size))
    clear hb
    go_wp2_with fail
    refine (F31.out _).mono ?_
    rintro e w2 ⟨rfl, hb⟩
    replace PW := Lib.hid (PW.out.next hb)
    replace HB := Lib.hid (HB.out.trans (hb.mono HB.out.size))
    clear hb
    go_wp2_with fail
    refine (F37.out _).mono ?_
    rintro e w3 ⟨rfl, hb⟩
    replace PW := Lib.hid (PW.out.next hb)
    replace HB := Lib.hid (HB.out.trans (hb.mono HB.out.size))
    clear hb
    go_wp2_with (refine wpList_var rfl rfl 29 10 rfl rfl rfl (.tmp 37) rfl [.string ⟨#[]⟩, .int .i64 0] [.string L, .int .i64 kL] md_zero rfl rfl rfl md_size (md_one _ _) ?_; intro v10 K10 D10; replace PW := Lib.hid (PW.out.next D10.out); replace HB := Lib.hid (HB.out.trans (D10.out.mono HB.out.size)); clear D10)
    go_wp2_with fail
    refine (F40.out _).mono ?_
    rintro e w4 ⟨rfl, hb⟩
    replace PW := Lib.hid (PW.out.next hb)
    replace HB := Lib.hid (HB.out.trans (hb.mono HB.out.size))
    replace K10 := Lib.hid (K10.out.next hb)
    clear hb
    go_wp2_with (refine wpList_var rfl rfl 32 11 rfl rfl rfl (.tmp 40) rfl [.string ⟨#[]⟩, .string ⟨#[]⟩, .int .i64 0] [.string Q, .string R, .int .i64 kQ] dv_zero rfl rfl rfl dv_size (dv_one _ _ _) ?_; intro v11 K11 D11; replace PW := Lib.hid (PW.out.next D11.out); replace HB := Lib.hid (HB.out.trans (D11.out.mono HB.out.size)); replace K10 := Lib.hid (K10.out.next D11.out); clear D11)
    go_wp2_with fail
    refine (F42.out _).mono ?_
    rintro e wx ⟨rfl, hw⟩
    obtain rfl : v11 = wx := hw.symm
    clear hw
    go_wp2_with fail
    refine (F44.out _).mono ?_
    rintro e wx ⟨rfl, hw⟩
    obtain rfl : v11 = wx := hw.symm
    clear hw
    go_wp2_with (first | (refine wpList_dst 45 rfl ?_; refine wpList_run 45 rfl rfl _ (exec_bin .eql 4 _ (.tmp 42) (.tmp 44) rfl _ _ _ rfl rfl rfl (run_eqB V _)) ?_))
    refine (F48.out _).mono ?_
    rintro e wx ⟨rfl, hw⟩
    obtain rfl : v11 = wx := hw.symm
    clear hw
    go_wp2_with fail
    refine (F50.out _).mono ?_
    rintro e wx ⟨rfl, hw⟩
    obtain rfl : v11 = wx := hw.symm
    clear hw
    go_wp2_with (first | (refine wpList_dst 51 rfl ?_; refine wpList_runG 51 rfl rfl _ (exec_bin .eql 9 _ (.tmp 48) (.tmp 50) rfl _ _ _ rfl rfl rfl (run_eqS C C true (decide_eq_true rfl) _)) ?_))
    refine (F56.out _).mono ?_
    rintro e wx ⟨rfl, hw⟩
    obtain rfl : v11 = wx := hw.symm
    clear hw
    go_wp2_with fail
    refine (F59.out _).mono ?_
    rintro e wx ⟨rfl, hw⟩
    obtain rfl : v11 = wx := hw.symm
    clear hw
    go_wp2_with (first | (refine wpList_dst 60 rfl ?_; refine wpList_runG 60 rfl rfl _ (exec_bin .eql 3 _ (.tmp 56) (.tmp 59) rfl _ _ _ rfl rfl rfl (run_eqI K _)) ?_))
    refine (F65.out _).mono ?_
    rintro e w5 ⟨rfl, hb⟩
    replace PW := Lib.hid (PW.out.next hb)
    replace HB := Lib.hid (HB.out.trans (hb.mono HB.out.size))
    replace K10 := Lib.hid (K10.out.next hb)
    replace K11 := Lib.hid (K11.out.next hb)
    clear hb
    go_wp2_with fail
    refine (F68.out _).mono ?_
    rintro e w6 ⟨rfl, hb⟩
    replace PW := Lib.hid (PW.out.next hb)
    replace HB := Lib.hid (HB.out.trans (hb.mono HB.out.size))
    replace K10 := Lib.hid (K10.out.next hb)
    replace K11 := Lib.hid (K11.out.next hb)
    clear hb
    go_wp2_with (first | (refine wpList_dst 69 rfl ?_; refine wpList_runG 69 rfl rfl _ (exec_bin .eql 9 _ (.tmp 65) (.tmp 68) rfl _ _ _ rfl rfl rfl (run_eqS A A true (decide_eq_true rfl) _)) ?_) | (refine wpList_dst 73 rfl ?_; refine wpList_runG 73 rfl rfl _ (exec_fieldAddr 29 (.tmp 10) 0 rfl _ _ rfl (md_f0 _ _)) ?_) | (refine wpList_dst 74 rfl ?_; refine wpList_runG 74 rfl rfl _ (exec_loadF 9 str_flat (.tmp 73) rfl (.string L) rfl (K10.out.cell 0)) ?_) | (refine wpList_dst 75 rfl ?_; refine wpList_runG 75 rfl rfl _ (exec_bin .eql 9 _ (.tmp 72) (.tmp 74) rfl _ _ _ rfl rfl rfl (run_eqS L L true (decide_eq_true rfl) _)) ?_) | (refine wpList_dst 79 rfl ?_; refine wpList_runG 79 rfl rfl _ (exec_fieldAddr 29 (.tmp 10) 1 rfl _ _ rfl (md_f1 _ _)) ?_) | (refine wpList_dst 80 rfl ?_; refine wpList_runG 80 rfl rfl _ (exec_loadF 23 errno_flat (.tmp 79) rfl (.int .i64 kL) rfl (K10.out.cell 1)) ?_) | (refine wpList_dst 81 rfl ?_; refine wpList_runG 81 rfl rfl _ (exec_bin .eql 23 _ (.tmp 78) (.tmp 80) rfl _ _ _ rfl rfl rfl (run_eqE kL _)) ?_))
    refine (F83.out _ PW.out).mono ?_
    rintro e w7 ⟨rfl, hb⟩
    replace PW := Lib.hid (PW.out.next hb)
    replace HB := Lib.hid (HB.out.trans (hb.mono HB.out.size))
    replace K10 := Lib.hid (K10.out.next hb)
    replace K11 := Lib.hid (K11.out.next hb)
    clear hb
    go_wp2_with fail
    refine (F90.out _).mono ?_
    rintro e w8 ⟨rfl, hb⟩
    replace PW := Lib.hid (PW.out.next hb)
    replace HB := Lib.hid (HB.out.trans (hb.mono HB.out.size))
    replace K10 := Lib.hid (K10.out.next hb)
    replace K11 := Lib.hid (K11.out.next hb)
    clear hb
    go_wp2_with fail
    refine (F93.out _).mono ?_
    rintro e w9 ⟨rfl, hb⟩
    replace PW := Lib.hid (PW.out.next hb)
    replace HB := Lib.hid (HB.out.trans (hb.mono HB.out.size))
    replace K10 := Lib.hid (K10.out.next hb)
    replace K11 := Lib.hid (K11.out.next hb)
    clear hb
    go_wp2_with (first | (refine wpList_dst 94 rfl ?_; refine wpList_runG 94 rfl rfl _ (exec_bin .eql 9 _ (.tmp 90) (.tmp 93) rfl _ _ _ rfl rfl rfl (run_eqS M M true (decide_eq_true rfl) _)) ?_) | (refine wpList_dst 98 rfl ?_; refine wpList_runG 98 rfl rfl _ (exec_fieldAddr 32 (.tmp 11) 0 rfl _ _ rfl (dv_f0 _ _)) ?_) | (refine wpList_dst 99 rfl ?_; refine wpList_runG 99 rfl rfl _ (exec_loadF 9 str_flat (.tmp 98) rfl (.string Q) rfl (K11.out.cell 0)) ?_) | (refine wpList_dst 100 rfl ?_; refine wpList_runG 100 rfl rfl _ (exec_bin .eql 9 _ (.tmp 97) (.tmp 99) rfl _ _ _ rfl rfl rfl (run_eqS Q Q true (decide_eq_true rfl) _)) ?_) | (refine wpList_dst 104 rfl ?_; refine wpList_runG 104 rfl rfl _ (exec_fieldAddr 32 (.tmp 11) 1 rfl _ _ rfl (dv_f1 _ _)) ?_) | (refine wpList_dst 105 rfl ?_; refine wpList_runG 105 rfl rfl _ (exec_loadF 9 str_flat (.tmp 104) rfl (.string R) rfl (K11.out.cell 1)) ?_) | (refine wpList_dst 106 rfl ?_; refine wpList_runG 106 rfl rfl _ (exec_bin .eql 9 _ (.tmp 103) (.tmp 105) rfl _ _ _ rfl rfl rfl (run_eqS R R true (decide_eq_true rfl) _)) ?_) | (refine wpList_dst 110 rfl ?_; refine wpList_runG 110 rfl rfl _ (exec_fieldAddr 32 (.tmp 11) 2 rfl _ _ rfl (dv_f2 _ _)) ?_) | (refine wpList_dst 111 rfl ?_; refine wpList_runG 111 rfl rfl _ (exec_loadF 23 errno_flat (.tmp 110) rfl (.int .i64 kQ) rfl (K11.out.cell 2)) ?_) | (refine wpList_dst 112 rfl ?_; refine wpList_runG 112 rfl rfl _ (exec_bin .eql 23 _ (.tmp 109) (.tmp 111) rfl _ _ _ rfl rfl rfl (run_eqE kQ _)) ?_))
    refine (F117.out _).mono ?_
    rintro e w10 ⟨rfl, hb⟩
    replace PW := Lib.hid (PW.out.next hb)
    replace HB := Lib.hid (HB.out.trans (hb.mono HB.out.size))
    replace K10 := Lib.hid (K10.out.next hb)
    replace K11 := Lib.hid (K11.out.next hb)
    clear hb
    go_wp2_with fail
    refine (F120.out _).mono ?_
    rintro e w11 ⟨rfl, hb⟩
    replace PW := Lib.hid (PW.out.next hb)
    replace HB := Lib.hid (HB.out.trans (hb.mono HB.out.size))
    replace K10 := Lib.hid (K10.out.next hb)
    replace K11 := Lib.hid (K11.out.next hb)
    clear hb
    go_wp2_with (first | (refine wpList_dst 121 rfl ?_; refine wpList_runG 121 rfl rfl _ (exec_bin .eql 9 _ (.tmp 117) (.tmp 120) rfl _ _ _ rfl rfl rfl (run_eqS G G true (decide_eq_true rfl) _)) ?_))
    go_ret
    exact ⟨rfl, HB.out⟩
  · exact walk_matches_out s t w hT h
end Go.Proofs.YtkjnfobaoaaopaaGreatDoor
