/- The walk of HashMacMatchesSpec. -/
import Derived.Test.YtoendbdpkkjjkaaDoorHRef3
import Derived.Test.YtoendbdpkkjjkaaDoorHWSep
namespace Go.Proofs.YtoendbdpkkjjkaaDoor
open Go.RowKit Hm Wm

set_option maxRecDepth 100000 in
set_option maxHeartbeats 1000000 in
theorem walkMac_key (key : ByteArray) (A B : Option Addr) (c c2 : Nat) (ss us : List ByteArray) (w : World) (hg : Glob w) (h : 400 < key.size) :
    Calls Tryd.prog 8 #[.string key, .slice A ss.length c, .slice B us.length c2] w fun e w' => e = .returned (.bool true) ∧ Below w.heap.size w w' := by
  have HG := Lib.hid hg
  have d1 : decide ((400 : Int) < (key.size : Int)) = true := by simp; omega
  clear hg h
  go_enter Tryd.func8, Tryd.ntmps8
  go_wp2_with fail
  refine (hsanity_any _ HG.out).mono ?_
  rintro e w1 ⟨rfl, hb1⟩
  have B1 := Lib.hid hb1
  clear hb1
  go_wp2
  go_ret
  exact ⟨rfl, B1.out⟩

set_option maxRecDepth 100000 in
set_option maxHeartbeats 1000000 in
theorem walkMac_many (key : ByteArray) (A B : Option Addr) (c c2 : Nat) (ss us : List ByteArray) (w : World) (hg : Glob w) (hk : key.size ≤ 400) (hr : Rd w A (ss.map Value.string)) (hl : ss.length ≤ maxLen) (hf : fewB ss = false) :
    Calls Tryd.prog 8 #[.string key, .slice A ss.length c, .slice B us.length c2] w fun e w' => e = .returned (.bool true) ∧ Below w.heap.size w w' := by
  have HG := Lib.hid hg
  have HR := Lib.hid hr
  have HF := Lib.hid hf
  have HL := Lib.hid hl
  have d1 : decide ((400 : Int) < (key.size : Int)) = false := by simp; omega
  clear hg hr hf hl hk
  go_enter Tryd.func8, Tryd.ntmps8
  go_wp2_with fail
  refine (hsanity_any _ HG.out).mono ?_
  rintro e w1 ⟨rfl, hb1⟩
  have B1 := Lib.hid hb1
  clear hb1
  go_wp2_with fail
  refine (few_any A c ss w1 (HR.out.below B1.out) HL.out).mono ?_
  rintro e w' ⟨rfl, rfl⟩
  rw [HF.out]
  go_wp2
  go_ret
  exact ⟨rfl, B1.out⟩

set_option maxRecDepth 100000 in
set_option maxHeartbeats 1000000 in
theorem walkMac_more (key : ByteArray) (A B : Option Addr) (c c2 : Nat) (ss us : List ByteArray) (w : World) (hg : Glob w) (hk : key.size ≤ 400) (hr : Rd w A (ss.map Value.string)) (hl : ss.length ≤ maxLen) (hf : fewB ss = true) (hr2 : Rd w B (us.map Value.string)) (hl2 : us.length ≤ maxLen) (hf2 : fewB us = false) :
    Calls Tryd.prog 8 #[.string key, .slice A ss.length c, .slice B us.length c2] w fun e w' => e = .returned (.bool true) ∧ Below w.heap.size w w' := by
  have HG := Lib.hid hg
  have HR := Lib.hid hr
  have HF := Lib.hid hf
  have HL := Lib.hid hl
  have HR2 := Lib.hid hr2
  have HF2 := Lib.hid hf2
  have HL2 := Lib.hid hl2
  have d1 : decide ((400 : Int) < (key.size : Int)) = false := by simp; omega
  clear hg hr hf hl hk hr2 hl2 hf2
  go_enter Tryd.func8, Tryd.ntmps8
  go_wp2_with fail
  refine (hsanity_any _ HG.out).mono ?_
  rintro e w1 ⟨rfl, hb1⟩
  have B1 := Lib.hid hb1
  clear hb1
  go_wp2_with fail
  refine (few_any A c ss w1 (HR.out.below B1.out) HL.out).mono ?_
  rintro e w' ⟨rfl, rfl⟩
  rw [HF.out]
  go_wp2_with fail
  refine (few_any B c2 us w1 (HR2.out.below B1.out) HL2.out).mono ?_
  rintro e w' ⟨rfl, rfl⟩
  rw [HF2.out]
  go_wp2
  go_ret
  exact ⟨rfl, B1.out⟩

set_option maxRecDepth 100000 in
set_option maxHeartbeats 1000000 in
theorem walkMac_in (key : ByteArray) (A B : Option Addr) (c c2 : Nat) (ss us : List ByteArray) (w : World) (hg : Glob w) (ht : w.rangeAt 0 0 (wc K)) (hk : key.size ≤ 400) (hr : Rd w A (ss.map Value.string)) (h12 : ss.length ≤ 12) (hss : ∀ s ∈ ss, s.size ≤ 400) (hr2 : Rd w B (us.map Value.string)) (h122 : us.length ≤ 12) (hus : ∀ s ∈ us, s.size ≤ 400) :
    Calls Tryd.prog 8 #[.string key, .slice A ss.length c, .slice B us.length c2] w fun e w' => e = .returned (.bool true) ∧ Below w.heap.size w w' := by
  have HG := Lib.hid hg
  have HT := Lib.hid ht
  have HK := Lib.hid hk
  have HKM := Lib.hid (show key.size ≤ 1000000 by omega)
  have HR := Lib.hid hr
  have HSS := Lib.hid hss
  have H12 := Lib.hid h12
  have HFY := Lib.hid (fewB_mk h12 hss)
  have HZ := Lib.hid (show ∀ s ∈ ss, s.size ≤ 1000000 from fun s hs => by have := hss s hs; omega)
  have HE := Lib.hid (show (encP ss).length ≤ 5000 by have := encP_len ss hss; omega)
  have HR2 := Lib.hid hr2
  have HUS := Lib.hid hus
  have HU12 := Lib.hid h122
  have HFU := Lib.hid (fewB_mk h122 hus)
  have HZ2 := Lib.hid (show ∀ s ∈ us, s.size ≤ 1000000 from fun s hs => by have := hus s hs; omega)
  have HE2 := Lib.hid (show (encP us).length ≤ 5000 by have := encP_len us hus; omega)
  have d1 : decide ((400 : Int) < (key.size : Int)) = false := by simp; omega
  obtain ⟨h1, hh1⟩ : ∃ h, Hm.hmac key.data.toList (encP ss) = h := ⟨_, rfl⟩
  obtain ⟨h2, hh2⟩ : ∃ h, Hm.hmac key.data.toList (encP us) = h := ⟨_, rfl⟩
  have HH1 := Lib.hid hh1
  have HH2 := Lib.hid hh2
  have L1 := Lib.hid (show h1.length = 32 by rw [← hh1, hmac_len])
  have L2 := Lib.hid (show h2.length = 32 by rw [← hh2, hmac_len])
  obtain ⟨x1, hx1⟩ : ∃ x, h1.take 16 = x := ⟨_, rfl⟩
  obtain ⟨x2, hx2⟩ : ∃ x, h2.take 16 = x := ⟨_, rfl⟩
  have HX1 := Lib.hid hx1
  have HX2 := Lib.hid hx2
  have M1 := Lib.hid (show x1.length = 16 by rw [← hx1, List.length_take, L1.out]; rfl)
  have M2 := Lib.hid (show x2.length = 16 by rw [← hx2, List.length_take, L2.out]; rfl)
  clear hg ht hr hss hr2 hus hh1 hh2 hx1 hx2 hk h12 h122
  go_enter Tryd.func8, Tryd.ntmps8
  go_wp2_with fail
  refine (hsanity_any _ HG.out).mono ?_
  rintro e w1 ⟨rfl, hb1⟩
  have G1 := Lib.hid (HG.out.next hb1)
  have B1 := Lib.hid hb1
  clear hb1
  go_wp2_with fail
  refine (few_any A c ss w1 (HR.out.below B1.out) (by unfold maxLen; have := H12.out; omega)).mono ?_
  rintro e w' ⟨rfl, rfl⟩
  rw [HFY.out]
  go_wp2_with fail
  refine (few_any B c2 us w1 (HR2.out.below B1.out) (by unfold maxLen; have := HU12.out; omega)).mono ?_
  rintro e w' ⟨rfl, rfl⟩
  rw [HFU.out]
  go_wp2_with fail
  refine (mac_any key A c ss w1 G1.out HKM.out (HR.out.below B1.out) HZ.out (by have := H12.out; omega) (by have := HE.out; omega)).mono ?_
  rintro e w2 ⟨rfl, hb2⟩
  rw [HH1.out, HX1.out]
  have B2 := Lib.hid (B1.out.trans (hb2.mono B1.out.size))
  clear hb2 G1 B1
  go_wp2_with (refine wpList_var rfl rfl 43 8 rfl rfl rfl (.tmp 30) rfl (zb 16) (bc x1) dg_zero rfl rfl (by rw [bc_len, zb_len, M1.out]) (by rw [dg_size, bc_len, M1.out]) (bc_one _) ?_; intro w3 K3 D3; have B3 := Lib.hid (B2.out.trans (D3.out.mono B2.out.size)); clear B2 D3)
  obtain ⟨a1, ha1⟩ : ∃ a, w2.heap.size = a := ⟨_, rfl⟩
  rw [ha1] at K3 ⊢
  clear ha1
  refine (mac_any key B c2 us w3 (HG.out.next B3.out) HKM.out (HR2.out.below B3.out) HZ2.out (by have := HU12.out; omega) (by have := HE2.out; omega)).mono ?_
  rintro e w4 ⟨rfl, hb4⟩
  rw [HH2.out, HX2.out]
  have B4 := Lib.hid (B3.out.trans (hb4.mono B3.out.size))
  have K4 := Lib.hid (K3.out.next hb4)
  clear hb4 B3 K3
  go_wp2_with (refine wpList_var rfl rfl 43 9 rfl rfl rfl (.tmp 33) rfl (zb 16) (bc x2) dg_zero rfl rfl (by rw [bc_len, zb_len, M2.out]) (by rw [dg_size, bc_len, M2.out]) (bc_one _) ?_; intro w5 J5 D5; have B5 := Lib.hid (B4.out.trans (D5.out.mono B4.out.size)); have K5 := Lib.hid (K4.out.next D5.out); clear B4 K4 D5)
  obtain ⟨a2, ha2⟩ : ∃ a, w4.heap.size = a := ⟨_, rfl⟩
  rw [ha2] at J5 ⊢
  clear ha2
  refine (message_any A c ss w5 (HR.out.below B5.out) H12.out HSS.out).mono ?_
  rintro e w6 ⟨rfl, hb6⟩
  have B6 := Lib.hid (B5.out.trans (hb6.mono B5.out.size))
  have K6 := Lib.hid (K5.out.next hb6)
  have J6 := Lib.hid (J5.out.next hb6)
  clear hb6 B5 K5 J5
  go_wp2_with fail
  refine (hmac_any key (sb (encP ss)) w6 (HG.out.next B6.out) HKM.out (by rw [sb_size]; have := HE.out; omega)).mono ?_
  rintro e w7 ⟨rfl, hb7⟩
  rw [sb_list, HH1.out]
  have B7 := Lib.hid (B6.out.trans (hb7.mono B6.out.size))
  have K7 := Lib.hid (K6.out.next hb7)
  have J7 := Lib.hid (J6.out.next hb7)
  clear hb7 B6 K6 J6
  go_wp2_with (refine wpList_var rfl rfl 24 10 rfl rfl rfl (.tmp 37) rfl (zb 32) (bc h1) a32_zero rfl rfl (by rw [bc_len, zb_len, L1.out]) (by rw [a32_size, bc_len, L1.out]) (bc_one _) ?_; intro w8 P8 D8; have B8 := Lib.hid (B7.out.trans (D8.out.mono B7.out.size)); have K8 := Lib.hid (K7.out.next D8.out); have J8 := Lib.hid (J7.out.next D8.out); clear B7 K7 J7 D8)
  obtain ⟨a3, ha3⟩ : ∃ a, w7.heap.size = a := ⟨_, rfl⟩
  rw [ha3] at P8 ⊢
  clear ha3
  refine (message_any B c2 us w8 (HR2.out.below B8.out) HU12.out HUS.out).mono ?_
  rintro e w9 ⟨rfl, hb9⟩
  have B9 := Lib.hid (B8.out.trans (hb9.mono B8.out.size))
  have K9 := Lib.hid (K8.out.next hb9)
  have J9 := Lib.hid (J8.out.next hb9)
  have P9 := Lib.hid (P8.out.next hb9)
  clear hb9 B8 K8 J8 P8
  go_wp2_with fail
  refine (hmac_any key (sb (encP us)) w9 (HG.out.next B9.out) HKM.out (by rw [sb_size]; have := HE2.out; omega)).mono ?_
  rintro e w10 ⟨rfl, hb10⟩
  rw [sb_list, HH2.out]
  have B10 := Lib.hid (B9.out.trans (hb10.mono B9.out.size))
  have K10 := Lib.hid (K9.out.next hb10)
  have J10 := Lib.hid (J9.out.next hb10)
  have P10 := Lib.hid (P9.out.next hb10)
  clear hb10 B9 K9 J9 P9
  go_wp2_with (refine wpList_var rfl rfl 24 11 rfl rfl rfl (.tmp 41) rfl (zb 32) (bc h2) a32_zero rfl rfl (by rw [bc_len, zb_len, L2.out]) (by rw [a32_size, bc_len, L2.out]) (bc_one _) ?_; intro w11 Q11 D11; have B11 := Lib.hid (B10.out.trans (D11.out.mono B10.out.size)); have K11 := Lib.hid (K10.out.next D11.out); have J11 := Lib.hid (J10.out.next D11.out); have P11 := Lib.hid (P10.out.next D11.out); clear B10 K10 J10 P10 D11)
  obtain ⟨a4, ha4⟩ : ∃ a, w10.heap.size = a := ⟨_, rfl⟩
  rw [ha4] at Q11 ⊢
  clear ha4
  have R11 := Lib.hid (HR.out.below B11.out)
  have U11 := Lib.hid (HR2.out.below B11.out)
  refine (rsame_any A B c c2 ss us w11 R11.out U11.out (by have := H12.out; omega)).mono ?_
  rintro e wz ⟨rfl, hbz⟩
  obtain ⟨same, hsame⟩ : ∃ b, decide (ss = us) = b := ⟨_, rfl⟩
  rw [hsame]
  have BZ := Lib.hid (B11.out.trans (hbz.mono B11.out.size))
  have KZ := Lib.hid (K11.out.next hbz)
  have JZ := Lib.hid (J11.out.next hbz)
  have PZ := Lib.hid (P11.out.next hbz)
  have QZ := Lib.hid (Q11.out.next hbz)
  have RZ := Lib.hid (R11.out.below hbz)
  have UZ := Lib.hid (U11.out.below hbz)
  clear hbz B11 K11 J11 P11 Q11 R11 U11
  have HSAME := Lib.hid hsame
  have TZ := Lib.hid (range_below' HT.out BZ.out)
  clear hsame
  go_wp2_with fail
  refine wp_region_held_drew (S := fun W => Below wz.heap.size wz W) (by kernel_rfl) (Below.refl _ _).drew (fun hS => ?_)
  generalize wz.drew = w12 at hS ⊢
  refine reg_takeG (i := 0) (some 45) rfl rfl rfl (by kernel_rfl) (by kernel_rfl) (by kernel_rfl) (.bool true) (fun _ _ _ h => h) (fun W hW => exec_move (.tmp 7) rfl _ rfl) hS ?_
  go_frame
  refine reg_takeG (i := 1) (some 46) rfl rfl rfl (by kernel_rfl) (by kernel_rfl) (by kernel_rfl) (.bool true) (fun _ _ _ h => h) (fun W hW => exec_move (.tmp 45) rfl _ rfl) hS ?_
  go_frame
  refine reg_takeG (i := 2) (some 47) rfl rfl rfl (by kernel_rfl) (by kernel_rfl) (by kernel_rfl) (.agg (bc x1).toArray) (fun _ _ _ h => h) (fun W hW => exec_load16 (.tmp 8) rfl a1 x1 M1.out (KZ.out.next hW) rfl) hS ?_
  go_frame
  refine reg_takeG (i := 3) (some 48) rfl rfl rfl (by kernel_rfl) (by kernel_rfl) (by kernel_rfl) (.string key) (fun _ _ _ h => h) (fun W hW => exec_move (.tmp 0) rfl _ rfl) hS ?_
  go_frame
  refine reg_takeG (i := 4) (some 49) rfl rfl rfl (by kernel_rfl) (by kernel_rfl) (by kernel_rfl) (.slice A ss.length c) (fun _ _ _ h => h) (fun W hW => exec_move (.tmp 1) rfl _ rfl) hS ?_
  go_frame
  refine reg_callG (i := 5) (some 50) rfl rfl rfl (by kernel_rfl) rfl Tryd.func29 (by kernel_rfl) (by kernel_rfl) #[.string key, .slice A ss.length c] rfl (rmac_any key A c ss w12 (RZ.out.below hS) H12.out HSS.out (range_below' TZ.out hS) (by have := HK.out; omega)) ?_
  rintro e w13 ⟨rfl, hb13⟩
  have hS13 := hS.trans (hb13.mono hS.size)
  rw [HH1.out, HX1.out]
  refine ⟨_, rfl, hS13, ?_⟩
  go_frame
  refine reg_valueG (i := 6) (some 51) rfl rfl rfl (by kernel_rfl) (.bool true) (exec_same16 (.tmp 47) (.tmp 50) _ rfl x1 M1.out rfl rfl) hS13 ?_
  go_frame
  refine reg_valueG (i := 7) (some 52) rfl rfl rfl (by kernel_rfl) (.bool true) (exec_pick (.tmp 46) (.tmp 51) (.const (.bool false)) rfl _ rfl rfl) hS13 ?_
  go_frame
  refine reg_valueG (i := 8) (some 53) rfl rfl rfl (by kernel_rfl) (.bool true) (exec_move (.tmp 52) rfl _ rfl) hS13 ?_
  go_frame
  refine reg_takeG (i := 9) (some 54) rfl rfl rfl (by kernel_rfl) (by kernel_rfl) (by kernel_rfl) (.agg (bc x1).toArray) (fun _ _ _ h => h) (fun W hW => exec_load16 (.tmp 8) rfl a1 x1 M1.out (KZ.out.next hW) rfl) hS13 ?_
  go_frame
  refine reg_takeG (i := 10) (some 55) rfl rfl rfl (by kernel_rfl) (by kernel_rfl) (by kernel_rfl) (.agg (bc x2).toArray) (fun _ _ _ h => h) (fun W hW => exec_load16 (.tmp 9) rfl a2 x2 M2.out (JZ.out.next hW) rfl) hS13 ?_
  go_frame
  obtain ⟨same1, hsame1⟩ : ∃ b, decide (x1 = x2) = b := ⟨_, rfl⟩
  have HS1 := Lib.hid hsame1
  clear hsame1
  refine reg_takeG (i := 12) (some 57) rfl rfl rfl (by kernel_rfl) (by kernel_rfl) (by kernel_rfl) (.agg (bc h1).toArray) (fun _ _ _ h => h) (fun W hW => exec_load32 (.tmp 10) rfl a3 h1 L1.out (PZ.out.next hW) rfl) hS13 ?_
  go_frame
  refine reg_takeG (i := 13) (some 58) rfl rfl rfl (by kernel_rfl) (by kernel_rfl) (by kernel_rfl) (.agg (bc h2).toArray) (fun _ _ _ h => h) (fun W hW => exec_load32 (.tmp 11) rfl a4 h2 L2.out (QZ.out.next hW) rfl) hS13 ?_
  go_frame
  refine reg_takeG (i := 11) (some 56) rfl rfl rfl (by kernel_rfl) (by kernel_rfl) (by kernel_rfl) (.bool same1) (fun _ _ _ h => h) (fun W hW => (exec_eql16 (.tmp 54) (.tmp 55) _ rfl x1 x2 M1.out M2.out rfl rfl).trans (by rw [HS1.out])) hS13 ?_
  go_frame
  refine reg_callG (i := 14) (some 59) rfl rfl rfl (by kernel_rfl) rfl Tryd.func24 (by kernel_rfl) (by kernel_rfl) #[.agg (bc h1).toArray, .agg (bc h2).toArray] rfl (clash_any h1 h2 w13 L1.out L2.out) ?_
  rintro e w14 ⟨rfl, hb14⟩
  have hS14 := hS13.trans (hb14.mono hS13.size)
  rw [HX1.out, HX2.out, HS1.out]
  refine ⟨_, rfl, hS14, ?_⟩
  go_frame
  refine reg_valueG (i := 15) (some 60) rfl rfl rfl (by kernel_rfl) (.bool true) (exec_bin .eql 4 _ (.tmp 56) (.tmp 59) rfl _ _ _ rfl rfl rfl (run_eql_bool w14 _)) hS14 ?_
  go_frame
  refine reg_valueG (i := 16) (some 61) rfl rfl rfl (by kernel_rfl) (.bool true) (exec_pick (.tmp 53) (.tmp 60) (.const (.bool false)) rfl _ rfl rfl) hS14 ?_
  go_frame
  refine reg_valueG (i := 17) (some 62) rfl rfl rfl (by kernel_rfl) (.bool true) (exec_move (.tmp 61) rfl _ rfl) hS14 ?_
  go_frame
  refine reg_takeG (i := 18) (some 63) rfl rfl rfl (by kernel_rfl) (by kernel_rfl) (by kernel_rfl) (.slice A ss.length c) (fun _ _ _ h => h) (fun W hW => exec_move (.tmp 1) rfl _ rfl) hS14 ?_
  go_frame
  refine reg_takeG (i := 20) (some 65) rfl rfl rfl (by kernel_rfl) (by kernel_rfl) (by kernel_rfl) (.slice B us.length c2) (fun _ _ _ h => h) (fun W hW => exec_move (.tmp 2) rfl _ rfl) hS14 ?_
  go_frame
  refine reg_takeG (i := 23) (some 68) rfl rfl rfl (by kernel_rfl) (by kernel_rfl) (by kernel_rfl) (.bool same) (fun _ _ _ h => h) (fun W hW => exec_move (.tmp 12) rfl _ rfl) hS14 ?_
  go_frame
  refine reg_callG (i := 19) (some 64) rfl rfl rfl (by kernel_rfl) rfl Tryd.func28 (by kernel_rfl) (by kernel_rfl) #[.slice A ss.length c] rfl (message_any A c ss w14 (RZ.out.below hS14) H12.out HSS.out) ?_
  rintro e w15 ⟨rfl, hb15⟩
  have hS15 := hS14.trans (hb15.mono hS14.size)
  refine ⟨_, rfl, hS15, ?_⟩
  go_frame
  refine reg_callG (i := 21) (some 66) rfl rfl rfl (by kernel_rfl) rfl Tryd.func28 (by kernel_rfl) (by kernel_rfl) #[.slice B us.length c2] rfl (message_any B c2 us w15 (UZ.out.below hS15) HU12.out HUS.out) ?_
  rintro e w16 ⟨rfl, hb16⟩
  have hS16 := hS15.trans (hb16.mono hS15.size)
  refine ⟨_, rfl, hS16, ?_⟩
  go_frame
  have heq : decide (encP ss = encP us) = same := by
    rw [← HSAME.out]
    exact decide_eq_decide.2 ⟨fun h => encP_inj ss us HSS.out HUS.out h, fun h => by rw [h]⟩
  have HEQ := Lib.hid heq
  clear heq
  refine reg_valueG (i := 22) (some 67) rfl rfl rfl (by kernel_rfl) (.bool same) (exec_bin .eql 9 _ (.tmp 64) (.tmp 66) rfl _ _ _ rfl rfl rfl ((run_eql_str w16 _ _).trans (by rw [HEQ.out]))) hS16 ?_
  go_frame
  refine reg_valueG (i := 24) (some 69) rfl rfl rfl (by kernel_rfl) (.bool true) (exec_bin .eql 4 _ (.tmp 67) (.tmp 68) rfl _ _ _ rfl rfl rfl (run_eql_bool w16 _)) hS16 ?_
  go_frame
  refine reg_valueG (i := 25) (some 70) rfl rfl rfl (by kernel_rfl) (.bool true) (exec_pick (.tmp 62) (.tmp 69) (.const (.bool false)) rfl _ rfl rfl) hS16 ?_
  go_frame
  refine reg_valueG (i := 26) (some 6) rfl rfl rfl (by kernel_rfl) (.bool true) (exec_assign (.tmp 70) rfl _ rfl) hS16 ?_
  go_frame
  refine wpAnyH_done (by kernel_rfl) ?_ _
  have F := Lib.hid (BZ.out.trans (hS16.mono BZ.out.size))
  clear hS hS13 hS14 hS15 hS16 hb13 hb14 hb15 hb16
  go_wp2
  go_ret
  exact ⟨rfl, F.out⟩

theorem walkMac (key : ByteArray) (A B : Option Addr) (c c2 : Nat) (ss us : List ByteArray) (w : World) (hg : Glob w) (ht : w.rangeAt 0 0 (wc K)) (hr : Rd w A (ss.map Value.string)) (hl : ss.length ≤ maxLen) (hr2 : Rd w B (us.map Value.string)) (hl2 : us.length ≤ maxLen) :
    Calls Tryd.prog 8 #[.string key, .slice A ss.length c, .slice B us.length c2] w fun e w' => e = .returned (.bool true) ∧ Below w.heap.size w w' := by
  by_cases hk : 400 < key.size
  · exact walkMac_key key A B c c2 ss us w hg hk
  · have hk2 : key.size ≤ 400 := by omega
    cases hf : fewB ss with
    | false => exact walkMac_many key A B c c2 ss us w hg hk2 hr hl hf
    | true =>
      cases hf2 : fewB us with
      | false => exact walkMac_more key A B c c2 ss us w hg hk2 hr hl hf hr2 hl2 hf2
      | true =>
        have h := fewB_yes hf
        have h2 := fewB_yes hf2
        exact walkMac_in key A B c c2 ss us w hg ht hk2 hr h.1 h.2 hr2 h2.1 h2.2
end Go.Proofs.YtoendbdpkkjjkaaDoor
