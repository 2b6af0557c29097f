/- The reference's Hmac, Short, Of, Mac. -/
import Derived.Test.YtoendbdpkkjjkaaDoorHRHmac
namespace Go.Proofs.YtoendbdpkkjjkaaDoor
open Go.RowKit Hm Wm

theorem dig_fill (h : List UInt8) (k : Nat) (b : UInt8) (hl : h.length = 32) (hk : k < 16) (hb : h[k]? = some b) : (bc (h.take k) ++ zb (16 - k)).set k (.int .u8 b.toNat) = bc (h.take (k + 1)) ++ zb (16 - (k + 1)) := by
  obtain ⟨h1, h2⟩ := List.getElem?_eq_some_iff.1 hb
  have hl2 : (bc (h.take k)).length = k := by rw [bc_len, List.length_take]; omega
  obtain ⟨e, he⟩ : ∃ e, 16 - k = e + 1 := ⟨15 - k, by omega⟩
  rw [List.set_append_right _ _ (by omega), hl2, Nat.sub_self, he, show 16 - (k + 1) = e from by omega, List.take_succ_eq_append_getElem h1, bc_app, h2, List.append_assoc]
  rfl

set_option maxRecDepth 100000 in
set_option maxHeartbeats 1000000 in
theorem rhmac_any (key msg : ByteArray) (w : World) (ht : w.rangeAt 0 0 (wc K)) (hk : key.size ≤ 1000) (hm : msg.size ≤ 10000) :
    Calls Tryd.prog 26 #[.string key, .string msg] w fun e w' => e = .returned (.agg (bc (Hm.hmac key.data.toList msg.data.toList)).toArray) ∧ Below w.heap.size w w' := by
  have hb := (Below.refl w.heap.size w).alloc (Nat.le_refl _) (.cells (zb 32).toArray 24)
  have HB0 := Lib.hid hb
  have HZ0 := Lib.hid (Blk.new w 24 (zb 32))
  have HT := Lib.hid ht
  have HKS := Lib.hid hk
  have HMS := Lib.hid hm
  have HML := Lib.hid (show msg.data.toList.length = msg.size from Array.length_toList)
  clear hb ht hk hm
  go_enter Tryd.func26, Tryd.ntmps26
  go_wp2_with (refine wpList_alloc_zero rfl 24 rfl (zb 32) a32_zero ?_)
  refine (rblock_any key _ HKS.out (range_below' HT.out HB0.out)).mono ?_
  rintro e w1 ⟨A, c, rfl, hr1, hc1, hb1⟩
  obtain ⟨B, hB⟩ : ∃ B, keyBlock key.data.toList = B := ⟨_, rfl⟩
  have hBl : B.length = 64 := by rw [← hB, keyBlock_len]
  rw [hB] at hr1
  have HBB := Lib.hid hB
  have HBL := Lib.hid hBl
  have B1 := Lib.hid (HB0.out.trans (hb1.mono HB0.out.size))
  have Z1 := Lib.hid (HZ0.out.next hb1)
  have R1 := Lib.hid hr1
  clear hr1 hc1 hb1 hB hBl HB0 HZ0
  go_wp2_with fail
  refine (rwith_any A c B 0x36 msg w1 R1.out HBL.out HMS.out).mono ?_
  rintro e w2 ⟨v2, rfl, ho2, hb2⟩
  obtain ⟨I, hI⟩ : ∃ I, xored B 0x36 ++ msg.data.toList = I := ⟨_, rfl⟩
  rw [hI] at ho2
  obtain ⟨A2, c2, rfl, hr2, hc2⟩ := own_out ho2
  have HI := Lib.hid hI
  have HIL := Lib.hid (show I.length ≤ 100000 by rw [← hI, List.length_append, xored_len, HBL.out, HML.out]; have := HMS.out; omega)
  have B2 := Lib.hid (B1.out.trans (hb2.mono B1.out.size))
  have Z2 := Lib.hid (Z1.out.next hb2)
  have R2 := Lib.hid (R1.out.below hb2)
  have RI := Lib.hid hr2
  clear ho2 hr2 hc2 hb2 hI B1 Z1 R1
  go_wp2_with fail
  refine (rsum_any A2 c2 I w2 RI.out HIL.out (range_below' HT.out B2.out)).mono ?_
  rintro e w3 ⟨rfl, hb3⟩
  obtain ⟨s, hs⟩ : ∃ s, Hm.sum I = s := ⟨_, rfl⟩
  have hsl : s.length = 32 := by rw [← hs, sum_len]
  rw [hs]
  have HS := Lib.hid hs
  have HSL := Lib.hid hsl
  have B3 := Lib.hid (B2.out.trans (hb3.mono B2.out.size))
  have Z3 := Lib.hid (Z2.out.next hb3)
  have R3 := Lib.hid (R2.out.below hb3)
  clear hb3 hs hsl B2 Z2 R2 RI
  go_wp2_with (first | (refine wpList_var rfl rfl 24 6 rfl rfl rfl (.tmp 12) rfl (zb 32) (bc s) a32_zero rfl rfl (by rw [bc_len, zb_len, HSL.out]) (by rw [a32_size, bc_len, HSL.out]) (bc_one _) ?_; intro w4 K4 D4; have B4 := Lib.hid (B3.out.trans (D4.out.mono B3.out.size)); have Z4 := Lib.hid (Z3.out.next D4.out); have R4 := Lib.hid (R3.out.below D4.out); clear B3 Z3 R3 D4) | (refine wpList_load_all rfl _ (.tmp 6) rfl w3.heap.size _ (bc s) _ rfl K4.out a32_under rfl (by rw [a32_size, bc_len, HSL.out]) ?_))
  refine (bytes32_any s w4 HSL.out).mono ?_
  rintro e w5 ⟨rfl, hb5⟩
  have B5 := Lib.hid (B4.out.trans (hb5.mono B4.out.size))
  have Z5 := Lib.hid (Z4.out.next hb5)
  have R5 := Lib.hid (R4.out.below hb5)
  clear hb5 B4 Z4 R4 K4
  go_wp2_with fail
  refine (rwith_any A c B 0x5c (sb s) w5 R5.out HBL.out (by rw [sb_size, HSL.out]; omega)).mono ?_
  rintro e w6 ⟨v6, rfl, ho6, hb6⟩
  rw [sb_list] at ho6
  obtain ⟨J, hJ⟩ : ∃ J, xored B 0x5c ++ s = J := ⟨_, rfl⟩
  rw [hJ] at ho6
  obtain ⟨A6, c6, rfl, hr6, hc6⟩ := own_out ho6
  have HJ := Lib.hid hJ
  have HJL := Lib.hid (show J.length ≤ 100000 by rw [← hJ, List.length_append, xored_len, HBL.out, HSL.out]; omega)
  have B6 := Lib.hid (B5.out.trans (hb6.mono B5.out.size))
  have Z6 := Lib.hid (Z5.out.next hb6)
  have RJ := Lib.hid hr6
  clear ho6 hr6 hc6 hb6 hJ B5 Z5 R5
  go_wp2_with fail
  refine (rsum_any A6 c6 J w6 RJ.out HJL.out (range_below' HT.out B6.out)).mono ?_
  rintro e w7 ⟨rfl, hb7⟩
  have he : Hm.sum J = Hm.hmac key.data.toList msg.data.toList := by
    unfold Hm.hmac
    rw [HBB.out, HI.out, HS.out, HJ.out]
  rw [he]
  obtain ⟨h, hh⟩ : ∃ h, Hm.hmac key.data.toList msg.data.toList = h := ⟨_, rfl⟩
  have hl : h.length = 32 := by rw [← hh, hmac_len]
  rw [hh]
  have HL := Lib.hid hl
  have HH := Lib.hid hh
  have B7 := Lib.hid (B6.out.trans (hb7.mono B6.out.size))
  have Z7 := Lib.hid (Z6.out.next hb7)
  clear hb7 he B6 Z6 RJ hl hh
  go_wp2_with (refine wpList_store_all rfl _ (.tmp 4) (.tmp 17) rfl w.heap.size _ (zb 32) (bc h) rfl rfl Z7.out (by rw [bc_len, zb_len, HL.out]) (by rw [a32_size, bc_len, HL.out]) (bc_one _) ?_; intro w8 HB8 ho8)
  exact bodyPost_ret (results_blk rfl _ _ w.heap.size _ (bc h) _ rfl HB8.out a32_under rfl (by rw [a32_size, bc_len, HL.out])) rfl ⟨by rw [HH.out], B7.out.trans (ho8.below (Nat.le_refl _))⟩

set_option maxRecDepth 100000 in
set_option maxHeartbeats 1000000 in
theorem rshort_any (A : Option Addr) (c : Nat) (m : List UInt8) (w : World) (hr : Rd w A (bc m)) (hl : m.length ≤ 100000) (ht : w.rangeAt 0 0 (wc K)) :
    Calls Tryd.prog 44 #[.slice A m.length c] w fun e w' => e = .returned (.agg (bc ((Hm.sum m).take 16)).toArray) ∧ Below w.heap.size w w' := by
  have hb := (Below.refl w.heap.size w).alloc (Nat.le_refl _) (.cells (zb 16).toArray 43)
  have HB0 := Lib.hid hb
  have HZ0 := Lib.hid (Blk.new w 43 (zb 16))
  have HT := Lib.hid (range_below' ht hb)
  have HR := Lib.hid (hr.below hb)
  have HML := Lib.hid hl
  clear hb ht hr hl
  go_enter Tryd.func44, Tryd.ntmps44
  go_wp2_with (refine wpList_alloc_zero rfl 43 rfl (zb 16) dg_zero ?_)
  refine (rsum_any A c m _ HR.out HML.out HT.out).mono ?_
  rintro e w1 ⟨rfl, hb1⟩
  obtain ⟨h, hh⟩ : ∃ h, Hm.sum m = h := ⟨_, rfl⟩
  have hl : h.length = 32 := by rw [← hh, sum_len]
  rw [hh]
  have HH := Lib.hid hh
  have HL := Lib.hid hl
  have B1 := Lib.hid (HB0.out.trans (hb1.mono HB0.out.size))
  have Z1 := Lib.hid (HZ0.out.next hb1)
  have hs1 : w.heap.size < w1.heap.size := Z1.out.lt
  clear hb1 hh hl HB0 HZ0 HR HT
  go_wp2_with (first | (refine wpList_var rfl rfl 24 3 rfl rfl rfl (.tmp 7) rfl (zb 32) (bc h) a32_zero rfl rfl (by rw [bc_len, zb_len, HL.out]) (by rw [a32_size, bc_len, HL.out]) (bc_one _) ?_; intro w2 K2 D2; have B2 := Lib.hid (B1.out.trans (D2.out.mono B1.out.size)); have Z2 := Lib.hid (Z1.out.next D2.out); have hs2 := K2.out.lt; clear B1 Z1 D2) | (refine wpList_var rfl rfl 43 4 rfl rfl rfl (.tmp 8) rfl (zb 16) (zb 16) dg_zero rfl rfl rfl (by rw [dg_size, zb_len]) (by intro v hv; exact bc_one _ v hv) ?_; intro w3 JO D3; have JB := Lib.hid (B2.out.trans (D3.out.mono B2.out.size)); have JR := Lib.hid (Z2.out.next D3.out); have JH := Lib.hid (K2.out.next D3.out); clear B2 Z2 K2 D3))
  obtain ⟨gh, hgh⟩ : ∃ gh, w1.heap.size = gh := ⟨_, rfl⟩
  obtain ⟨go, hgo⟩ : ∃ go, w2.heap.size = go := ⟨_, rfl⟩
  rw [hgh] at JH hs1 hs2 ⊢
  rw [hgo] at JO hs2 ⊢
  clear hgh hgo
  go_loopw [5] (fun i wr => ∃ k : Nat, i = .int .i64 k ∧ k ≤ 16 ∧ Hid (Blk wr go 43 (bc (h.take k) ++ zb (16 - k))) ∧ Hid (Blk wr gh 24 (bc h)) ∧ Hid (Blk wr w.heap.size 43 (zb 16)) ∧ Hid (Below w.heap.size w wr))
    (fun i _ => 16 - (intOf i).toNat)
  case atStart => exact ⟨0, rfl, by omega, JO.out, JH.out, JR.out, JB.out⟩
  case round =>
    clear JO JH JR JB
    obtain ⟨k, rfl, hk, HO, HHB, HR0, HB⟩ := hrel
    by_cases hlt : k < 16
    · have bk : (k : Int) < 16 := by omega
      have bk2 : (k : Int) < 32 := by omega
      obtain ⟨x, hx⟩ : ∃ x, h[k]? = some x := ⟨h[k]'(by rw [HL.out]; omega), List.getElem?_eq_getElem _⟩
      have HFILL := Lib.hid (dig_fill h k x HL.out hlt hx)
      have HX := Lib.hid hx
      clear hx
      have ch : wr.cell? ⟨gh, k, none⟩ = some (.int .u8 x.toNat) := by rw [HHB.out.cell k]; have := HX.out; simp [bc, this]
      have co : wr.cell? ⟨go, k, none⟩ = some (.int .u8 0) := by
        have hl : (bc (h.take k)).length = k := by rw [bc_len, List.length_take, HL.out]; omega
        rw [HO.out.cell k, List.getElem?_append_right (by omega), hl, Nat.sub_self]
        obtain ⟨e, he⟩ : ∃ e, 16 - k = e + 1 := ⟨15 - k, by omega⟩
        rw [he]; rfl
      have cf : wr.frozen? ⟨go, k, none⟩ = false := HO.out.frozen k
      have cs : go < wr.heap.size := HO.out.lt
      go_wp2
      go_roundw
      case rel =>
        have hv := HO.out.set_ k (.int .u8 x.toNat)
        rw [HFILL.out] at hv
        exact ⟨k + 1, by go_num, by omega, hv, HHB.out.far (p := ⟨go, k, none⟩) (by show gh ≠ go; omega) _, HR0.out.far (p := ⟨go, k, none⟩) (by show w.heap.size ≠ go; omega) _, HB.out.setCell (p := ⟨go, k, none⟩) (by show w.heap.size ≤ go; omega) _⟩
      case measure => simp [intOf]; omega
    · obtain rfl : k = 16 := by omega
      have ho := HO.out
      rw [show zb (16 - 16) = [] from rfl, List.append_nil] at ho
      obtain ⟨dg, hdg⟩ : ∃ dg, h.take 16 = dg := ⟨_, rfl⟩
      rw [hdg] at ho
      have hdl : dg.length = 16 := by rw [← hdg, List.length_take, HL.out]; rfl
      have HOF := Lib.hid ho
      have HDL := Lib.hid hdl
      have HDG := Lib.hid hdg
      clear ho HO hdl hdg
      go_wp2_with (first | (refine wpList_load_all rfl _ (.tmp 4) rfl go _ (bc dg) _ rfl HOF.out dg_under rfl (by rw [dg_size, bc_len, HDL.out]) ?_) | (refine wpList_store_all rfl _ (.tmp 2) (.tmp 18) rfl w.heap.size _ (zb 16) (bc dg) rfl rfl HR0.out (by rw [bc_len, zb_len, HDL.out]) (by rw [dg_size, bc_len, HDL.out]) (bc_one _) ?_; intro w3 HB3 ho3))
      exact bodyPost_ret (results_blk rfl _ _ w.heap.size _ (bc dg) _ rfl HB3.out dg_under rfl (by rw [dg_size, bc_len, HDL.out])) rfl ⟨by rw [HH.out, HDG.out], HB.out.trans (ho3.below (Nat.le_refl _))⟩

set_option maxRecDepth 100000 in
set_option maxHeartbeats 1000000 in
theorem rof_any (tag : Int) (A : Option Addr) (c : Nat) (ss : List ByteArray) (w : World) (hr : Rd w A (ss.map Value.string)) (h12 : ss.length ≤ 12) (hs : ∀ s ∈ ss, s.size ≤ 400) (ht : w.rangeAt 0 0 (wc K)) :
    Calls Tryd.prog 21 #[.int .i64 tag, .slice A ss.length c] w fun e w' => e = .returned (.agg (bc ((Hm.sum (tagB tag :: encP ss)).take 16)).toArray) ∧ Below w.heap.size w w' := by
  have hb := (Below.refl w.heap.size w).alloc (Nat.le_refl _) (.cells (zb 16).toArray 43)
  have HB0 := Lib.hid hb
  have HZ0 := Lib.hid (Blk.new w 43 (zb 16))
  have HT := Lib.hid ht
  have HR := Lib.hid (hr.below hb)
  have HSS := Lib.hid hs
  have H12 := Lib.hid h12
  clear hb ht hr hs
  go_enter Tryd.func21, Tryd.ntmps21
  go_wp2_with (refine wpList_alloc_zero rfl 43 rfl (zb 16) dg_zero ?_)
  refine (input_any tag A c ss _ HR.out H12.out HSS.out).mono ?_
  rintro e w1 ⟨v1, rfl, ho1, hb1⟩
  obtain ⟨X, hX⟩ : ∃ X, tagB tag :: encP ss = X := ⟨_, rfl⟩
  rw [hX] at ho1
  obtain ⟨A1, c1, rfl, hr1, _⟩ := own_out ho1
  have HXL := Lib.hid (show X.length ≤ 100000 by rw [← hX, List.length_cons]; have h1 := encP_len ss HSS.out; have h2 := H12.out; omega)
  have B1 := Lib.hid (HB0.out.trans (hb1.mono HB0.out.size))
  have Z1 := Lib.hid (HZ0.out.next hb1)
  have R1 := Lib.hid hr1
  have HX := Lib.hid hX
  clear ho1 hr1 hb1 hX HB0 HZ0 HR
  go_wp2_with fail
  refine (rshort_any A1 c1 X w1 R1.out HXL.out (range_below' HT.out B1.out)).mono ?_
  rintro e w2 ⟨rfl, hb2⟩
  obtain ⟨d, hd⟩ : ∃ d, (Hm.sum X).take 16 = d := ⟨_, rfl⟩
  have hdl : d.length = 16 := by rw [← hd, List.length_take, sum_len]; rfl
  rw [hd]
  have HD := Lib.hid hd
  have HDL := Lib.hid hdl
  have B2 := Lib.hid (B1.out.trans (hb2.mono B1.out.size))
  have Z2 := Lib.hid (Z1.out.next hb2)
  clear hb2 hd hdl B1 Z1 R1
  go_wp2_with (refine wpList_store_all rfl _ (.tmp 4) (.tmp 8) rfl w.heap.size _ (zb 16) (bc d) rfl rfl Z2.out (by rw [bc_len, zb_len, HDL.out]) (by rw [dg_size, bc_len, HDL.out]) (bc_one _) ?_; intro w3 HB3 ho3)
  exact bodyPost_ret (results_blk rfl _ _ w.heap.size _ (bc d) _ rfl HB3.out dg_under rfl (by rw [dg_size, bc_len, HDL.out])) rfl ⟨by rw [HX.out, HD.out], B2.out.trans (ho3.below (Nat.le_refl _))⟩

set_option maxRecDepth 100000 in
set_option maxHeartbeats 1000000 in
theorem rmac_any (key : ByteArray) (A : Option Addr) (c : Nat) (ss : List ByteArray) (w : World) (hr : Rd w A (ss.map Value.string)) (h12 : ss.length ≤ 12) (hs : ∀ s ∈ ss, s.size ≤ 400) (ht : w.rangeAt 0 0 (wc K)) (hk : key.size ≤ 1000) :
    Calls Tryd.prog 29 #[.string key, .slice A ss.length c] w fun e w' => e = .returned (.agg (bc ((Hm.hmac key.data.toList (encP ss)).take 16)).toArray) ∧ Below w.heap.size w w' := by
  have hb := (Below.refl w.heap.size w).alloc (Nat.le_refl _) (.cells (zb 16).toArray 43)
  have HB0 := Lib.hid hb
  have HZ0 := Lib.hid (Blk.new w 43 (zb 16))
  have HT := Lib.hid ht
  have HR := Lib.hid (hr.below hb)
  have HSS := Lib.hid hs
  have H12 := Lib.hid h12
  have HKS := Lib.hid hk
  clear hb ht hr hs hk
  go_enter Tryd.func29, Tryd.ntmps29
  go_wp2_with (refine wpList_alloc_zero rfl 43 rfl (zb 16) dg_zero ?_)
  refine (message_any A c ss _ HR.out H12.out HSS.out).mono ?_
  rintro e w0 ⟨rfl, hb0⟩
  have B0 := Lib.hid (HB0.out.trans (hb0.mono HB0.out.size))
  have Z0 := Lib.hid (HZ0.out.next hb0)
  have HEL := Lib.hid (show (sb (encP ss)).size ≤ 10000 by rw [sb_size]; have h1 := encP_len ss HSS.out; have h2 := H12.out; omega)
  clear hb0 HB0 HZ0 HR
  go_wp2_with fail
  refine (rhmac_any key (sb (encP ss)) w0 (range_below' HT.out B0.out) HKS.out HEL.out).mono ?_
  rintro e w1 ⟨rfl, hb1⟩
  rw [sb_list]
  obtain ⟨h, hh⟩ : ∃ h, Hm.hmac key.data.toList (encP ss) = h := ⟨_, rfl⟩
  have hl : h.length = 32 := by rw [← hh, hmac_len]
  rw [hh]
  have HH := Lib.hid hh
  have HL := Lib.hid hl
  have B1 := Lib.hid (B0.out.trans (hb1.mono B0.out.size))
  have Z1 := Lib.hid (Z0.out.next hb1)
  have hs1 : w.heap.size < w1.heap.size := Z1.out.lt
  clear hb1 hh hl B0 Z0
  go_wp2_with (first | (refine wpList_var rfl rfl 24 5 rfl rfl rfl (.tmp 11) rfl (zb 32) (bc h) a32_zero rfl rfl (by rw [bc_len, zb_len, HL.out]) (by rw [a32_size, bc_len, HL.out]) (bc_one _) ?_; intro w2 K2 D2; have B2 := Lib.hid (B1.out.trans (D2.out.mono B1.out.size)); have Z2 := Lib.hid (Z1.out.next D2.out); have hs2 := K2.out.lt; clear B1 Z1 D2) | (refine wpList_var rfl rfl 43 6 rfl rfl rfl (.tmp 12) rfl (zb 16) (zb 16) dg_zero rfl rfl rfl (by rw [dg_size, zb_len]) (by intro v hv; exact bc_one _ v hv) ?_; intro w3 JO D3; have JB := Lib.hid (B2.out.trans (D3.out.mono B2.out.size)); have JR := Lib.hid (Z2.out.next D3.out); have JH := Lib.hid (K2.out.next D3.out); clear B2 Z2 K2 D3))
  obtain ⟨gh, hgh⟩ : ∃ gh, w1.heap.size = gh := ⟨_, rfl⟩
  obtain ⟨go, hgo⟩ : ∃ go, w2.heap.size = go := ⟨_, rfl⟩
  rw [hgh] at JH hs1 hs2 ⊢
  rw [hgo] at JO hs2 ⊢
  clear hgh hgo
  go_loopw [7] (fun i wr => ∃ k : Nat, i = .int .i64 k ∧ k ≤ 16 ∧ Hid (Blk wr go 43 (bc (h.take k) ++ zb (16 - k))) ∧ Hid (Blk wr gh 24 (bc h)) ∧ Hid (Blk wr w.heap.size 43 (zb 16)) ∧ Hid (Below w.heap.size w wr))
    (fun i _ => 16 - (intOf i).toNat)
  case atStart => exact ⟨0, rfl, by omega, JO.out, JH.out, JR.out, JB.out⟩
  case round =>
    clear JO JH JR JB
    obtain ⟨k, rfl, hk, HO, HHB, HR0, HB⟩ := hrel
    by_cases hlt : k < 16
    · have bk : (k : Int) < 16 := by omega
      have bk2 : (k : Int) < 32 := by omega
      obtain ⟨x, hx⟩ : ∃ x, h[k]? = some x := ⟨h[k]'(by rw [HL.out]; omega), List.getElem?_eq_getElem _⟩
      have HFILL := Lib.hid (dig_fill h k x HL.out hlt hx)
      have HX := Lib.hid hx
      clear hx
      have ch : wr.cell? ⟨gh, k, none⟩ = some (.int .u8 x.toNat) := by rw [HHB.out.cell k]; have := HX.out; simp [bc, this]
      have co : wr.cell? ⟨go, k, none⟩ = some (.int .u8 0) := by
        have hl : (bc (h.take k)).length = k := by rw [bc_len, List.length_take, HL.out]; omega
        rw [HO.out.cell k, List.getElem?_append_right (by omega), hl, Nat.sub_self]
        obtain ⟨e, he⟩ : ∃ e, 16 - k = e + 1 := ⟨15 - k, by omega⟩
        rw [he]; rfl
      have cf : wr.frozen? ⟨go, k, none⟩ = false := HO.out.frozen k
      have cs : go < wr.heap.size := HO.out.lt
      go_wp2
      go_roundw
      case rel =>
        have hv := HO.out.set_ k (.int .u8 x.toNat)
        rw [HFILL.out] at hv
        exact ⟨k + 1, by go_num, by omega, hv, HHB.out.far (p := ⟨go, k, none⟩) (by show gh ≠ go; omega) _, HR0.out.far (p := ⟨go, k, none⟩) (by show w.heap.size ≠ go; omega) _, HB.out.setCell (p := ⟨go, k, none⟩) (by show w.heap.size ≤ go; omega) _⟩
      case measure => simp [intOf]; omega
    · obtain rfl : k = 16 := by omega
      have ho := HO.out
      rw [show zb (16 - 16) = [] from rfl, List.append_nil] at ho
      obtain ⟨dg, hdg⟩ : ∃ dg, h.take 16 = dg := ⟨_, rfl⟩
      rw [hdg] at ho
      have hdl : dg.length = 16 := by rw [← hdg, List.length_take, HL.out]; rfl
      have HOF := Lib.hid ho
      have HDL := Lib.hid hdl
      have HDG := Lib.hid hdg
      clear ho HO hdl hdg
      go_wp2_with (first | (refine wpList_load_all rfl _ (.tmp 6) rfl go _ (bc dg) _ rfl HOF.out dg_under rfl (by rw [dg_size, bc_len, HDL.out]) ?_) | (refine wpList_store_all rfl _ (.tmp 4) (.tmp 22) rfl w.heap.size _ (zb 16) (bc dg) rfl rfl HR0.out (by rw [bc_len, zb_len, HDL.out]) (by rw [dg_size, bc_len, HDL.out]) (bc_one _) ?_; intro w3 HB3 ho3))
      exact bodyPost_ret (results_blk rfl _ _ w.heap.size _ (bc dg) _ rfl HB3.out dg_under rfl (by rw [dg_size, bc_len, HDL.out])) rfl ⟨by rw [HH.out, HDG.out], HB.out.trans (ho3.below (Nat.le_refl _))⟩
end Go.Proofs.YtoendbdpkkjjkaaDoor
