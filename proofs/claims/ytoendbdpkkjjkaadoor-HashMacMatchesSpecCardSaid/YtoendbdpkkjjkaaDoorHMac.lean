/- Contracts of keyed's sum and of Hmac. -/
import Derived.Test.YtoendbdpkkjjkaaDoorHKeyed
namespace Go.Proofs.YtoendbdpkkjjkaaDoor
open Go.RowKit Hm

theorem run_fieldAt_k1 (W : World) (b : Nat) : (Instr.fieldAt 76 (.pointer (some ⟨b, 0, none⟩)) 1).run Tryd.prog W = .ok (.pointer (some ⟨b, 73, none⟩)) W := by kernel_rfl
theorem run_fieldAt_k0 (W : World) (b : Nat) : (Instr.fieldAt 76 (.pointer (some ⟨b, 0, none⟩)) 0).run Tryd.prog W = .ok (.pointer (some ⟨b, 0, none⟩)) W := by kernel_rfl

set_option maxRecDepth 100000 in
set_option maxHeartbeats 1000000 in
theorem keyedSum_any (ci co cs : List Value) (mo m : List UInt8) (w : World) (hci : ci.length = 73) (ho : Sm co mo) (h : Sm cs m) (hg : Glob w) (hlo : mo.length ≤ 100000) (hl : m.length ≤ 1000000000000) :
    Calls Tryd.prog 47 #[.agg (ci ++ co).toArray, .agg cs.toArray] w fun e w' => e = .returned (.agg (bc (Hm.sum (mo ++ Hm.sum m))).toArray) ∧ Below w.heap.size w w' := by
  have hg2 := hg.two
  have hb0 := ((Blk.new w 76 (ci ++ co)).alloc (.cells cs.toArray 36)).alloc (.cells (zb 32).toArray 24)
  have hb1 := (Blk.new (w.alloc (.cells (ci ++ co).toArray 76)) 36 cs).alloc (.cells (zb 32).toArray 24)
  have hb2 := Blk.new ((w.alloc (.cells (ci ++ co).toArray 76)).alloc (.cells cs.toArray 36)) 24 (zb 32)
  rw [size_alloc] at hb1
  rw [size_alloc, size_alloc] at hb2
  have hb := (((Below.refl w.heap.size w).alloc (Nat.le_refl _) (.cells (ci ++ co).toArray 76)).alloc (by simp) (.cells cs.toArray 36)).alloc (by simp; omega) (.cells (zb 32).toArray 24)
  have HB0 := Lib.hid hb0
  have HB1 := Lib.hid hb1
  have HB2 := Lib.hid hb2
  have HG := Lib.hid (hg.next hb)
  have HBW := Lib.hid hb
  have HS := Lib.hid h
  have HO := Lib.hid ho
  have HCI := Lib.hid hci
  have HLO := Lib.hid hlo
  have HLM := Lib.hid hl
  clear hb hg h ho hb0 hb1 hb2 hci hlo hl
  go_enter Tryd.func47, Tryd.ntmps47
  go_wp2_with (first | (refine wpList_alloc_zero rfl 24 rfl (zb 32) a32_zero ?_) | (refine wpList_load_all rfl _ (.tmp 3) rfl (w.heap.size + 1) _ cs _ rfl HB1.out Tryd.underlying36 rfl HS.out.size_ ?_))
  refine (streamSum_any cs m _ HS.out HG.out HLM.out).mono ?_
  rintro e w2 ⟨rfl, hb2⟩
  have G2 := Lib.hid ((HG.out.next hb2).next ((Below.refl w2.heap.size w2).alloc (Nat.le_refl _) (.cells (zb 32).toArray 24)))
  have K0 := Lib.hid ((HB0.out.next hb2).alloc (.cells (zb 32).toArray 24))
  have K2 := Lib.hid ((HB2.out.next hb2).alloc (.cells (zb 32).toArray 24))
  have N2 := Lib.hid (Blk.new w2 24 (zb 32))
  have hs2 : w.heap.size + 1 + 1 < w2.heap.size := (HB2.out.next hb2).lt
  have B2 := Lib.hid ((HBW.out.trans (hb2.mono HBW.out.size)).alloc (by omega) (.cells (zb 32).toArray 24))
  clear hb2 HB0 HB1 HB2 HG HBW
  obtain ⟨D, hD⟩ : ∃ D, Hm.sum m = D := ⟨_, rfl⟩
  have hDl : D.length = 32 := by rw [← hD, sum_len]
  rw [hD]
  have HDD := Lib.hid hD
  have HDL := Lib.hid hDl
  clear hD hDl
  go_wp2_with (first | (refine wpList_alloc_zero rfl 24 rfl (zb 32) a32_zero ?_) | (refine wpList_store_all rfl _ (.tmp 5) (.tmp 7) rfl w2.heap.size _ (zb 32) (bc D) rfl rfl N2.out (by rw [bc_len, zb_len, HDL.out]) (by rw [a32_size, bc_len, HDL.out]) (bc_one _) ?_; intro w3 HB3 ho3))
  have hS : HeldS w w.heap.size 76 (ci ++ co) w3.drew := ⟨(ho3.blk K0.out (by omega)).drew, (B2.out.trans (ho3.below (by omega))).drew, (G2.out.only ho3 (by omega)).drew⟩
  have hK := (ho3.blk K2.out (by omega)).drew
  have hD3 := HB3.out.drew
  refine wp_region_held_drew (S := HeldS w w.heap.size 76 (ci ++ co)) (by kernel_rfl) hS (fun hS => ?_)
  have hlo : ∀ W : World, HeldS w w.heap.size 76 (ci ++ co) W → (Instr.loadAt 36 (.pointer (some ⟨w.heap.size, 73, none⟩))).run Tryd.prog W = .ok (.agg co.toArray) W := fun W hW => run_loadAt_mid W w.heap.size 73 _ co _ (by have := hW.1.range 73 co.length; rwa [show ((ci ++ co).drop 73).take co.length = co from by rw [List.drop_append_of_le_length (by rw [HCI.out]; omega), List.drop_eq_nil_of_le (by rw [HCI.out]; omega), List.nil_append, List.take_length]] at this) Tryd.underlying36 rfl HO.out.size_
  generalize w3.drew = w4 at hS hK hD3 ⊢
  refine reg_take (i := 0) (some 8) rfl rfl rfl (by kernel_rfl) (by kernel_rfl) (by kernel_rfl) (.pointer (some ⟨w.heap.size, 73, none⟩)) (fun _ _ _ h => h) (fun W _ => exec_fieldAddr 76 (.tmp 2) 1 rfl _ _ rfl (run_fieldAt_k1 W w.heap.size)) hS ?_
  go_frame
  refine reg_take (i := 1) (some 9) rfl rfl rfl (by kernel_rfl) (by kernel_rfl) (by kernel_rfl) (.agg co.toArray) (fun _ _ _ h => h) (fun W hW => exec_load 36 (.tmp 8) rfl _ _ rfl (hlo W hW)) hS ?_
  go_frame
  refine reg_take (i := 2) (some 10) rfl rfl rfl (by kernel_rfl) (by kernel_rfl) (by kernel_rfl) (.slice (some ⟨w2.heap.size, 0, none⟩) 32 32) (fun _ _ _ h => h) (fun W _ => exec_slice_all 24 (.tmp 5) rfl _ _ rfl (run_slice_all 24 32 a32_under W w2.heap.size)) hS ?_
  go_frame
  have hadd := addB co mo (some ⟨w2.heap.size, 0, none⟩) 32 D w4 HO.out hS.2.2 (blk_rd hD3) (by rw [HDL.out]; exact Nat.le_refl _) (by have := HLO.out; rw [HDL.out]; omega)
  rw [HDL.out] at hadd
  refine reg_call (i := 3) (some 11) rfl rfl rfl (by kernel_rfl) rfl Tryd.func35 (by kernel_rfl) (by kernel_rfl) #[.agg co.toArray, .slice (some ⟨w2.heap.size, 0, none⟩) 32 32] rfl hadd ?_
  rintro e w5 ⟨c5, hc5, rfl, hb5⟩
  have hS5 := hS.next hb5
  refine ⟨_, rfl, hS5, ?_⟩
  go_frame
  refine reg_call (i := 4) (some 12) rfl rfl rfl (by kernel_rfl) rfl Tryd.func19 (by kernel_rfl) (by kernel_rfl) #[.agg c5.toArray] rfl (streamSum_any c5 _ w5 hc5 hS5.2.2 (by have := HLO.out; rw [List.length_append, HDL.out]; omega)) ?_
  rintro e w6 ⟨rfl, hb6⟩
  have hS6 := hS5.next hb6
  refine ⟨_, rfl, hS6, ?_⟩
  go_frame
  have hK6 := (hK.next hb5).next hb6
  refine reg_store_all (i := 5) rfl rfl rfl (by kernel_rfl) 24 (.tmp 4) (.tmp 12) rfl (w.heap.size + 1 + 1) _ (zb 32) (bc (Hm.sum (mo ++ D))) rfl rfl hK6 (by rw [bc_len, zb_len, sum_len]) (by rw [a32_size, bc_len, sum_len]) (bc_one _) ?_
  intro w7 hb7 ho7
  have hS7 := hS6.only ho7 hg2 (by omega) (by omega)
  refine ⟨hS7, wpAnyH_done (by kernel_rfl) ?_ _⟩
  have F := Lib.hid hb7
  have FB := Lib.hid hS7.2.1
  clear hS hS5 hS6 hS7 hK hK6 hb5 hb6 hb7 ho7 hlo hadd ho3 HB3 hD3 hc5
  go_frame
  go_wp2
  exact bodyPost_ret (results_blk rfl _ _ (w.heap.size + 1 + 1) _ (bc (Hm.sum (mo ++ D))) _ rfl F.out a32_under rfl (by rw [a32_size, bc_len, sum_len])) rfl ⟨by rw [HDD.out], FB.out⟩

theorem hmac_def (key msg : List UInt8) : Hm.sum (xored (keyBlock key) 0x5c ++ Hm.sum (xored (keyBlock key) 0x36 ++ msg)) = Hm.hmac key msg := rfl
theorem load_kd {w W : World} {g : Nat} {ci co : List Value} (h : HeldS w g 76 (ci ++ co) W) (hi : ci.length = 73) (ho : co.length = 73) : (Instr.loadAt 76 (.pointer (some ⟨g, 0, none⟩))).run Tryd.prog W = .ok (.agg (ci ++ co).toArray) W :=
  run_loadAt_mid W g 0 _ (ci ++ co) _ (by have := h.1.range 0 (ci ++ co).length; rwa [List.drop_zero, List.take_length] at this) Tryd.underlying76 rfl (by rw [kd_size, List.length_append, hi, ho])
theorem load_ki {w W : World} {g : Nat} {ci co : List Value} (h : HeldS w g 76 (ci ++ co) W) (hi : ci.length = 73) : (Instr.loadAt 36 (.pointer (some ⟨g, 0, none⟩))).run Tryd.prog W = .ok (.agg ci.toArray) W :=
  run_loadAt_mid W g 0 _ ci _ (by have := h.1.range 0 ci.length; rwa [List.drop_zero, List.take_append_of_le_length (Nat.le_refl _), List.take_length] at this) Tryd.underlying36 rfl (by rw [sm_size, hi])
theorem kd_one {ci co : List Value} {a b : List UInt8} (hi : Sm ci a) (ho : Sm co b) : ∀ u ∈ ci ++ co, u.oneCell' = true := fun u hu => (List.mem_append.1 hu).elim (hi.one u) (ho.one u)
theorem kd_len {ci co : List Value} {a b : List UInt8} (hi : Sm ci a) (ho : Sm co b) : (ci ++ co).length = 146 := by rw [List.length_append, hi.len, ho.len]

set_option maxRecDepth 100000 in
set_option maxHeartbeats 1000000 in
theorem hmac_any (key msg : ByteArray) (w : World) (hg : Glob w) (hk : key.size ≤ 1000000) (hm : msg.size ≤ 1000000) :
    Calls Tryd.prog 25 #[.string key, .string msg] w fun e w' => e = .returned (.agg (bc (Hm.hmac key.data.toList msg.data.toList)).toArray) ∧ Below w.heap.size w w' := by
  have hg2 := hg.two
  have hb := (Below.refl w.heap.size w).alloc (Nat.le_refl _) (.cells (zb 32).toArray 24)
  have HB := Lib.hid (Blk.new w 24 (zb 32))
  have HG := Lib.hid (hg.next hb)
  have HBW := Lib.hid hb
  have HKS := Lib.hid hk
  have HMS := Lib.hid hm
  have HML : Hid (msg.data.toList.length = msg.size) := (Array.length_toList : msg.data.toList.length = msg.size)
  clear hb hg hk hm
  go_enter Tryd.func25, Tryd.ntmps25
  go_wp2_with (first | (refine wpList_alloc_zero rfl 24 rfl (zb 32) a32_zero ?_))
  refine (keyedBy_any key _ HG.out HKS.out).mono ?_
  rintro e w2 ⟨ci, co, hci, hco, rfl, hb2⟩
  have G2 := Lib.hid ((HG.out.next hb2).next ((Below.refl w2.heap.size w2).alloc (Nat.le_refl _) (.cells (zs ++ zs).toArray 76)))
  have K2 := Lib.hid ((HB.out.next hb2).alloc (.cells (zs ++ zs).toArray 76))
  have B2 := Lib.hid ((HBW.out.trans (hb2.mono HBW.out.size)).alloc (by have := HBW.out.size; have := hb2.size; omega) (.cells (zs ++ zs).toArray 76))
  have N2 := Lib.hid (Blk.new w2 76 (zs ++ zs))
  have hs2 : w.heap.size < w2.heap.size := (HB.out.next hb2).lt
  have HCI := Lib.hid hci
  have HCO := Lib.hid hco
  clear hb2 HB HG HBW hci hco
  go_wp2_with (first | (refine wpList_alloc_zero rfl 76 rfl (zs ++ zs) kd_zero ?_) | (refine wpList_store_all rfl _ (.tmp 5) (.tmp 7) rfl w2.heap.size _ (zs ++ zs) (ci ++ co) rfl rfl N2.out (by rw [kd_len HCI.out HCO.out, List.length_append, zs_len]) (by rw [kd_size, kd_len HCI.out HCO.out]) (kd_one HCI.out HCO.out) ?_; intro w3 HB3 ho3))
  have hS : HeldS w w2.heap.size 76 (ci ++ co) w3.drew := ⟨HB3.out.drew, (B2.out.trans (ho3.below (by omega))).drew, (G2.out.only ho3 (by omega)).drew⟩
  have hK := (ho3.blk K2.out (by omega)).drew
  refine wp_region_held_drew (S := HeldS w w2.heap.size 76 (ci ++ co)) (by kernel_rfl) hS (fun hS => ?_)
  generalize w3.drew = w4 at hS hK ⊢
  refine reg_take (i := 0) (some 8) rfl rfl rfl (by kernel_rfl) (by kernel_rfl) (by kernel_rfl) (.agg (ci ++ co).toArray) (fun _ _ _ h => h) (fun W hW => exec_load 76 (.tmp 5) rfl _ _ rfl (load_kd hW HCI.out.len HCO.out.len)) hS ?_
  go_frame
  refine reg_take (i := 1) (some 9) rfl rfl rfl (by kernel_rfl) (by kernel_rfl) (by kernel_rfl) (.pointer (some ⟨w2.heap.size, 0, none⟩)) (fun _ _ _ h => h) (fun W _ => exec_fieldAddr 76 (.tmp 5) 0 rfl _ _ rfl (run_fieldAt_k0 W w2.heap.size)) hS ?_
  go_frame
  refine reg_take (i := 2) (some 10) rfl rfl rfl (by kernel_rfl) (by kernel_rfl) (by kernel_rfl) (.agg ci.toArray) (fun _ _ _ h => h) (fun W hW => exec_load 36 (.tmp 9) rfl _ _ rfl (load_ki hW HCI.out.len)) hS ?_
  go_frame
  refine reg_take (i := 3) (some 11) rfl rfl rfl (by kernel_rfl) (by kernel_rfl) (by kernel_rfl) (.string msg) (fun _ _ _ h => h) (fun W _ => exec_move (.tmp 1) rfl _ rfl) hS ?_
  go_frame
  refine reg_call (i := 4) (some 12) rfl rfl rfl (by kernel_rfl) rfl Tryd.func17 (by kernel_rfl) (by kernel_rfl) #[.agg ci.toArray, .string msg] rfl (streamAdd_any ci _ msg w4 HCI.out hS.2.2 (by have := HMS.out; rw [xored_len, keyBlock_len]; omega)) ?_
  rintro e w5 ⟨c5, hc5, rfl, hb5⟩
  have hS5 := hS.next hb5
  refine ⟨_, rfl, hS5, ?_⟩
  go_frame
  refine reg_call (i := 5) (some 13) rfl rfl rfl (by kernel_rfl) rfl Tryd.func47 (by kernel_rfl) (by kernel_rfl) #[.agg (ci ++ co).toArray, .agg c5.toArray] rfl (keyedSum_any ci co c5 _ _ w5 HCI.out.len HCO.out hc5 hS5.2.2 (by rw [xored_len, keyBlock_len]; omega) (by have := HMS.out; rw [List.length_append, HML.out, xored_len, keyBlock_len]; omega)) ?_
  rintro e w6 ⟨rfl, hb6⟩
  rw [hmac_def]
  have hS6 := hS5.next hb6
  refine ⟨_, rfl, hS6, ?_⟩
  go_frame
  have hK6 := (hK.next hb5).next hb6
  refine reg_store_all (i := 6) rfl rfl rfl (by kernel_rfl) 24 (.tmp 4) (.tmp 13) rfl w.heap.size _ (zb 32) (bc (Hm.hmac key.data.toList msg.data.toList)) rfl rfl hK6 (by rw [bc_len, zb_len, hmac_len]) (by rw [a32_size, bc_len, hmac_len]) (bc_one _) ?_
  intro w7 hb7 ho7
  have hS7 := hS6.only ho7 hg2 (Nat.le_refl _) (by omega)
  refine ⟨hS7, wpAnyH_done (by kernel_rfl) ?_ _⟩
  have F := Lib.hid hb7
  have FB := Lib.hid hS7.2.1
  clear hS hS5 hS6 hS7 hK hK6 hb5 hb6 hb7 ho7 ho3 HB3 hc5
  go_frame
  go_wp2
  exact bodyPost_ret (results_blk rfl _ _ w.heap.size _ (bc (Hm.hmac key.data.toList msg.data.toList)) _ rfl F.out a32_under rfl (by rw [a32_size, bc_len, hmac_len])) rfl ⟨rfl, FB.out⟩

set_option maxRecDepth 100000 in
set_option maxHeartbeats 1000000 in
theorem mac_any (key : ByteArray) (A : Option Addr) (c : Nat) (ss : List ByteArray) (w : World) (hg : Glob w) (hk : key.size ≤ 1000000) (hr : Rd w A (ss.map Value.string)) (hz : ∀ s ∈ ss, s.size ≤ 1000000) (hl : ss.length ≤ 1000000) (hlen : (encP ss).length ≤ 100000000) :
    Calls Tryd.prog 27 #[.string key, .slice A ss.length c] w fun e w' => e = .returned (.agg (bc ((Hm.hmac key.data.toList (encP ss)).take 16)).toArray) ∧ Below w.heap.size w w' := by
  have hg2 := hg.two
  have hb := (Below.refl w.heap.size w).alloc (Nat.le_refl _) (.cells (zb 16).toArray 43)
  have HB := Lib.hid (Blk.new w 43 (zb 16))
  have HG := Lib.hid (hg.next hb)
  have HBW := Lib.hid hb
  have HKS := Lib.hid hk
  have HR := Lib.hid hr
  have HZ := Lib.hid hz
  have HSL := Lib.hid hl
  have HLEN := Lib.hid hlen
  clear hb hg hk hr hz hl hlen
  go_enter Tryd.func27, Tryd.ntmps27
  go_wp2_with (first | (refine wpList_alloc_zero rfl 43 rfl (zb 16) dg_zero ?_))
  refine (keyedBy_any key _ HG.out HKS.out).mono ?_
  rintro e w2 ⟨ci, co, hci, hco, rfl, hb2⟩
  have G2 := Lib.hid ((HG.out.next hb2).next ((Below.refl w2.heap.size w2).alloc (Nat.le_refl _) (.cells (zs ++ zs).toArray 76)))
  have K2 := Lib.hid ((HB.out.next hb2).alloc (.cells (zs ++ zs).toArray 76))
  have B2 := Lib.hid ((HBW.out.trans (hb2.mono HBW.out.size)).alloc (by have := HBW.out.size; have := hb2.size; omega) (.cells (zs ++ zs).toArray 76))
  have N2 := Lib.hid (Blk.new w2 76 (zs ++ zs))
  have hs2 : w.heap.size < w2.heap.size := (HB.out.next hb2).lt
  have HCI := Lib.hid hci
  have HCO := Lib.hid hco
  clear hb2 HB HG HBW hci hco
  go_wp2_with (first | (refine wpList_alloc_zero rfl 76 rfl (zs ++ zs) kd_zero ?_) | (refine wpList_store_all rfl _ (.tmp 5) (.tmp 7) rfl w2.heap.size _ (zs ++ zs) (ci ++ co) rfl rfl N2.out (by rw [kd_len HCI.out HCO.out, List.length_append, zs_len]) (by rw [kd_size, kd_len HCI.out HCO.out]) (kd_one HCI.out HCO.out) ?_; intro w3 HB3 ho3))
  have hS : HeldS w w2.heap.size 76 (ci ++ co) w3.drew := ⟨HB3.out.drew, (B2.out.trans (ho3.below (by omega))).drew, (G2.out.only ho3 (by omega)).drew⟩
  have hK := (ho3.blk K2.out (by omega)).drew
  refine wp_region_held_drew (S := HeldS w w2.heap.size 76 (ci ++ co)) (by kernel_rfl) hS (fun hS => ?_)
  generalize w3.drew = w4 at hS hK ⊢
  refine reg_take (i := 0) (some 8) rfl rfl rfl (by kernel_rfl) (by kernel_rfl) (by kernel_rfl) (.agg (ci ++ co).toArray) (fun _ _ _ h => h) (fun W hW => exec_load 76 (.tmp 5) rfl _ _ rfl (load_kd hW HCI.out.len HCO.out.len)) hS ?_
  go_frame
  refine reg_take (i := 1) (some 9) rfl rfl rfl (by kernel_rfl) (by kernel_rfl) (by kernel_rfl) (.pointer (some ⟨w2.heap.size, 0, none⟩)) (fun _ _ _ h => h) (fun W _ => exec_fieldAddr 76 (.tmp 5) 0 rfl _ _ rfl (run_fieldAt_k0 W w2.heap.size)) hS ?_
  go_frame
  refine reg_take (i := 2) (some 10) rfl rfl rfl (by kernel_rfl) (by kernel_rfl) (by kernel_rfl) (.agg ci.toArray) (fun _ _ _ h => h) (fun W hW => exec_load 36 (.tmp 9) rfl _ _ rfl (load_ki hW HCI.out.len)) hS ?_
  go_frame
  refine reg_take (i := 3) (some 11) rfl rfl rfl (by kernel_rfl) (by kernel_rfl) (by kernel_rfl) (.slice A ss.length c) (fun _ _ _ h => h) (fun W _ => exec_move (.tmp 1) rfl _ rfl) hS ?_
  go_frame
  refine reg_call (i := 4) (some 12) rfl rfl rfl (by kernel_rfl) rfl Tryd.func43 (by kernel_rfl) (by kernel_rfl) #[.agg ci.toArray, .slice A ss.length c] rfl (addParts_any ci _ A c ss w4 HCI.out hS.2.2 (HR.out.below hS.2.1) HZ.out HSL.out (by have := HLEN.out; rw [xored_len, keyBlock_len]; omega)) ?_
  rintro e w5 ⟨c5, hc5, rfl, hb5⟩
  have hS5 := hS.next hb5
  refine ⟨_, rfl, hS5, ?_⟩
  go_frame
  refine reg_call (i := 5) (some 13) rfl rfl rfl (by kernel_rfl) rfl Tryd.func47 (by kernel_rfl) (by kernel_rfl) #[.agg (ci ++ co).toArray, .agg c5.toArray] rfl (keyedSum_any ci co c5 _ _ w5 HCI.out.len HCO.out hc5 hS5.2.2 (by rw [xored_len, keyBlock_len]; omega) (by have := HLEN.out; rw [List.length_append, xored_len, keyBlock_len]; omega)) ?_
  rintro e w6 ⟨rfl, hb6⟩
  rw [hmac_def]
  have hS6 := hS5.next hb6
  refine ⟨_, rfl, hS6, ?_⟩
  go_frame
  refine reg_call (i := 6) (some 14) rfl rfl rfl (by kernel_rfl) rfl Tryd.func42 (by kernel_rfl) (by kernel_rfl) #[.agg (bc (Hm.hmac key.data.toList (encP ss))).toArray] rfl (digest_any _ w6 (hmac_len _ _)) ?_
  rintro e w7 ⟨rfl, hb7⟩
  have hS7 := hS6.next hb7
  refine ⟨_, rfl, hS7, ?_⟩
  go_frame
  have hK7 := ((hK.next hb5).next hb6).next hb7
  obtain ⟨d, hd⟩ : ∃ d, (Hm.hmac key.data.toList (encP ss)).take 16 = d := ⟨_, rfl⟩
  have hdl : d.length = 16 := by rw [← hd, List.length_take, hmac_len]; rfl
  have HDD := Lib.hid hd
  rw [hd]
  have HD := Lib.hid hdl
  clear hd hdl
  refine reg_store_all (i := 7) rfl rfl rfl (by kernel_rfl) 43 (.tmp 4) (.tmp 14) rfl w.heap.size _ (zb 16) (bc d) rfl rfl hK7 (by rw [bc_len, zb_len, HD.out]) (by rw [dg_size, bc_len, HD.out]) (bc_one _) ?_
  intro w8 hb8 ho8
  have hS8 := hS7.only ho8 hg2 (Nat.le_refl _) (by omega)
  refine ⟨hS8, wpAnyH_done (by kernel_rfl) ?_ _⟩
  have F := Lib.hid hb8
  have FB := Lib.hid hS8.2.1
  clear hS hS5 hS6 hS7 hS8 hK hK7 hb5 hb6 hb7 hb8 ho8 ho3 HB3 hc5
  go_frame
  go_wp2
  exact bodyPost_ret (results_blk rfl _ _ w.heap.size _ (bc d) _ rfl F.out dg_under rfl (by rw [dg_size, bc_len, HD.out])) rfl ⟨by rw [HDD.out], FB.out⟩
end Go.Proofs.YtoendbdpkkjjkaaDoor
