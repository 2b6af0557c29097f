/- The walk of HashKeysOfOneBlock. -/
import Derived.Test.YtoendbdpkkjjkaaDoorHRegG
namespace Go.Proofs.YtoendbdpkkjjkaaDoor
open Go.RowKit Hm Wm

theorem ret_bool {a b : Bool} (h : a = b) : Ending.returned (.bool a) = .returned (.bool b) := by rw [h]
theorem keyBlock_zeros (key : List UInt8) (n : Nat) (h : key.length + n ≤ 64) : keyBlock (key ++ List.replicate n 0) = keyBlock key := by
  unfold keyBlock
  rw [if_pos (by simp; omega), if_pos (by omega), List.length_append, List.length_replicate, List.append_assoc, List.replicate_append_replicate]
  congr 2; omega
theorem hmac_zeros (key msg : List UInt8) (n : Nat) (h : key.length + n ≤ 64) : Hm.hmac (key ++ List.replicate n 0) msg = Hm.hmac key msg := by
  unfold Hm.hmac
  rw [keyBlock_zeros key n h]
theorem hmac_long (key msg : List UInt8) (h : 64 < key.length) : Hm.hmac (Hm.sum key) msg = Hm.hmac key msg := by
  have e : keyBlock (Hm.sum key) = keyBlock key := by
    unfold keyBlock
    rw [if_pos (by rw [sum_len]; omega), if_neg (by omega), sum_len]
  unfold Hm.hmac
  rw [e]

set_option maxRecDepth 100000 in
set_option maxHeartbeats 1000000 in
theorem walkKeys_out (key msg : ByteArray) (z : Int) (w : World) (hg : Glob w) (h : 200 < key.size ∨ 400 < msg.size) :
    Calls Tryd.prog 9 #[.string key, .string msg, .int .u8 z] w fun e w' => e = .returned (.bool true) ∧ Below w.heap.size w w' := by
  have HG := Lib.hid hg
  clear hg
  by_cases hk : 200 < key.size
  · have d1 : decide ((200 : Int) < (key.size : Int)) = true := by simp; omega
    clear h hk
    go_enter Tryd.func9, Tryd.ntmps9
    go_wp2_with fail
    refine (hsanity_any _ HG.out).mono ?_
    rintro e w1 ⟨rfl, hb1⟩
    have HB := Lib.hid hb1
    clear hb1
    go_wp2
    go_ret
    exact ⟨rfl, HB.out⟩
  · have hm : 400 < msg.size := by omega
    have d1 : decide ((200 : Int) < (key.size : Int)) = false := by simp; omega
    have d2 : decide ((400 : Int) < (msg.size : Int)) = true := by simp; omega
    clear h hk hm
    go_enter Tryd.func9, Tryd.ntmps9
    go_wp2_with fail
    refine (hsanity_any _ HG.out).mono ?_
    rintro e w1 ⟨rfl, hb1⟩
    have HB := Lib.hid hb1
    clear hb1
    go_wp2
    go_ret
    exact ⟨rfl, HB.out⟩

set_option maxRecDepth 100000 in
set_option maxHeartbeats 1000000 in
theorem walkKeys_long (key msg : ByteArray) (z : Int) (w : World) (hg : Glob w) (hk : key.size ≤ 200) (hm : msg.size ≤ 400) (h64 : 64 < key.size) :
    Calls Tryd.prog 9 #[.string key, .string msg, .int .u8 z] w fun e w' => e = .returned (.bool true) ∧ Below w.heap.size w w' := by
  have HG := Lib.hid hg
  have d1 : decide ((200 : Int) < (key.size : Int)) = false := by simp; omega
  have d2 : decide ((400 : Int) < (msg.size : Int)) = false := by simp; omega
  have d3 : decide ((64 : Int) < (key.size : Int)) = true := by simp; omega
  have HKS := Lib.hid (show key.size ≤ 1000000 by omega)
  have HMS := Lib.hid (show msg.size ≤ 1000000 by omega)
  have HLK := Lib.hid (show key.data.toList.length = key.size from Array.length_toList)
  have H64 := Lib.hid h64
  clear hg hk hm h64
  go_enter Tryd.func9, Tryd.ntmps9
  go_wp2_with fail
  refine (hsanity_any _ HG.out).mono ?_
  rintro e w1 ⟨rfl, hb1⟩
  have G1 := Lib.hid (HG.out.next hb1)
  have B1 := Lib.hid hb1
  clear hb1 HG
  go_wp2_with fail
  refine (hmac_any key msg _ G1.out HKS.out HMS.out).mono ?_
  rintro e w2 ⟨rfl, hb2⟩
  have G2 := Lib.hid (G1.out.next hb2)
  have B2 := Lib.hid (B1.out.trans (hb2.mono B1.out.size))
  obtain ⟨h, hh⟩ : ∃ h, Hm.hmac key.data.toList msg.data.toList = h := ⟨_, rfl⟩
  have hl : h.length = 32 := by rw [← hh, hmac_len]
  rw [hh]
  have HH := Lib.hid hh
  have HL := Lib.hid hl
  clear hb2 G1 B1 hh hl
  go_wp2_with (first | (refine wpList_var rfl rfl 24 8 rfl rfl rfl (.tmp 23) rfl (zb 32) (bc h) a32_zero rfl rfl (by rw [bc_len, zb_len, HL.out]) (by rw [a32_size, bc_len, HL.out]) (bc_one _) ?_; intro w3 K3 D3; have G3 := Lib.hid (G2.out.next D3.out); have B3 := Lib.hid (B2.out.trans (D3.out.mono B2.out.size)); clear G2 B2 D3) | (refine wpList_bytes rfl (.tmp 27) rfl key rfl ?_; intro A4 c4 w4 hr4 hc4 hb4; have G4 := Lib.hid (G3.out.next hb4); have K4 := Lib.hid (K3.out.next hb4); have B4 := Lib.hid (B3.out.trans (hb4.mono B3.out.size)); have R4 := Lib.hid hr4; have C4 := Lib.hid hc4; clear G3 K3 B3 hr4 hc4 hb4))
  refine (sum_any A4 c4 key.data.toList w4 G4.out R4.out C4.out (by rw [HLK.out]; have := HKS.out; omega)).mono ?_
  rintro e w5 ⟨rfl, hb5⟩
  obtain ⟨s, hs⟩ : ∃ s, Hm.sum key.data.toList = s := ⟨_, rfl⟩
  have hsl : s.length = 32 := by rw [← hs, sum_len]
  rw [hs]
  have HS := Lib.hid hs
  have HSL := Lib.hid hsl
  have G5 := Lib.hid (G4.out.next hb5)
  have K5 := Lib.hid (K4.out.next hb5)
  have B5 := Lib.hid (B4.out.trans (hb5.mono B4.out.size))
  clear G4 K4 B4 hb5 hs hsl R4 C4
  go_wp2_with (refine wpList_var rfl rfl 24 9 rfl rfl rfl (.tmp 29) rfl (zb 32) (bc s) a32_zero rfl rfl (by rw [bc_len, zb_len, HSL.out]) (by rw [a32_size, bc_len, HSL.out]) (bc_one _) ?_; intro w6 J6 D6; have G6 := Lib.hid (G5.out.next D6.out); have K6 := Lib.hid (K5.out.next D6.out); have B6 := Lib.hid (B5.out.trans (D6.out.mono B5.out.size)); clear G5 K5 B5 D6)
  refine wp_region_held_drew (S := fun W => Below w6.heap.size w6 W) (by kernel_rfl) (Below.refl _ _).drew (fun hS => ?_)
  generalize w6.drew = w7 at hS ⊢
  refine reg_takeG (i := 0) (some 30) rfl rfl rfl (by kernel_rfl) (by kernel_rfl) (by kernel_rfl) (.bool true) (fun _ _ _ h => h) (fun W hW => exec_move (.tmp 7) rfl _ rfl) hS ?_
  go_frame
  refine reg_takeG (i := 1) (some 31) rfl rfl rfl (by kernel_rfl) (by kernel_rfl) (by kernel_rfl) (.bool true) (fun _ _ _ h => h) (fun W hW => exec_move (.tmp 30) rfl _ rfl) hS ?_
  go_frame
  refine reg_takeG (i := 2) (some 32) rfl rfl rfl (by kernel_rfl) (by kernel_rfl) (by kernel_rfl) (.agg (bc h).toArray) (fun _ _ _ h => h) (fun W hW => exec_load32 (.tmp 8) rfl w2.heap.size h HL.out (K6.out.next hW) rfl) hS ?_
  go_frame
  refine reg_takeG (i := 3) (some 33) rfl rfl rfl (by kernel_rfl) (by kernel_rfl) (by kernel_rfl) (.agg (bc s).toArray) (fun _ _ _ h => h) (fun W hW => exec_load32 (.tmp 9) rfl w5.heap.size s HSL.out (J6.out.next hW) rfl) hS ?_
  go_frame
  refine reg_takeG (i := 5) (some 35) rfl rfl rfl (by kernel_rfl) (by kernel_rfl) (by kernel_rfl) (.string msg) (fun _ _ _ h => h) (fun W hW => exec_move (.tmp 1) rfl _ rfl) hS ?_
  go_frame
  refine reg_callG (i := 4) (some 34) rfl rfl rfl (by kernel_rfl) rfl Tryd.func30 (by kernel_rfl) (by kernel_rfl) #[.agg (bc s).toArray] rfl (bytes32_any s w7 HSL.out) ?_
  rintro e w8 ⟨rfl, hb8⟩
  have hS8 := hS.trans (hb8.mono hS.size)
  refine ⟨_, rfl, hS8, ?_⟩
  go_frame
  refine reg_callG (i := 6) (some 36) rfl rfl rfl (by kernel_rfl) rfl Tryd.func25 (by kernel_rfl) (by kernel_rfl) #[.string (sb s), .string msg] rfl (hmac_any (sb s) msg w8 (G6.out.next hS8) (by rw [sb_size, HSL.out]; omega) HMS.out) ?_
  rintro e w9 ⟨rfl, hb9⟩
  have hS9 := hS8.trans (hb9.mono hS8.size)
  refine ⟨_, rfl, hS9, ?_⟩
  go_frame
  have he : Hm.hmac (sb s).data.toList msg.data.toList = h := by rw [sb_list, ← HS.out, ← HH.out]; exact hmac_long _ _ (by rw [HLK.out]; exact H64.out)
  rw [he]
  refine reg_valueG (i := 7) (some 37) rfl rfl rfl (by kernel_rfl) (.bool true) (exec_same32 (.tmp 32) (.tmp 36) _ rfl h HL.out rfl rfl) hS9 ?_
  go_frame
  refine reg_valueG (i := 8) (some 38) rfl rfl rfl (by kernel_rfl) (.bool true) (exec_pick (.tmp 31) (.tmp 37) (.const (.bool false)) rfl _ rfl rfl) hS9 ?_
  go_frame
  refine reg_valueG (i := 9) (some 6) rfl rfl rfl (by kernel_rfl) (.bool true) (exec_assign (.tmp 38) rfl _ rfl) hS9 ?_
  go_frame
  refine wpAnyH_done (by kernel_rfl) ?_ _
  have F := Lib.hid (B6.out.trans (hS9.mono B6.out.size))
  clear hS hS8 hS9 hb8 hb9 he
  go_wp2
  go_ret
  exact ⟨rfl, F.out⟩

set_option maxRecDepth 100000 in
set_option maxHeartbeats 1000000 in
theorem walkKeys_short (key msg : ByteArray) (z : Nat) (w : World) (hg : Glob w) (hz : z < 256) (hm : msg.size ≤ 400) (h64 : key.size ≤ 64) :
    Calls Tryd.prog 9 #[.string key, .string msg, .int .u8 z] w fun e w' => e = .returned (.bool true) ∧ Below w.heap.size w w' := by
  have HG := Lib.hid hg
  have d1 : decide ((200 : Int) < (key.size : Int)) = false := by simp; omega
  have d2 : decide ((400 : Int) < (msg.size : Int)) = false := by simp; omega
  have d3 : decide ((64 : Int) < (key.size : Int)) = false := by simp; omega
  have HKS := Lib.hid (show key.size ≤ 1000000 by omega)
  have HMS := Lib.hid (show msg.size ≤ 1000000 by omega)
  have HLK := Lib.hid (show key.data.toList.length = key.size from Array.length_toList)
  obtain ⟨n, hn⟩ : ∃ n : Nat, min z (64 - key.size) = n := ⟨_, rfl⟩
  have hn1 : min (z : Int) (64 - (key.size : Int)) = (n : Int) := by omega
  have hn2 : key.size + n ≤ 64 := by omega
  have HN := Lib.hid hn1
  have H64 := Lib.hid hn2
  have z0 : (0 : Int) ≤ (z : Int) := by omega
  have z1 : (z : Int) ≤ 255 := by omega
  have k0 : (key.size : Int) ≤ 64 := by omega
  clear hg hm h64 hn hn2 hz
  go_enter Tryd.func9, Tryd.ntmps9
  go_wp2_with fail
  refine (hsanity_any _ HG.out).mono ?_
  rintro e w1 ⟨rfl, hb1⟩
  have G1 := Lib.hid (HG.out.next hb1)
  have B1 := Lib.hid hb1
  clear hb1 HG
  go_wp2_with fail
  refine (hmac_any key msg _ G1.out HKS.out HMS.out).mono ?_
  rintro e w2 ⟨rfl, hb2⟩
  have G2 := Lib.hid (G1.out.next hb2)
  have B2 := Lib.hid (B1.out.trans (hb2.mono B1.out.size))
  obtain ⟨h, hh⟩ : ∃ h, Hm.hmac key.data.toList msg.data.toList = h := ⟨_, rfl⟩
  have hl : h.length = 32 := by rw [← hh, hmac_len]
  rw [hh]
  have HH := Lib.hid hh
  have HL := Lib.hid hl
  clear hb2 G1 B1 hh hl
  go_wp2_with (refine wpList_var rfl rfl 24 8 rfl rfl rfl (.tmp 23) rfl (zb 32) (bc h) a32_zero rfl rfl (by rw [bc_len, zb_len, HL.out]) (by rw [a32_size, bc_len, HL.out]) (bc_one _) ?_; intro w6 K6 D6; have G6 := Lib.hid (G2.out.next D6.out); have B6 := Lib.hid (B2.out.trans (D6.out.mono B2.out.size)); clear G2 B2 D6)
  refine wp_region_held_drew (S := fun W => Below w6.heap.size w6 W) (by kernel_rfl) (Below.refl _ _).drew (fun hS => ?_)
  generalize w6.drew = w7 at hS ⊢
  refine reg_takeG (i := 0) (some 45) rfl rfl rfl (by kernel_rfl) (by kernel_rfl) (by kernel_rfl) (.bool true) (fun _ _ _ h => h) (fun W hW => exec_move (.tmp 7) rfl _ rfl) hS ?_
  go_frame
  refine reg_takeG (i := 1) (some 46) rfl rfl rfl (by kernel_rfl) (by kernel_rfl) (by kernel_rfl) (.bool true) (fun _ _ _ h => h) (fun W hW => exec_move (.tmp 45) rfl _ rfl) hS ?_
  go_frame
  refine reg_takeG (i := 2) (some 47) rfl rfl rfl (by kernel_rfl) (by kernel_rfl) (by kernel_rfl) (.agg (bc h).toArray) (fun _ _ _ h => h) (fun W hW => exec_load32 (.tmp 8) rfl w2.heap.size h HL.out (K6.out.next hW) rfl) hS ?_
  go_frame
  refine reg_takeG (i := 3) (some 48) rfl rfl rfl (by kernel_rfl) (by kernel_rfl) (by kernel_rfl) (.string key) (fun _ _ _ h => h) (fun W hW => exec_move (.tmp 0) rfl _ rfl) hS ?_
  go_frame
  refine reg_takeG (i := 4) (some 49) rfl rfl rfl (by kernel_rfl) (by kernel_rfl) (by kernel_rfl) (.int .i64 n) (fun _ _ _ h => h) (fun W hW => exec_move (.tmp 10) rfl _ rfl) hS ?_
  go_frame
  refine reg_takeG (i := 8) (some 53) rfl rfl rfl (by kernel_rfl) (by kernel_rfl) (by kernel_rfl) (.string msg) (fun _ _ _ h => h) (fun W hW => exec_move (.tmp 1) rfl _ rfl) hS ?_
  go_frame
  have hbz := (Below.refl w7.heap.size w7).alloc (Nat.le_refl _) (.cells (bc (List.replicate n 0)).toArray 5)
  have hS8 := hS.trans (hbz.mono hS.size)
  have hrz := Rd.of_new w7 (bc (List.replicate n 0)) 5
  refine reg_makeG (i := 5) (some 50) rfl rfl rfl (by kernel_rfl) _ _ (exec_makeSlice 22 (.tmp 49) (.tmp 49) rfl _ _ _ rfl rfl (run_zeros w7 n (by have := H64.out; omega))) hS8 ?_
  go_frame
  generalize w7.alloc (.cells (bc (List.replicate n 0)).toArray 5) = w8 at hS8 hrz ⊢
  have hcv := run_str hrz n
  rw [List.length_replicate] at hcv
  refine reg_valueG (i := 6) (some 51) rfl rfl rfl (by kernel_rfl) (.string (sb (List.replicate n 0))) (exec_convert 22 9 (.tmp 50) rfl _ _ rfl hcv) hS8 ?_
  go_frame
  refine reg_valueG (i := 7) (some 52) rfl rfl rfl (by kernel_rfl) (.string (sb (key.data.toList ++ (sb (List.replicate n 0)).data.toList))) (exec_bin .add 9 _ (.tmp 48) (.tmp 51) rfl _ _ _ rfl rfl rfl (run_concat w8 key (sb (List.replicate n 0)) (by rw [sb_size, List.length_replicate]; have := H64.out; omega))) hS8 ?_
  go_frame
  rw [sb_list]
  refine reg_callG (i := 9) (some 54) rfl rfl rfl (by kernel_rfl) rfl Tryd.func25 (by kernel_rfl) (by kernel_rfl) #[.string (sb (key.data.toList ++ List.replicate n 0)), .string msg] rfl (hmac_any (sb (key.data.toList ++ List.replicate n 0)) msg w8 (G6.out.next hS8) (by rw [sb_size, List.length_append, List.length_replicate, HLK.out]; have := H64.out; omega) HMS.out) ?_
  rintro e w9 ⟨rfl, hb9⟩
  have hS9 := hS8.trans (hb9.mono hS8.size)
  refine ⟨_, rfl, hS9, ?_⟩
  go_frame
  have he : Hm.hmac (sb (key.data.toList ++ List.replicate n 0)).data.toList msg.data.toList = h := by rw [sb_list, ← HH.out]; exact hmac_zeros _ _ _ (by rw [HLK.out]; exact H64.out)
  rw [he]
  refine reg_valueG (i := 10) (some 55) rfl rfl rfl (by kernel_rfl) (.bool true) (exec_same32 (.tmp 47) (.tmp 54) _ rfl h HL.out rfl rfl) hS9 ?_
  go_frame
  refine reg_valueG (i := 11) (some 56) rfl rfl rfl (by kernel_rfl) (.bool true) (exec_pick (.tmp 46) (.tmp 55) (.const (.bool false)) rfl _ rfl rfl) hS9 ?_
  go_frame
  refine reg_valueG (i := 12) (some 6) rfl rfl rfl (by kernel_rfl) (.bool true) (exec_assign (.tmp 56) rfl _ rfl) hS9 ?_
  go_frame
  refine wpAnyH_done (by kernel_rfl) ?_ _
  have F := Lib.hid (B6.out.trans (hS9.mono B6.out.size))
  clear hS hS8 hS9 hb9 he hcv hrz hbz
  go_wp2
  go_ret
  exact ⟨rfl, F.out⟩

theorem walkKeys (key msg : ByteArray) (z : Nat) (w : World) (hg : Glob w) (hz : z < 256) :
    Calls Tryd.prog 9 #[.string key, .string msg, .int .u8 z] w fun e w' => e = .returned (.bool true) ∧ Below w.heap.size w w' := by
  by_cases h : 200 < key.size ∨ 400 < msg.size
  · exact walkKeys_out key msg z w hg h
  · by_cases h64 : 64 < key.size
    · exact walkKeys_long key msg z w hg (by omega) (by omega) h64
    · exact walkKeys_short key msg z w hg hz (by omega) (by omega)
end Go.Proofs.YtoendbdpkkjjkaaDoor
