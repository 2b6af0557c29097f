/- The walk of HashSumMatchesSpec. -/
import Derived.Test.YtoendbdpkkjjkaaDoorHRSum
import Derived.Test.YtoendbdpkkjjkaaDoorHWKeys
namespace Go.Proofs.YtoendbdpkkjjkaaDoor
open Go.RowKit Hm Wm

theorem run_same_str (w : World) (l : List UInt8) : (binOp .eql 9 (.string (sb l)) (.string (sb l))).run Tryd.prog w = .ok (.bool true) w := by
  rw [run_eql_str]; simp

set_option maxRecDepth 100000 in
set_option maxHeartbeats 1000000 in
theorem walkSum_out (A : Option Addr) (c : Nat) (l : List UInt8) (w : World) (hg : Glob w) (h : 600 < l.length) :
    Calls Tryd.prog 3 #[.slice A l.length c] w fun e w' => e = .returned (.bool true) ∧ Below w.heap.size w w' := by
  have HG := Lib.hid hg
  have d1 : decide ((600 : Int) < (l.length : Int)) = true := by simp; omega
  clear hg h
  go_enter Tryd.func3, Tryd.ntmps3
  go_wp2_with fail
  refine (hsanity_any _ HG.out).mono ?_
  rintro e w1 ⟨rfl, hb1⟩
  have HB := Lib.hid hb1
  clear hb1
  go_wp2
  go_ret
  exact ⟨rfl, HB.out⟩

set_option maxRecDepth 100000 in
set_option maxHeartbeats 1000000 in
theorem walkSum_in (A : Option Addr) (c : Nat) (l : List UInt8) (w : World) (hg : Glob w) (ht : w.rangeAt 0 0 (wc K)) (hr : Rd w A (bc l)) (hc : l.length ≤ c) (h : l.length ≤ 600) :
    Calls Tryd.prog 3 #[.slice A l.length c] w fun e w' => e = .returned (.bool true) ∧ Below w.heap.size w w' := by
  have HG := Lib.hid hg
  have HT := Lib.hid ht
  have HR := Lib.hid hr
  have HC := Lib.hid hc
  have HLL := Lib.hid h
  have d1 : decide ((600 : Int) < (l.length : Int)) = false := by simp; omega
  clear hg ht hr hc h
  go_enter Tryd.func3, Tryd.ntmps3
  go_wp2_with fail
  refine (hsanity_any _ HG.out).mono ?_
  rintro e w1 ⟨rfl, hb1⟩
  have G1 := Lib.hid (HG.out.next hb1)
  have B1 := Lib.hid hb1
  have R1 := Lib.hid (HR.out.below hb1)
  have hcv := run_str R1.out c
  clear hb1 HG
  go_wp2_with fail
  refine (sum_any A c l w1 G1.out R1.out HC.out (by have := HLL.out; omega)).mono ?_
  rintro e w2 ⟨rfl, hb2⟩
  obtain ⟨s, hs⟩ : ∃ s, Hm.sum l = s := ⟨_, rfl⟩
  have hsl : s.length = 32 := by rw [← hs, sum_len]
  rw [hs]
  have HS := Lib.hid hs
  have HSL := Lib.hid hsl
  have B2 := Lib.hid (B1.out.trans (hb2.mono B1.out.size))
  clear hb2 hcv hs hsl G1 R1
  go_wp2_with (refine wpList_var rfl rfl 24 5 rfl rfl rfl (.tmp 14) rfl (zb 32) (bc s) a32_zero rfl rfl (by rw [bc_len, zb_len, HSL.out]) (by rw [a32_size, bc_len, HSL.out]) (bc_one _) ?_; intro w3 K3 D3; have B3 := Lib.hid (B2.out.trans (D3.out.mono B2.out.size)); clear B2 D3)
  have R3 := Lib.hid (HR.out.below B3.out)
  have T3 := Lib.hid (range_below' HT.out B3.out)
  refine wp_region_held_drew (S := fun W => Below w3.heap.size w3 W) (by kernel_rfl) (Below.refl _ _).drew (fun hS => ?_)
  generalize w3.drew = w4 at hS ⊢
  refine reg_takeG (i := 0) (some 15) rfl rfl rfl (by kernel_rfl) (by kernel_rfl) (by kernel_rfl) (.bool true) (fun _ _ _ h => h) (fun W hW => exec_move (.tmp 3) rfl _ rfl) hS ?_
  go_frame
  refine reg_takeG (i := 1) (some 16) rfl rfl rfl (by kernel_rfl) (by kernel_rfl) (by kernel_rfl) (.bool true) (fun _ _ _ h => h) (fun W hW => exec_move (.tmp 15) rfl _ rfl) hS ?_
  go_frame
  refine reg_takeG (i := 2) (some 17) rfl rfl rfl (by kernel_rfl) (by kernel_rfl) (by kernel_rfl) (.agg (bc s).toArray) (fun _ _ _ h => h) (fun W hW => exec_load32 (.tmp 5) rfl w2.heap.size s HSL.out (K3.out.next hW) rfl) hS ?_
  go_frame
  refine reg_takeG (i := 3) (some 18) rfl rfl rfl (by kernel_rfl) (by kernel_rfl) (by kernel_rfl) (.string (sb l)) (fun _ _ _ h => h) (fun W hW => exec_move (.tmp 4) rfl _ rfl) hS ?_
  go_frame
  obtain ⟨A5, c5, w5, hr5, hRd5, hc5, hb5⟩ := run_bytes w4 (sb l)
  have hS5 := hS.trans (hb5.mono hS.size)
  refine reg_makeG (i := 4) (some 19) rfl rfl rfl (by kernel_rfl) _ _ (exec_convert 9 22 (.tmp 18) rfl _ _ rfl hr5) hS5 ?_
  go_frame
  rw [sb_list] at hRd5 ⊢
  refine reg_callG (i := 5) (some 20) rfl rfl rfl (by kernel_rfl) rfl Tryd.func14 (by kernel_rfl) (by kernel_rfl) #[.slice A5 l.length c5] rfl (rsum_any A5 c5 l w5 hRd5 (by have := HLL.out; omega) (range_below' T3.out hS5)) ?_
  rintro e w6 ⟨rfl, hb6⟩
  have hS6 := hS5.trans (hb6.mono hS5.size)
  rw [HS.out]
  refine ⟨_, rfl, hS6, ?_⟩
  go_frame
  refine reg_valueG (i := 6) (some 21) rfl rfl rfl (by kernel_rfl) (.bool true) (exec_same32 (.tmp 17) (.tmp 20) _ rfl s HSL.out rfl rfl) hS6 ?_
  go_frame
  refine reg_valueG (i := 7) (some 22) rfl rfl rfl (by kernel_rfl) (.bool true) (exec_pick (.tmp 16) (.tmp 21) (.const (.bool false)) rfl _ rfl rfl) hS6 ?_
  go_frame
  refine reg_valueG (i := 8) (some 23) rfl rfl rfl (by kernel_rfl) (.bool true) (exec_move (.tmp 22) rfl _ rfl) hS6 ?_
  go_frame
  refine reg_takeG (i := 9) (some 24) rfl rfl rfl (by kernel_rfl) (by kernel_rfl) (by kernel_rfl) (.slice A l.length c) (fun _ _ _ h => h) (fun W hW => exec_move (.tmp 0) rfl _ rfl) hS6 ?_
  go_frame
  refine reg_takeG (i := 11) (some 26) rfl rfl rfl (by kernel_rfl) (by kernel_rfl) (by kernel_rfl) (.string (sb l)) (fun _ _ _ h => h) (fun W hW => exec_move (.tmp 4) rfl _ rfl) hS6 ?_
  go_frame
  have hcv := run_str (R3.out.below hS6) c
  refine reg_valueG (i := 10) (some 25) rfl rfl rfl (by kernel_rfl) (.string (sb l)) (exec_convert 22 9 (.tmp 24) rfl _ _ rfl hcv) hS6 ?_
  go_frame
  refine reg_valueG (i := 12) (some 27) rfl rfl rfl (by kernel_rfl) (.bool true) (exec_bin .eql 9 _ (.tmp 25) (.tmp 26) rfl _ _ _ rfl rfl rfl (run_same_str w6 l)) hS6 ?_
  go_frame
  refine reg_valueG (i := 13) (some 28) rfl rfl rfl (by kernel_rfl) (.bool true) (exec_pick (.tmp 23) (.tmp 27) (.const (.bool false)) rfl _ rfl rfl) hS6 ?_
  go_frame
  refine reg_valueG (i := 14) (some 2) rfl rfl rfl (by kernel_rfl) (.bool true) (exec_assign (.tmp 28) rfl _ rfl) hS6 ?_
  go_frame
  refine wpAnyH_done (by kernel_rfl) ?_ _
  have F := Lib.hid (B3.out.trans (hS6.mono B3.out.size))
  clear hS hS5 hS6 hb5 hb6 hr5 hRd5 hc5 hcv
  go_wp2
  go_ret
  exact ⟨rfl, F.out⟩

theorem walkSum (A : Option Addr) (c : Nat) (l : List UInt8) (w : World) (hg : Glob w) (ht : w.rangeAt 0 0 (wc K)) (hr : Rd w A (bc l)) (hc : l.length ≤ c) :
    Calls Tryd.prog 3 #[.slice A l.length c] w fun e w' => e = .returned (.bool true) ∧ Below w.heap.size w w' := by
  by_cases h : 600 < l.length
  · exact walkSum_out A c l w hg h
  · exact walkSum_in A c l w hg ht hr hc (by omega)
end Go.Proofs.YtoendbdpkkjjkaaDoor
