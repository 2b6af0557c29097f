/- The walk of HashOfMatchesSpec. -/
import Derived.Test.YtoendbdpkkjjkaaDoorHRef3
import Derived.Test.YtoendbdpkkjjkaaDoorHWKeys
import Derived.Test.YtoendbdpkkjjkaaDoorHFew
namespace Go.Proofs.YtoendbdpkkjjkaaDoor
open Go.RowKit Hm Wm

theorem and255 (x : Int) : bits .and .i64 x 255 = x % 256 := by
  have e1 : (BitVec.ofInt 64 x &&& BitVec.ofInt 64 255).toNat = (x % 18446744073709551616).toNat % 256 := by
    rw [BitVec.toNat_and, show (BitVec.ofInt 64 255).toNat = 2 ^ 8 - 1 from rfl, Nat.and_two_pow_sub_one_eq_mod, BitVec.toNat_ofInt]
    rfl
  show IntKind.i64.wrap ((BitVec.ofInt 64 x &&& BitVec.ofInt 64 255).toNat : Int) = _
  rw [e1, IntWalk.i64_in _ (by omega)]; omega
theorem run_and255 (w : World) (x : Int) : (binOp .and 3 (.int .i64 x) (.int .i64 255)).run Tryd.prog w = .ok (.int .i64 (x % 256)) w := by
  rw [binOp_and, intBits_and, and255]; rfl
theorem tagB_mod (x : Int) : tagB (x % 256) = tagB x := by unfold tagB; rw [Int.emod_emod_of_dvd _ (Int.dvd_refl 256)]

set_option maxRecDepth 100000 in
set_option maxHeartbeats 1000000 in
theorem walkOf_many (tag : Int) (A : Option Addr) (c : Nat) (ss : List ByteArray) (w : World) (hg : Glob w) (hr : Rd w A (ss.map Value.string)) (hl : ss.length ≤ maxLen) (hf : fewB ss = false) :
    Calls Tryd.prog 5 #[.int .i64 tag, .slice A ss.length c] w fun e w' => e = .returned (.bool true) ∧ Below w.heap.size w w' := by
  have HG := Lib.hid hg
  have HR := Lib.hid hr
  have HF := Lib.hid hf
  have HL := Lib.hid hl
  clear hg hr hf hl
  go_enter Tryd.func5, Tryd.ntmps5
  go_wp2_with fail
  refine (hsanity_any _ HG.out).mono ?_
  rintro e w1 ⟨rfl, hb1⟩
  have B1 := Lib.hid hb1
  clear hb1
  go_wp2_with fail
  refine (few_any A c ss w1 (HR.out.below B1.out) HL.out).mono ?_
  rintro e w' ⟨rfl, rfl⟩
  rw [HF.out]
  go_wp2
  go_ret
  exact ⟨rfl, B1.out⟩

set_option maxRecDepth 100000 in
set_option maxHeartbeats 1000000 in
theorem walkOf_in (tag : Int) (A : Option Addr) (c : Nat) (ss : List ByteArray) (w : World) (hg : Glob w) (ht : w.rangeAt 0 0 (wc K)) (hr : Rd w A (ss.map Value.string)) (h12 : ss.length ≤ 12) (hss : ∀ s ∈ ss, s.size ≤ 400) :
    Calls Tryd.prog 5 #[.int .i64 tag, .slice A ss.length c] w fun e w' => e = .returned (.bool true) ∧ Below w.heap.size w w' := by
  have HG := Lib.hid hg
  have HT := Lib.hid ht
  have HR := Lib.hid hr
  have HSS := Lib.hid hss
  have H12 := Lib.hid h12
  have HFY := Lib.hid (fewB_mk h12 hss)
  have HZ := Lib.hid (show ∀ s ∈ ss, s.size ≤ 1000000 from fun s hs => by have := hss s hs; omega)
  have HE := Lib.hid (show (encP ss).length ≤ 100000000 by have := encP_len ss hss; omega)
  clear hg ht hr hss
  go_enter Tryd.func5, Tryd.ntmps5
  go_wp2_with fail
  refine (hsanity_any _ HG.out).mono ?_
  rintro e w1 ⟨rfl, hb1⟩
  have G1 := Lib.hid (HG.out.next hb1)
  have B1 := Lib.hid hb1
  clear hb1
  go_wp2_with fail
  refine (few_any A c ss w1 (HR.out.below B1.out) (by unfold maxLen; have := H12.out; omega)).mono ?_
  rintro e w' ⟨rfl, rfl⟩
  rw [HFY.out]
  go_wp2_with fail
  refine (of_any tag A c ss w1 G1.out (HR.out.below B1.out) HZ.out (by have := H12.out; omega) HE.out).mono ?_
  rintro e w2 ⟨rfl, hb2⟩
  obtain ⟨s, hs⟩ : ∃ s, (Hm.sum (tagB tag :: encP ss)).take 16 = s := ⟨_, rfl⟩
  have hsl : s.length = 16 := by rw [← hs, List.length_take, sum_len]; rfl
  rw [hs]
  have HS := Lib.hid hs
  have HSL := Lib.hid hsl
  have B2 := Lib.hid (B1.out.trans (hb2.mono B1.out.size))
  clear hb2 hs hsl G1 B1
  go_wp2_with (refine wpList_var rfl rfl 43 6 rfl rfl rfl (.tmp 14) rfl (zb 16) (bc s) dg_zero rfl rfl (by rw [bc_len, zb_len, HSL.out]) (by rw [dg_size, bc_len, HSL.out]) (bc_one _) ?_; intro w3 K3 D3; have B3 := Lib.hid (B2.out.trans (D3.out.mono B2.out.size)); clear B2 D3)
  have R3 := Lib.hid (HR.out.below B3.out)
  have T3 := Lib.hid (range_below' HT.out B3.out)
  have G3 := Lib.hid (HG.out.next B3.out)
  refine wp_region_held_drew (S := fun W => Below w3.heap.size w3 W) (by kernel_rfl) (Below.refl _ _).drew (fun hS => ?_)
  generalize w3.drew = w4 at hS ⊢
  refine reg_takeG (i := 0) (some 15) rfl rfl rfl (by kernel_rfl) (by kernel_rfl) (by kernel_rfl) (.bool true) (fun _ _ _ h => h) (fun W hW => exec_move (.tmp 5) rfl _ rfl) hS ?_
  go_frame
  refine reg_takeG (i := 1) (some 16) rfl rfl rfl (by kernel_rfl) (by kernel_rfl) (by kernel_rfl) (.bool true) (fun _ _ _ h => h) (fun W hW => exec_move (.tmp 15) rfl _ rfl) hS ?_
  go_frame
  refine reg_takeG (i := 2) (some 17) rfl rfl rfl (by kernel_rfl) (by kernel_rfl) (by kernel_rfl) (.agg (bc s).toArray) (fun _ _ _ h => h) (fun W hW => exec_load16 (.tmp 6) rfl w2.heap.size s HSL.out (K3.out.next hW) rfl) hS ?_
  go_frame
  refine reg_takeG (i := 3) (some 18) rfl rfl rfl (by kernel_rfl) (by kernel_rfl) (by kernel_rfl) (.int .i64 tag) (fun _ _ _ h => h) (fun W hW => exec_move (.tmp 0) rfl _ rfl) hS ?_
  go_frame
  refine reg_takeG (i := 4) (some 19) rfl rfl rfl (by kernel_rfl) (by kernel_rfl) (by kernel_rfl) (.slice A ss.length c) (fun _ _ _ h => h) (fun W hW => exec_move (.tmp 1) rfl _ rfl) hS ?_
  go_frame
  refine reg_callG (i := 5) (some 20) rfl rfl rfl (by kernel_rfl) rfl Tryd.func21 (by kernel_rfl) (by kernel_rfl) #[.int .i64 tag, .slice A ss.length c] rfl (rof_any tag A c ss w4 (R3.out.below hS) H12.out HSS.out (range_below' T3.out hS)) ?_
  rintro e w6 ⟨rfl, hb6⟩
  have hS6 := hS.trans (hb6.mono hS.size)
  rw [HS.out]
  refine ⟨_, rfl, hS6, ?_⟩
  go_frame
  refine reg_valueG (i := 6) (some 21) rfl rfl rfl (by kernel_rfl) (.bool true) (exec_same16 (.tmp 17) (.tmp 20) _ rfl s HSL.out rfl rfl) hS6 ?_
  go_frame
  refine reg_valueG (i := 7) (some 22) rfl rfl rfl (by kernel_rfl) (.bool true) (exec_pick (.tmp 16) (.tmp 21) (.const (.bool false)) rfl _ rfl rfl) hS6 ?_
  go_frame
  refine reg_valueG (i := 8) (some 23) rfl rfl rfl (by kernel_rfl) (.bool true) (exec_move (.tmp 22) rfl _ rfl) hS6 ?_
  go_frame
  refine reg_takeG (i := 9) (some 24) rfl rfl rfl (by kernel_rfl) (by kernel_rfl) (by kernel_rfl) (.agg (bc s).toArray) (fun _ _ _ h => h) (fun W hW => exec_load16 (.tmp 6) rfl w2.heap.size s HSL.out (K3.out.next hW) rfl) hS6 ?_
  go_frame
  refine reg_takeG (i := 10) (some 25) rfl rfl rfl (by kernel_rfl) (by kernel_rfl) (by kernel_rfl) (.int .i64 tag) (fun _ _ _ h => h) (fun W hW => exec_move (.tmp 0) rfl _ rfl) hS6 ?_
  go_frame
  refine reg_takeG (i := 11) (some 26) rfl rfl rfl (by kernel_rfl) (by kernel_rfl) (by kernel_rfl) (.int .i64 (tag % 256)) (fun _ _ _ h => h) (fun W hW => exec_bin .and 3 _ (.tmp 25) (.const (.int .i64 255)) rfl (.int .i64 tag) (.int .i64 255) _ rfl rfl rfl (run_and255 W tag)) hS6 ?_
  go_frame
  refine reg_takeG (i := 12) (some 27) rfl rfl rfl (by kernel_rfl) (by kernel_rfl) (by kernel_rfl) (.slice A ss.length c) (fun _ _ _ h => h) (fun W hW => exec_move (.tmp 1) rfl _ rfl) hS6 ?_
  go_frame
  refine reg_callG (i := 13) (some 28) rfl rfl rfl (by kernel_rfl) rfl Tryd.func20 (by kernel_rfl) (by kernel_rfl) #[.int .i64 (tag % 256), .slice A ss.length c] rfl (of_any (tag % 256) A c ss w6 (G3.out.next hS6) (R3.out.below hS6) HZ.out (by have := H12.out; omega) HE.out) ?_
  rintro e w7 ⟨rfl, hb7⟩
  have hS7 := hS6.trans (hb7.mono hS6.size)
  rw [tagB_mod, HS.out]
  refine ⟨_, rfl, hS7, ?_⟩
  go_frame
  refine reg_valueG (i := 14) (some 29) rfl rfl rfl (by kernel_rfl) (.bool true) (exec_same16 (.tmp 24) (.tmp 28) _ rfl s HSL.out rfl rfl) hS7 ?_
  go_frame
  refine reg_valueG (i := 15) (some 30) rfl rfl rfl (by kernel_rfl) (.bool true) (exec_pick (.tmp 23) (.tmp 29) (.const (.bool false)) rfl _ rfl rfl) hS7 ?_
  go_frame
  refine reg_valueG (i := 16) (some 4) rfl rfl rfl (by kernel_rfl) (.bool true) (exec_assign (.tmp 30) rfl _ rfl) hS7 ?_
  go_frame
  refine wpAnyH_done (by kernel_rfl) ?_ _
  have F := Lib.hid (B3.out.trans (hS7.mono B3.out.size))
  clear hS hS6 hS7 hb6 hb7
  go_wp2
  go_ret
  exact ⟨rfl, F.out⟩

theorem walkOf (tag : Int) (A : Option Addr) (c : Nat) (ss : List ByteArray) (w : World) (hg : Glob w) (ht : w.rangeAt 0 0 (wc K)) (hr : Rd w A (ss.map Value.string)) (hl : ss.length ≤ maxLen) :
    Calls Tryd.prog 5 #[.int .i64 tag, .slice A ss.length c] w fun e w' => e = .returned (.bool true) ∧ Below w.heap.size w w' := by
  cases hf : fewB ss with
  | false => exact walkOf_many tag A c ss w hg hr hl hf
  | true =>
    have h := fewB_yes hf
    exact walkOf_in tag A c ss w hg ht hr h.1 h.2
end Go.Proofs.YtoendbdpkkjjkaaDoor
