/- The reference's Expand. -/
import Derived.Test.YtoendbdpkkjjkaaDoorHRef3
namespace Go.Proofs.YtoendbdpkkjjkaaDoor
open Go.RowKit Hm Wm

theorem sb_extract (l : List UInt8) (n : Nat) : (sb l).extract 0 n = sb (l.take n) := by
  apply ByteArray.ext
  rw [ByteArray.data_extract]
  simp [sb]

set_option maxRecDepth 100000 in
set_option maxHeartbeats 400000 in
theorem rexpand_low (seed : ByteArray) (n : Int) (w : World) (h : n < 1) :
    Calls Tryd.prog 32 #[.string seed, .int .i64 n] w fun e w' => e = .returned (.string { data := #[] }) ∧ w = w' := by
  have d1 : decide (n < 1) = true := by simpa using h
  go_enter Tryd.func32, Tryd.ntmps32
  go_wp2
  go_ret
  exact ⟨rfl, rfl⟩

set_option maxRecDepth 100000 in
set_option maxHeartbeats 400000 in
theorem rexpand_high (seed : ByteArray) (n : Int) (w : World) (h : 1048576 < n) :
    Calls Tryd.prog 32 #[.string seed, .int .i64 n] w fun e w' => e = .returned (.string { data := #[] }) ∧ w = w' := by
  have h1 : ¬ n < 1 := by omega
  have d1 : decide (n < 1) = false := by simpa using h1
  have d2 : decide (1048576 < n) = true := by simpa using h
  go_enter Tryd.func32, Tryd.ntmps32
  go_wp2
  go_ret
  exact ⟨rfl, rfl⟩

set_option maxRecDepth 100000 in
set_option maxHeartbeats 1000000 in
theorem rexpand_any (seed : ByteArray) (N : Nat) (w : World) (ht : w.rangeAt 0 0 (wc K)) (hs : seed.size ≤ 1000) (h1 : 1 ≤ N) (h2 : N ≤ 300) :
    Calls Tryd.prog 32 #[.string seed, .int .i64 N] w fun e w' => e = .returned (.string (sb (expand seed.data.toList N))) ∧ Below w.heap.size w w' := by
  have HT := Lib.hid ht
  have HKS := Lib.hid hs
  have i1 : ¬ ((N : Int) < 1) := by omega
  have i2 : ¬ (1048576 < (N : Int)) := by omega
  have d1 : decide ((N : Int) < 1) = false := by simpa using i1
  have d2 : decide (1048576 < (N : Int)) = false := by simpa using i2
  obtain ⟨SD, hSD⟩ : ∃ SD, seed.data.toList = SD := ⟨_, rfl⟩
  have HSD := Lib.hid hSD
  rw [hSD]
  clear ht hs i1 i2 hSD
  go_enter Tryd.func32, Tryd.ntmps32
  go_wp2_with fail
  go_loopw [5, 6] (fun s i wr => ∃ k : Nat, i = .int .i64 k ∧ k ≤ 20 ∧ s = .string (sb (ex SD k)) ∧ Hid (32 * k ≤ N + 31) ∧ Hid (Below w.heap.size w wr))
    (fun _ i _ => 20 - (intOf i).toNat)
  case atStart => exact ⟨0, rfl, by omega, rfl, Lib.hid (by omega), Below.refl _ _⟩
  case round =>
    obtain ⟨k, rfl, hk, rfl, HK, HB⟩ := hrel
    have hsz : (sb (ex SD k)).size = 32 * k := by rw [sb_size, ex_len]
    by_cases hlt : 32 * k < N
    · obtain ⟨S0, hS0⟩ : ∃ S0, sb (ex SD k) = S0 := ⟨_, rfl⟩
      rw [hS0] at hsz ⊢
      have HS0 := Lib.hid hS0
      have d3 : S0.size < N := by omega
      have hk10 : (k : Int) < 10 := by omega
      have HK10 := Lib.hid hk10
      clear hsz hS0
      go_wp2_with fail
      refine (rint_f k _ (by have := HK10.out; omega) (by have := HK10.out; omega)).mono ?_
      rintro e w2 ⟨B, cB, rfl, hrb, hb2⟩
      have B2 := Lib.hid (HB.out.trans (hb2.mono HB.out.size))
      have hcv := run_str hrb cB
      have HEN := Lib.hid (show (sb (enc (k : Int))).size ≤ 10000 by rw [sb_size]; have h3 := enc_le (n := (k : Int)) (by have := HK10.out; omega) (by have := HK10.out; omega); omega)
      clear hrb hb2 HB
      go_wp2_with fail
      refine (rhmac_any seed (sb (enc (k : Int))) w2 (range_below' HT.out B2.out) HKS.out HEN.out).mono ?_
      rintro e w3 ⟨rfl, hb3⟩
      rw [sb_list, HSD.out]
      obtain ⟨h, hh⟩ : ∃ h, Hm.hmac SD (enc (k : Int)) = h := ⟨_, rfl⟩
      have hl : h.length = 32 := by rw [← hh, hmac_len]
      rw [hh]
      have HST := Lib.hid (show ex SD (k + 1) = ex SD k ++ h by rw [← hh]; rfl)
      have HL := Lib.hid hl
      have B3 := Lib.hid (B2.out.trans (hb3.mono B2.out.size))
      clear hb3 hh hl B2 hcv
      go_wp2_with (first | (refine wpList_var rfl rfl 24 7 rfl rfl rfl (.tmp 24) rfl (zb 32) (bc h) a32_zero rfl rfl (by rw [bc_len, zb_len, HL.out]) (by rw [a32_size, bc_len, HL.out]) (bc_one _) ?_; intro w4 K4 D4; have B4 := Lib.hid (B3.out.trans (D4.out.mono B3.out.size)); clear B3 D4) | (refine wpList_loadG rfl _ (.tmp 7) rfl w3.heap.size _ (bc h) _ rfl K4.out a32_under rfl (by rw [a32_size, bc_len, HL.out]) ?_))
      refine (bytes32_any h w4 HL.out).mono ?_
      rintro e w5 ⟨rfl, hb5⟩
      have B5 := Lib.hid (B4.out.trans (hb5.mono B4.out.size))
      clear hb5 B4 K4
      have hcat := fun W : World => run_concat W S0 (sb h) (by rw [← HS0.out, sb_size, sb_size, ex_len, HL.out]; have := HK10.out; omega)
      have hS1 : S0.data.toList ++ (sb h).data.toList = ex SD (k + 1) := by rw [← HS0.out, sb_list, sb_list, HST.out]
      rw [hS1] at hcat
      simp only [binOp_string_add] at hcat
      clear hS1
      go_wp2
      go_roundw
      case rel => exact ⟨k + 1, by go_num, by omega, rfl, Lib.hid (by omega), B5.out⟩
      case measure => simp [intOf]; omega
    · have hL : N ≤ (ex SD k).length := by rw [ex_len]; omega
      obtain ⟨S0, hS0⟩ : ∃ S0, sb (ex SD k) = S0 := ⟨_, rfl⟩
      have hhi := sb_extract (ex SD k) N
      rw [hS0] at hsz hhi ⊢
      have d3 : ¬ S0.size < N := by omega
      have d4 : N ≤ S0.size := by omega
      have HE := Lib.hid (ex_take SD N k (by omega))
      rw [HE.out] at hhi
      have HHI := Lib.hid hhi
      clear hL hsz hhi hS0
      go_wp2
      go_ret
      exact ⟨(show _ = _ by rw [← HHI.out]; rfl), HB.out⟩
end Go.Proofs.YtoendbdpkkjjkaaDoor
