/- The reference's block of a key, combined blocks and keyed hash. -/
import Derived.Test.YtoendbdpkkjjkaaDoorHKeyR
namespace Go.Proofs.YtoendbdpkkjjkaaDoor
open Go.RowKit Hm Wm

set_option maxRecDepth 100000 in
set_option maxHeartbeats 1000000 in
theorem rblock_short (key : ByteArray) (w : World) (hk : key.size ≤ 64) :
    Calls Tryd.prog 48 #[.string key] w fun e w' => ∃ A c, e = .returned (.slice A 64 c) ∧ Rd w' A (bc (keyBlock key.data.toList)) ∧ 64 ≤ c ∧ Below w.heap.size w w' := by
  obtain ⟨k0, hk0⟩ : ∃ k0, key.data.toList = k0 := ⟨_, rfl⟩
  have hl : k0.length = key.size := by rw [← hk0]; exact Array.length_toList
  have HK64 := Lib.hid (show k0.length ≤ 64 by omega)
  have HKB := Lib.hid (keyBlock_short k0 (by omega))
  have d1 : decide ((64 : Int) < (key.size : Int)) = false := by simp; omega
  have HKS := Lib.hid (show key.size ≤ 1000000 by omega)
  have HK0 := Lib.hid hk0
  rw [hk0]
  clear hk hl hk0
  go_enter Tryd.func48, Tryd.ntmps48
  go_wp2_with (refine wpList_bytesF rfl (.tmp 5) rfl key rfl HKS.out ?_; intro v1 w1 ho1 hb1; rw [HK0.out] at ho1; have HO := Lib.hid ho1; have HB := Lib.hid hb1; clear ho1 hb1)
  go_loopw [3] (fun v wr => ∃ (j L : Nat) (cp : Nat) (ad : Option Addr), v = .slice ad L cp ∧ L = k0.length + j ∧ L ≤ 64 ∧ Hid (OwnF wr w.heap.size (.slice ad L cp) (k0 ++ List.replicate j 0)) ∧ Hid (Below w.heap.size w wr))
    (fun v _ => 64 - sliceLen v)
  case atStart =>
    obtain ⟨ad, cp, hv, _, _⟩ := HO.out.out
    have ho := HO.out
    subst hv
    exact ⟨0, _, cp, ad, rfl, rfl, HK64.out, (by show OwnF _ _ _ _; rw [List.replicate_zero, List.append_nil]; exact ho), HB.out⟩
  case round =>
    clear HO HB
    obtain ⟨j, L, cp, ad, rfl, hL, hL2, HO, HB⟩ := hrel
    by_cases hlt : L < 64
    · have bl : (L : Int) < 64 := by omega
      have HLL := Lib.hid hL
      clear hL
      go_wp2_with (at_builtin; refine wpList_pushF rfl (.tmp 19) (.tmp 20) rfl w.heap.size _ (k0 ++ List.replicate j 0) rfl HO.out _ 0 rfl HB.out.size (by have := HLL.out; simp; omega) rfl ?_; intro v3 w3 ho3 hb3; have HO3 := Lib.hid ho3; have HB3 := Lib.hid (HB.out.trans hb3); clear ho3 hb3 HO HB)
      obtain ⟨ad3, cp3, hv, _, _⟩ := HO3.out.out
      have ho := HO3.out
      have hl3 := HLL.out
      have hl4 : (k0 ++ List.replicate j 0 ++ [0]).length = L + 1 := by (simp; omega)
      rw [hl4] at hv
      rw [List.append_assoc, ← List.replicate_succ'] at ho
      subst hv
      have HO4 := Lib.hid ho
      clear ho HO3 hl3 hl4
      go_roundw
      case rel => exact ⟨j + 1, L + 1, cp3, ad3, rfl, by have := HLL.out; omega, by omega, HO4.out, HB3.out⟩
      case measure => simp [sliceLen]; omega
    · obtain rfl : L = 64 := by omega
      obtain ⟨A0, c0, hv, hr, hc⟩ := HO.out.out
      have hj : j = 64 - k0.length := by omega
      rw [hj, HKB.out, keyBlock_len] at hv hc
      rw [hj, HKB.out] at hr
      injection hv with e1 e2 e3
      subst e1; subst e3
      have HRR := Lib.hid hr
      have HCC := Lib.hid hc
      clear hL hr hc HO hj
      go_wp2
      go_ret
      exact ⟨_, _, rfl, HRR.out, HCC.out, HB.out⟩

set_option maxRecDepth 100000 in
set_option maxHeartbeats 1000000 in
theorem rblock_long (key : ByteArray) (w : World) (hk : 64 < key.size) (hk2 : key.size ≤ 1000) (ht : w.rangeAt 0 0 (wc K)) :
    Calls Tryd.prog 48 #[.string key] w fun e w' => ∃ A c, e = .returned (.slice A 64 c) ∧ Rd w' A (bc (keyBlock key.data.toList)) ∧ 64 ≤ c ∧ Below w.heap.size w w' := by
  have hl : key.data.toList.length = key.size := Array.length_toList
  obtain ⟨k0, hk0⟩ : ∃ k0, Hm.sum key.data.toList = k0 := ⟨_, rfl⟩
  have hl0 : k0.length = 32 := by rw [← hk0, sum_len]
  have hkb := keyBlock_long key.data.toList (by omega)
  rw [hk0] at hkb
  have HK64 := Lib.hid (show k0.length ≤ 64 by omega)
  have HKB := Lib.hid hkb
  have HT := Lib.hid ht
  have d1 : decide ((64 : Int) < (key.size : Int)) = true := by simp; omega
  have HKS := Lib.hid (show key.size ≤ 1000000 by omega)
  have HKL := Lib.hid (show key.data.toList.length ≤ 100000 by omega)
  have HK0 := Lib.hid hk0
  have HL0 := Lib.hid hl0
  clear hk hl hk0 hk2 hkb ht hl0
  go_enter Tryd.func48, Tryd.ntmps48
  go_wp2_with (first | (refine wpList_bytesF rfl (.tmp 5) rfl key rfl HKS.out ?_; intro v1 w1 ho1 hb1; have HB1 := Lib.hid hb1; clear ho1 hb1) | (refine wpList_bytes rfl (.tmp 10) rfl key rfl ?_; intro A2 c2 w2 hr2 hc2 hb2; have HB2 := Lib.hid (HB1.out.trans (hb2.mono HB1.out.size)); have HR2 := Lib.hid hr2; clear hr2 hb2 HB1))
  refine (rsum_any A2 c2 key.data.toList w2 HR2.out HKL.out (range_below' HT.out HB2.out)).mono ?_
  rintro e w3 ⟨rfl, hb3⟩
  rw [HK0.out]
  have HB3 := Lib.hid (HB2.out.trans (hb3.mono HB2.out.size))
  clear hb3 HB2 HR2
  go_wp2_with (first | (refine wpList_var rfl rfl 24 4 rfl rfl rfl (.tmp 12) rfl (zb 32) (bc k0) a32_zero rfl rfl (by rw [bc_len, zb_len, HL0.out]) (by rw [a32_size, bc_len, HL0.out]) (bc_one _) ?_; intro w4 K4 D4; have HB4 := Lib.hid (HB3.out.trans (D4.out.mono HB3.out.size)); clear HB3 D4) | (refine wpList_load_all rfl _ (.tmp 4) rfl w3.heap.size _ (bc k0) _ rfl K4.out a32_under rfl (by rw [a32_size, bc_len, HL0.out]) ?_))
  refine (bytes32_any k0 w4 HL0.out).mono ?_
  rintro e w5 ⟨rfl, hb5⟩
  have HB5 := Lib.hid (HB4.out.trans (hb5.mono HB4.out.size))
  have HSB := Lib.hid (show (sb k0).size ≤ 1000000 by rw [sb_size, HL0.out]; omega)
  clear hb5 HB4 K4
  go_wp2_with (refine wpList_bytesF rfl (.tmp 14) rfl (sb k0) rfl HSB.out ?_; intro v6 w6 ho6 hb6; rw [sb_list] at ho6; have HB := Lib.hid (HB5.out.trans (hb6.mono HB5.out.size)); obtain ⟨g6, cap6, cur6, fr6, hv6, hg6, hrest⟩ := ho6; have ho6 : OwnF w6 w.heap.size v6 k0 := ⟨g6, cap6, cur6, fr6, hv6, Nat.le_trans HB5.out.size hg6, hrest⟩; have HO := Lib.hid ho6; clear ho6 hb6 HB5 hg6 hrest hv6)
  go_loopw [3] (fun v wr => ∃ (j L : Nat) (cp : Nat) (ad : Option Addr), v = .slice ad L cp ∧ L = k0.length + j ∧ L ≤ 64 ∧ Hid (OwnF wr w.heap.size (.slice ad L cp) (k0 ++ List.replicate j 0)) ∧ Hid (Below w.heap.size w wr))
    (fun v _ => 64 - sliceLen v)
  case atStart =>
    obtain ⟨ad, cp, hv, _, _⟩ := HO.out.out
    have ho := HO.out
    subst hv
    exact ⟨0, _, cp, ad, rfl, rfl, HK64.out, (by show OwnF _ _ _ _; rw [List.replicate_zero, List.append_nil]; exact ho), HB.out⟩
  case round =>
    clear HO HB
    obtain ⟨j, L, cp, ad, rfl, hL, hL2, HO, HB⟩ := hrel
    by_cases hlt : L < 64
    · have bl : (L : Int) < 64 := by omega
      have HLL := Lib.hid hL
      clear hL
      go_wp2_with (at_builtin; refine wpList_pushF rfl (.tmp 19) (.tmp 20) rfl w.heap.size _ (k0 ++ List.replicate j 0) rfl HO.out _ 0 rfl HB.out.size (by have := HLL.out; simp; omega) rfl ?_; intro v3 w3 ho3 hb3; have HO3 := Lib.hid ho3; have HB3 := Lib.hid (HB.out.trans hb3); clear ho3 hb3 HO HB)
      obtain ⟨ad3, cp3, hv, _, _⟩ := HO3.out.out
      have ho := HO3.out
      have hl3 := HLL.out
      have hl4 : (k0 ++ List.replicate j 0 ++ [0]).length = L + 1 := by (simp; omega)
      rw [hl4] at hv
      rw [List.append_assoc, ← List.replicate_succ'] at ho
      subst hv
      have HO4 := Lib.hid ho
      clear ho HO3 hl3 hl4
      go_roundw
      case rel => exact ⟨j + 1, L + 1, cp3, ad3, rfl, by have := HLL.out; omega, by omega, HO4.out, HB3.out⟩
      case measure => simp [sliceLen]; omega
    · obtain rfl : L = 64 := by omega
      obtain ⟨A0, c0, hv, hr, hc⟩ := HO.out.out
      have hj : j = 64 - k0.length := by omega
      rw [hj, HKB.out, keyBlock_len] at hv hc
      rw [hj, HKB.out] at hr
      injection hv with e1 e2 e3
      subst e1; subst e3
      have HRR := Lib.hid hr
      have HCC := Lib.hid hc
      clear hL hr hc HO hj
      go_wp2
      go_ret
      exact ⟨_, _, rfl, HRR.out, HCC.out, HB.out⟩

theorem rblock_any (key : ByteArray) (w : World) (hk : key.size ≤ 1000) (ht : w.rangeAt 0 0 (wc K)) :
    Calls Tryd.prog 48 #[.string key] w fun e w' => ∃ A c, e = .returned (.slice A 64 c) ∧ Rd w' A (bc (keyBlock key.data.toList)) ∧ 64 ≤ c ∧ Below w.heap.size w w' := by
  by_cases h : 64 < key.size
  · exact rblock_long key w h hk ht
  · exact rblock_short key w (by omega)

set_option maxRecDepth 100000 in
set_option maxHeartbeats 1000000 in
theorem rwith_any (A : Option Addr) (c : Nat) (b : List UInt8) (x : UInt8) (msg : ByteArray) (w : World) (hr : Rd w A (bc b)) (hl : b.length = 64) (hm : msg.size ≤ 10000) :
    Calls Tryd.prog 49 #[.slice A 64 c, .int .u8 x.toNat, .string msg] w fun e w' => ∃ v, e = .returned v ∧ OwnB w' w.heap.size v (xored b x ++ msg.data.toList) ∧ Below w.heap.size w w' := by
  have HR := Lib.hid hr
  have HL := Lib.hid hl
  have HM := Lib.hid hm
  have HML := Lib.hid (show msg.data.toList.length = msg.size from Array.length_toList)
  clear hr hl hm
  go_enter Tryd.func49, Tryd.ntmps49
  go_wp2_with fail
  go_loopw [7, 8] (fun v i wr => ∃ k : Nat, i = .int .i64 k ∧ k ≤ 64 ∧ Hid (OwnB wr w.heap.size v (xored (b.take k) x)) ∧ Hid (Below w.heap.size w wr))
    (fun _ i _ => 64 - (intOf i).toNat)
  case atStart => exact ⟨0, rfl, by omega, OwnB.nil _ _, Below.refl _ _⟩
  case round =>
    obtain ⟨k, rfl, hk, HO, HB⟩ := hrel
    by_cases hlt : k < 64
    · obtain ⟨y, hy⟩ : ∃ y, b[k]? = some y := ⟨b[k]'(by rw [HL.out]; exact hlt), List.getElem?_eq_getElem _⟩
      obtain ⟨bb, off, hA, hcell⟩ := (HR.out.below HB.out).at_ (k := k) (u := .int .u8 y.toNat) (by simp [bc, hy])
      subst hA
      have bk : (k : Int) < 64 := by omega
      have hst : xored (b.take k) x ++ [y ^^^ x] = xored (b.take (k + 1)) x := by
        obtain ⟨h1, h2⟩ := List.getElem?_eq_some_iff.1 hy
        unfold xored
        rw [List.take_succ_eq_append_getElem h1, List.map_append, h2]; rfl
      have hll : (xored (b.take k) x).length ≤ 64 := by rw [xored_len, List.length_take]; omega
      have HST := Lib.hid hst
      have HLL := Lib.hid hll
      clear hy hst hll
      go_wp2_with (at_builtin; refine wpList_push rfl (.tmp 15) (.tmp 22) rfl w.heap.size _ _ rfl HO.out _ (y ^^^ x) (xor_u8 y x) HB.out.size (by have := HLL.out; omega) rfl ?_; intro v3 w3 ho3 hb3; rw [HST.out] at ho3; have HO3 := Lib.hid ho3; have HB3 := Lib.hid (HB.out.trans hb3); clear ho3 hb3 HO HB hcell)
      go_roundw
      case rel => exact ⟨k + 1, by go_num, by omega, HO3.out, HB3.out⟩
      case measure => simp [intOf]; omega
    · obtain rfl : k = 64 := by omega
      have ho := HO.out
      rw [List.take_of_length_le (by rw [HL.out]; exact Nat.le_refl _)] at ho
      have HO2 := Lib.hid ho
      have HXL := Lib.hid (show (xored b x).length = 64 by rw [xored_len, HL.out])
      clear ho HO
      go_wp2_with (first | (refine wpList_bytes rfl (.tmp 25) rfl msg rfl ?_; intro A3 c3 w3 hr3 hc3 hb3; have HO3 := Lib.hid (OwnB.kept HO2.out hb3); have HB3 := Lib.hid (HB.out.trans (hb3.mono HB.out.size)); have HR3 := Lib.hid hr3; clear hr3 hc3 hb3 HO2 HB) | (at_builtin; refine wpList_pushB rfl (.tmp 24) (.tmp 26) rfl w.heap.size _ _ rfl HO3.out A3 c3 _ rfl HR3.out HB3.out.size (by rw [HXL.out, HML.out]; have := HM.out; omega) ?_; intro v4 w4 ho4 hb4; have HO4 := Lib.hid ho4; have HB4 := Lib.hid (HB3.out.trans hb4); clear ho4 hb4 HO3 HB3))
      go_ret
      exact ⟨_, rfl, HO4.out, HB4.out⟩
end Go.Proofs.YtoendbdpkkjjkaaDoor
