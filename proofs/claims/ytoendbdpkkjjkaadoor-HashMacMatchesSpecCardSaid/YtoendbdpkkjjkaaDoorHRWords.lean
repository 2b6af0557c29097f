/- The reference's padded message and the words of a block. -/
import Derived.Test.YtoendbdpkkjjkaaDoorHSep
namespace Go.Proofs.YtoendbdpkkjjkaaDoor
open Go.RowKit Hm Wm

theorem rrot_z (x : UInt32) (z : Int) (w : World) (h0 : 0 < z) (h1 : z < 32) : Calls Tryd.prog 38 #[.int .u32 x.toNat, .int .i64 z] w fun e w' => e = .returned (.int .u32 (rotr x z.toNat).toNat) ∧ ∃ k, w' = w.drewN k := by
  have h := rrotr_any x z.toNat w (by omega) (by omega)
  rwa [show ((z.toNat : Nat) : Int) = z from by omega] at h
theorem wp_forget1 {P : Program} {c : Code} {Q : Exit → Act → World → Prop} {a : Act} {w : World} (n : Nat) (h : ∀ w9 : World, w9 = w.drewN n → Code.wp P c Q a w9) : Code.wp P c Q a (w.drewN n) := h _ rfl
theorem be_len (n : Nat) : (numB n 8).length = 8 := numB_len n 8
theorem numB_at (n i : Nat) (h : i < 8) : (numB n 8)[i]? = some (UInt8.ofNat (n / 2 ^ (56 - 8 * i))) := by
  rw [numB8]
  unfold be8
  match i, h with
  | 0, _ => simp
  | 1, _ => simp
  | 2, _ => simp
  | 3, _ => simp
  | 4, _ => simp
  | 5, _ => simp
  | 6, _ => simp
  | 7, _ => simp

set_option maxRecDepth 100000 in
set_option maxHeartbeats 1000000 in
theorem padded_any (A : Option Addr) (c : Nat) (m : List UInt8) (w : World) (hr : Rd w A (bc m)) (hl : m.length ≤ 1000000) :
    Calls Tryd.prog 36 #[.slice A m.length c] w fun e w' => ∃ v, e = .returned v ∧ OwnB w' w.heap.size v (full m) ∧ Below w.heap.size w w' := by
  obtain ⟨z, hz⟩ : ∃ z, z = (119 - m.length % 64) % 64 := ⟨_, rfl⟩
  have HZ := Lib.hid hz
  have HML := Lib.hid hl
  have HP := Lib.hid (pad_eq m.length z hz)
  have hb0 := (Below.refl w.heap.size w).alloc (Nat.le_refl _) (.cells #[] 5)
  have HO := Lib.hid (own_empty w 0 #[] rfl (by omega))
  have HB := Lib.hid hb0
  have HR1 := Lib.hid (hr.below hb0)
  clear hr hb0 hz
  go_enter Tryd.func36, Tryd.ntmps36
  go_wp2_with (first | (at_builtin; refine wpList_pushB rfl (.tmp 6) (.tmp 7) rfl w.heap.size _ [] rfl HO.out A c m rfl HR1.out HB.out.size (by have := HML.out; simp; omega) ?_; intro v1 w1 ho1 hb1; rw [List.nil_append] at ho1; have HO1 := Lib.hid ho1; have HB1 := Lib.hid (HB.out.trans hb1); clear ho1 hb1 HO HB HR1) | (at_builtin; refine wpList_push rfl (.tmp 9) (.tmp 10) rfl w.heap.size v1 m rfl HO1.out _ 128 rfl HB1.out.size (by have := HML.out; omega) rfl ?_; intro v2 w2 ho2 hb2; have HO2 := Lib.hid ho2; have HB2 := Lib.hid (HB1.out.trans hb2); clear ho2 hb2 HO1 HB1))
  go_loopw [3] (fun v wr => ∃ (j L : Nat) (cp : Nat) (ad : Option Addr), v = .slice ad L cp ∧ L = m.length + 1 + j ∧ j ≤ z ∧ Hid (OwnB wr w.heap.size (.slice ad L cp) (m ++ [128] ++ List.replicate j 0)) ∧ Hid (Below w.heap.size w wr))
    (fun v _ => m.length + 1 + z - sliceLen v)
  case atStart =>
    obtain ⟨ad, cp, hv, _, _⟩ := own_out HO2.out
    have ho := HO2.out
    rw [show (m ++ [(128 : UInt8)]).length = m.length + 1 from by simp] at hv
    subst hv
    exact ⟨0, _, cp, ad, rfl, by omega, Nat.zero_le _, (by show OwnB _ _ _ _; simpa using ho), HB2.out⟩
  case round =>
    clear HO2 HB2
    obtain ⟨j, L, cp, ad, rfl, hL, hj, HO, HB⟩ := hrel
    have bL : (L : Int) ≤ 2000000 := by have := HZ.out; omega
    by_cases hjz : j < z
    · have hne : (((L : Int) % 64) == 56) = false := by have := HZ.out; simp; omega
      have hne2 : (((L : Int) % 64) != 56) = true := by unfold bne; rw [hne]; rfl
      have HLL := Lib.hid hL
      clear hL
      go_wp2_with (at_builtin; refine wpList_push rfl (.tmp 16) (.tmp 17) rfl w.heap.size _ (m ++ [128] ++ List.replicate j 0) rfl HO.out _ 0 rfl HB.out.size (by have := HML.out; have := HZ.out; simp; omega) rfl ?_; intro v3 w3 ho3 hb3; have HO3 := Lib.hid ho3; have HB3 := Lib.hid (HB.out.trans hb3); clear ho3 hb3 HO HB)
      obtain ⟨ad3, cp3, hv, _, _⟩ := own_out HO3.out
      have ho := HO3.out
      have hl3 := HLL.out
      have hl4 : (m ++ [(128 : UInt8)] ++ List.replicate j 0 ++ [0]).length = L + 1 := by (simp; omega)
      rw [hl4] at hv
      clear hl4
      rw [List.append_assoc, ← List.replicate_succ'] at ho
      subst hv
      have HO4 := Lib.hid ho
      clear ho HO3 hl3
      go_roundw
      case rel => exact ⟨j + 1, L + 1, cp3, ad3, rfl, by have := HLL.out; omega, by omega, HO4.out, HB3.out⟩
      case measure => have := HLL.out; simp [sliceLen]; omega
    · have hne : (((L : Int) % 64) == 56) = true := by have := HZ.out; simp; omega
      have hne2 : (((L : Int) % 64) != 56) = false := by unfold bne; rw [hne]; rfl
      obtain rfl : j = z := by omega
      clear hL hjz
      go_wp2_with fail
      obtain ⟨N, hN⟩ : ∃ N, 8 * m.length = N := ⟨_, rfl⟩
      have hNi : 8 * (m.length : Int) = (N : Int) := by omega
      rw [hN] at HP
      rw [hNi]
      have bN : (N : Int) ≤ 8000000 := by omega
      have HNL := Lib.hid (show N < 18446744073709551616 by omega)
      have HPM := HP
      rw [Nat.mod_eq_of_lt HNL.out] at HPM
      clear hN hNi HP
      go_loopw [3, 5] (fun v i wr => ∃ k : Nat, i = .int .i64 k ∧ k ≤ 8 ∧ Hid (OwnB wr w.heap.size v (m ++ [128] ++ List.replicate j 0 ++ (numB N 8).take k)) ∧ Hid (Below w.heap.size w wr))
        (fun _ i _ => 8 - (intOf i).toNat)
      case atStart => exact ⟨0, rfl, by omega, (by show OwnB _ _ _ _; simpa using HO.out), HB.out⟩
      case round =>
        clear HO HB
        obtain ⟨k, rfl, hk, HO, HB⟩ := hrel
        by_cases hlt : k < 8
        · have hst : (numB N 8).take k ++ [UInt8.ofNat (N / 2 ^ (56 - 8 * k))] = (numB N 8).take (k + 1) := by
            obtain ⟨h1, h2⟩ := List.getElem?_eq_some_iff.1 (numB_at N k hlt)
            rw [List.take_succ_eq_append_getElem h1, h2]
          have HST := Lib.hid hst
          obtain ⟨sh, hsh⟩ : ∃ sh : Nat, 56 - 8 * k = sh := ⟨_, rfl⟩
          have esh : (56 : Int) - 8 * (k : Int) = (sh : Int) := by omega
          have bsh : (sh : Int) ≤ 56 := by omega
          rw [hsh] at HST
          clear hst hsh
          go_wp2_with (at_builtin; refine wpList_push rfl (.tmp 27) (.tmp 34) rfl w.heap.size _ (m ++ [128] ++ List.replicate j 0 ++ (numB N 8).take k) rfl HO.out _ (UInt8.ofNat (N / 2 ^ sh)) ?c1 HB.out.size ?c2 rfl ?_; rotate_left 2; intro v3 w3 ho3 hb3; rw [List.append_assoc, HST.out] at ho3; have HO3 := Lib.hid ho3; have HB3 := Lib.hid (HB.out.trans hb3); clear ho3 hb3 HO HB)
          case c1 => rw [UInt8.toNat_ofNat']; simp
          case c2 => have h1 := HML.out; have h2 := HZ.out; simp; omega
          go_roundw
          case rel => exact ⟨k + 1, by go_num, by omega, HO3.out, HB3.out⟩
          case measure => simp [intOf]; omega
        · obtain rfl : k = 8 := by omega
          have ho := HO.out
          rw [List.take_of_length_le (by rw [be_len]; exact Nat.le_refl _)] at ho
          have hf : m ++ [128] ++ List.replicate j 0 ++ numB N 8 = full m := by
            unfold full
            rw [← HPM.out]
            simp
          rw [hf] at ho
          have HO2 := Lib.hid ho
          clear ho HO hf
          go_wp2
          go_ret
          exact ⟨_, rfl, HO2.out, HB.out⟩
end Go.Proofs.YtoendbdpkkjjkaaDoor
