/- The reference: Sub. -/
import Derived.Test.YtkjnfobaoaaopaaGreatDoorRA
namespace Go.Proofs.YtkjnfobaoaaopaaGreatDoor
open Go.RowKit Hm Wm Wn

theorem rsub_step {L : List Nat} {a b k β d β2 : Nat} (hl : L.length = k) (h : v256 L + b % 256 ^ k = a % 256 ^ k + 256 ^ k * β) (hn : d + b / 256 ^ k % 256 + β = a / 256 ^ k % 256 + 256 * β2) :
    v256 (L ++ [d]) + b % 256 ^ (k + 1) = a % 256 ^ (k + 1) + 256 ^ (k + 1) * β2 := by
  rw [v256_snoc, hl, byte_step a k, byte_step b k, Nat.pow_succ, Nat.mul_assoc (256 ^ k) 256]
  have e : 256 ^ k * d + 256 ^ k * (b / 256 ^ k % 256) + 256 ^ k * β = 256 ^ k * (a / 256 ^ k % 256) + 256 ^ k * (256 * β2) := by rw [← Nat.mul_add, ← Nat.mul_add, hn, Nat.mul_add]
  omega
/-- The reference's Made. -/
def mdV (z : ByteArray) (k : Int) : Value := .agg #[.string z, .int .i64 k]
set_option maxRecDepth 100000 in
set_option maxHeartbeats 1000000 in
theorem rsub_low (s t : ByteArray) (w : World) (hs : s.size ≤ 100000) (ht : t.size ≤ 100000) (hlt : nB s < nB t) : Calls Tryz.prog 8 #[.string s, .string t] w fun e w' => e = .returned (mdV ⟨#[]⟩ 3) ∧ Below w.heap.size w w' := by
  have HC := Lib.hid (fun W => rcmp_any s t W hs ht)
  rw [show cmpN (nB s) (nB t) = -1 by unfold cmpN; rw [if_pos hlt]] at HC
  clear hs ht hlt
  go_enter Tryz.func8, Tryz.ntmps8
  go_wp2_with fail
  have HK0 := Lib.hid (Blk.new w 29 [.string ⟨#[]⟩, .int .i64 0])
  have HW0 := Lib.hid ((Below.refl w.heap.size w).alloc (Nat.le_refl _) (.cells #[.string ⟨#[]⟩, .int .i64 0] 29))
  refine (HC.out _).mono ?_
  rintro e w1 ⟨rfl, hw⟩
  subst hw
  go_wp2_with (refine wpList_store_all rfl 29 (.tmp 4) (.tmp 13) rfl w.heap.size _ [.string ⟨#[]⟩, .int .i64 0] [.string ⟨#[]⟩, .int .i64 3] rfl rfl HK0.out rfl md_size (md_one _ _) ?_; intro w9 HK9 ho9; have HO9 := Lib.hid ho9; clear ho9)
  exact bodyPost_ret (results_blk rfl _ _ w.heap.size _ [.string ⟨#[]⟩, .int .i64 3] _ rfl HK9.out Tryz.underlying29 rfl md_size) rfl ⟨rfl, HW0.out.trans (HO9.out.below (Nat.le_refl _))⟩
def RsR (w : World) (a b n : Nat) (ov bv kv : Value) (wr : World) : Prop :=
  ∃ (k β : Nat) (L : List Nat), bv = .int .i64 β ∧ kv = .int .i64 k ∧ k ≤ n ∧ Hid (OwnI wr (w.heap.size + 1) ov L) ∧ Hid (L.length = k) ∧ Hid (Byt L) ∧ Hid (β ≤ 1) ∧ Hid (v256 L + b % 256 ^ k = a % 256 ^ k + 256 ^ k * β) ∧ Hid (Below w.heap.size w wr) ∧ Hid (Blk wr w.heap.size 29 [.string ⟨#[]⟩, .int .i64 0]) ∧ Hid (w.heap.size + 1 ≤ wr.heap.size)
set_option maxRecDepth 100000 in
set_option maxHeartbeats 1000000 in
theorem rsub_any (s t : ByteArray) (w : World) (hs : s.size ≤ 50000) (ht : t.size ≤ 50000) (hle : nB t ≤ nB s) : Calls Tryz.prog 8 #[.string s, .string t] w fun e w' => e = .returned (mdV (cS (nB s - nB t)) 0) ∧ Below w.heap.size w w' := by
  have HC := Lib.hid (fun W => rcmp_any s t W (by omega) (by omega))
  obtain ⟨cv, hcv⟩ : ∃ c, cmpN (nB s) (nB t) = c := ⟨_, rfl⟩
  have d0 : decide (cv < 0) = false := by
    refine decide_eq_false ?_
    rw [← hcv]; unfold cmpN; rw [if_neg (by omega)]; split <;> omega
  rw [hcv] at HC
  have HP := Lib.hid (show nB s < 256 ^ s.size from nB_lt s)
  have HD1 := Lib.hid (fun k W (h : k ≤ 100000) => rdigit_any s k W (by omega) h)
  have HD2 := Lib.hid (fun k W (h : k ≤ 100000) => rdigit_any t k W (by omega) h)
  have HLE := Lib.hid hle
  generalize nB s = a at HP HD1 HLE ⊢
  generalize nB t = b at HD2 HLE ⊢
  clear hle hcv ht
  go_enter Tryz.func8, Tryz.ntmps8
  go_wp2_with fail
  refine (HC.out _).mono ?_
  rintro e w1 ⟨rfl, hw⟩
  subst hw
  go_wp2_with fail
  go_loopw [5, 6, 7] (RsR w a b s.size) (fun _ _ kv _ => s.size - (intOf kv).toNat)
  case atStart => exact ⟨0, 0, [], rfl, rfl, by omega, Lib.hid (OwnI.nil _ _), Lib.hid rfl, Lib.hid (fun _ h => by cases h), Lib.hid (by omega), Lib.hid (by simp [v256, Nat.mod_one]), Lib.hid ((Below.refl _ _).alloc (Nat.le_refl _) _), Lib.hid (Blk.new w 29 [.string ⟨#[]⟩, .int .i64 0]), Lib.hid (by simp)⟩
  case round =>
    obtain ⟨k, β, L, rfl, rfl, hk, HO, HL, HB, HBT, HV, HW, HZ, HSZ⟩ := hrel
    by_cases hlt : k < s.size
    · have c1 : decide ((k : Int) < (s.size : Int)) = true := decide_eq_true (by omega)
      have c1' : decide (k < s.size) = true := decide_eq_true hlt
      obtain ⟨da, hda⟩ : ∃ d, a / 256 ^ k % 256 = d := ⟨_, rfl⟩
      obtain ⟨db, hdb⟩ : ∃ d, b / 256 ^ k % 256 = d := ⟨_, rfl⟩
      have hβ := HBT.out
      have h1 : da < 256 := by omega
      have h2 : db < 256 := by omega
      obtain ⟨z1, hz1⟩ : ∃ z, (da : Int) - (db : Int) = z := ⟨_, rfl⟩
      obtain ⟨z2, hz2⟩ : ∃ z, z1 - (β : Int) = z := ⟨_, rfl⟩
      have HF1 := Lib.hid (fun W => HD1.out k W (by omega))
      have HF2 := Lib.hid (fun W => HD2.out k W (by omega))
      have hst := fun d β2 h => rsub_step (d := d) (β2 := β2) HL.out HV.out h
      rw [hda] at HF1 hst
      rw [hdb] at HF2 hst
      have HA1 := Lib.hid (fun W => run_subZ da db z1 W hz1 (by omega))
      have HA2 := Lib.hid (fun W => run_subZ z1 β z2 W hz2 (by omega))
      have HLL := Lib.hid (show L.length ≤ 1000000 by rw [HL.out]; omega)
      by_cases hneg : z2 < 0
      · have c2 : decide (z2 < 0) = true := decide_eq_true hneg
        obtain ⟨d, hd⟩ : ∃ d : Nat, z2 + 256 = (d : Int) := ⟨(z2 + 256).toNat, by omega⟩
        have HA3 := Lib.hid (fun W => run_addZ z2 256 d W hd (by omega))
        have HST := Lib.hid (hst d 1 (by omega))
        have HB2 := Lib.hid (byt_snoc (d := d) HB.out (by omega))
        have HL2 := Lib.hid (show (L ++ [d]).length = k + 1 by rw [List.length_append, HL.out]; rfl)
        clear hda hdb hβ h1 h2 hz1 hz2 hst hneg hd HV HB HBT
        go_wp2_with fail
        refine (HF1.out wr).mono ?_
        rintro e w2 ⟨rfl, hw⟩
        obtain rfl : wr = w2 := hw.symm
        clear hw
        go_wp2_with fail
        refine (HF2.out wr).mono ?_
        rintro e w2 ⟨rfl, hw⟩
        obtain rfl : wr = w2 := hw.symm
        clear hw
        go_wp2_with (first
          | (refine wpList_dst 26 rfl ?_; refine wpList_run 26 rfl rfl _ (exec_bin .sub 3 _ (.tmp 22) (.tmp 25) rfl _ _ _ rfl rfl rfl (HA1.out _)) ?_)
          | (refine wpList_dst 28 rfl ?_; refine wpList_run 28 rfl rfl _ (exec_bin .sub 3 _ (.tmp 26) (.tmp 27) rfl _ _ _ rfl rfl rfl (HA2.out _)) ?_)
          | (refine wpList_dst 32 rfl ?_; refine wpList_run 32 rfl rfl _ (exec_bin .add 3 _ (.tmp 31) (.const (.int .i64 256)) rfl _ _ _ rfl rfl rfl (HA3.out _)) ?_)
          | (refine wpList_dst 36 rfl ?_; refine wpList_pushI rfl (.tmp 33) (.tmp 35) rfl (w.heap.size + 1) _ L rfl HO.out d HSZ.out HLL.out rfl ?_; intro v' w3 ho hb; have HO2 := Lib.hid ho; have HW2 := Lib.hid (HW.out.trans (hb.mono (Nat.le_succ _))); have HZ2 := Lib.hid (HZ.out.below hb (Nat.lt_succ_self _)); have HSZ2 := Lib.hid (Nat.le_trans HSZ.out hb.size); clear ho hb))
        go_roundw
        case rel => exact ⟨k + 1, 1, L ++ [d], rfl, by go_num, by omega, HO2, HL2, HB2, Lib.hid (Nat.le_refl _), HST, HW2, HZ2, HSZ2⟩
        case measure => simp [intOf]; omega
      · have c2 : decide (z2 < 0) = false := decide_eq_false hneg
        obtain ⟨d, hd⟩ : ∃ d : Nat, z2 = (d : Int) := ⟨z2.toNat, by omega⟩
        have HST := Lib.hid (hst d 0 (by omega))
        have HB2 := Lib.hid (byt_snoc (d := d) HB.out (by omega))
        have HL2 := Lib.hid (show (L ++ [d]).length = k + 1 by rw [List.length_append, HL.out]; rfl)
        clear hda hdb hβ h1 h2 hz1 hz2 hst hneg HV HB HBT
        subst hd
        go_wp2_with fail
        refine (HF1.out wr).mono ?_
        rintro e w2 ⟨rfl, hw⟩
        obtain rfl : wr = w2 := hw.symm
        clear hw
        go_wp2_with fail
        refine (HF2.out wr).mono ?_
        rintro e w2 ⟨rfl, hw⟩
        obtain rfl : wr = w2 := hw.symm
        clear hw
        go_wp2_with (first
          | (refine wpList_dst 26 rfl ?_; refine wpList_run 26 rfl rfl _ (exec_bin .sub 3 _ (.tmp 22) (.tmp 25) rfl _ _ _ rfl rfl rfl (HA1.out _)) ?_)
          | (refine wpList_dst 28 rfl ?_; refine wpList_run 28 rfl rfl _ (exec_bin .sub 3 _ (.tmp 26) (.tmp 27) rfl _ _ _ rfl rfl rfl (HA2.out _)) ?_)
          | (refine wpList_dst 36 rfl ?_; refine wpList_pushI rfl (.tmp 33) (.tmp 35) rfl (w.heap.size + 1) _ L rfl HO.out d HSZ.out HLL.out rfl ?_; intro v' w3 ho hb; have HO2 := Lib.hid ho; have HW2 := Lib.hid (HW.out.trans (hb.mono (Nat.le_succ _))); have HZ2 := Lib.hid (HZ.out.below hb (Nat.lt_succ_self _)); have HSZ2 := Lib.hid (Nat.le_trans HSZ.out hb.size); clear ho hb))
        go_roundw
        case rel => exact ⟨k + 1, 0, L ++ [d], rfl, by go_num, by omega, HO2, HL2, HB2, Lib.hid (by omega), HST, HW2, HZ2, HSZ2⟩
        case measure => simp [intOf]; omega
    · obtain rfl : k = s.size := by omega
      have c1 : decide ((s.size : Int) < (s.size : Int)) = false := decide_eq_false (by omega)
      have c1' : decide (s.size < s.size) = false := decide_eq_false (by omega)
      have hv : v256 L = a - b := by
        have h1 := HV.out
        have h2 := HP.out
        have h3 := HLE.out
        have h4 := v256_lt HB.out
        rw [HL.out] at h4
        rw [Nat.mod_eq_of_lt (by omega), Nat.mod_eq_of_lt (by omega)] at h1
        have hc : β = 0 := by
          rcases Nat.eq_zero_or_pos β with h | h
          · exact h
          · have : β = 1 := by have := HBT.out; omega
            subst this
            omega
        subst hc
        omega
      obtain ⟨A, cc, hov, hri⟩ := HO.out.form
      subst hov
      have hnum := rnumber_any A cc L wr hri (by rw [HL.out]; omega) HB.out
      rw [hv] at hnum
      have HN := Lib.hid hnum
      clear hv hri hnum HV HO
      go_wp2_with fail
      refine HN.out.mono ?_
      rintro e w2 ⟨rfl, hb⟩
      have HW2 := Lib.hid (HW.out.trans (hb.mono HW.out.size))
      have HZ2 := Lib.hid (HZ.out.next hb)
      clear hb
      go_wp2_with (refine wpList_store_all rfl 29 (.tmp 4) (.tmp 39) rfl w.heap.size _ [.string ⟨#[]⟩, .int .i64 0] [.string (cS (a - b)), .int .i64 0] rfl rfl HZ2.out rfl md_size (md_one _ _) ?_; intro w9 HK9 ho9; have HO9 := Lib.hid ho9; clear ho9)
      exact bodyPost_ret (results_blk rfl _ _ w.heap.size _ [.string (cS (a - b)), .int .i64 0] _ rfl HK9.out Tryz.underlying29 rfl md_size) rfl ⟨rfl, HW2.out.trans (HO9.out.below (Nat.le_refl _))⟩
end Go.Proofs.YtkjnfobaoaaopaaGreatDoor
