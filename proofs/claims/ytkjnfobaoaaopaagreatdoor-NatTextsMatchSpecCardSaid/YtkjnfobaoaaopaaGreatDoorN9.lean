/- Cmp, Add, Mul, Sub, Valid, Int and Value. -/
import Derived.Test.YtkjnfobaoaaopaaGreatDoorN8
namespace Go.Proofs.YtkjnfobaoaaopaaGreatDoor
open Go.RowKit Hm Wm Wn

/-- The number of a string; the canonical string of a number. -/
def nB (s : ByteArray) : Nat := numB s.data.toList
def cS (n : Nat) : ByteArray := sb (canS n)
theorem nB_cS (n : Nat) : nB (cS n) = n := by unfold nB cS; rw [sb_list, numB_canS]
theorem cS_inj {m n : Nat} (h : cS m = cS n) : m = n := by rw [← nB_cS m, h, nB_cS]
theorem nB_lt (s : ByteArray) : nB s < 256 ^ s.size := by have := numB_lt s.data.toList; rwa [show s.data.toList.length = s.size from Array.length_toList] at this
theorem canS_nB (s : ByteArray) : (canS (nB s)).length ≤ s.size := canS_len_le (nB_lt s)
theorem digW_256 {n k : Nat} (h : n < 256 ^ k) : (digW n).length ≤ k := by
  refine digW_len (Nat.lt_of_lt_of_le h ?_)
  rw [B_256, ← Nat.pow_mul]
  exact Nat.pow_le_pow_right (by decide) (by omega)
theorem digW_nB (s : ByteArray) : (digW (nB s)).length ≤ s.size := digW_256 (nB_lt s)
theorem readN (s : ByteArray) (w : World) (hs : s.size ≤ 100000) : Calls Tryz.prog 31 #[.string s] w fun e w' => ∃ v, e = .returned v ∧ NewW w' (nB s) v ∧ Below w.heap.size w w' :=
  read_any s w (Nat.le_trans (canS_nB s) hs)
theorem textN (n : Nat) (A : Option Addr) (c : Nat) (w : World) (hr : RdW w A (digW n)) (hl : (digW n).length ≤ 100000) : Calls Tryz.prog 32 #[.slice A (digW n).length c] w fun e w' => e = .returned (.string (cS n)) ∧ Below w.heap.size w w' := by
  have h := text_any A c (digW n) w hr (dig_digW n) hl
  rwa [num_digW] at h
theorem plusN (m n : Nat) (A : Option Addr) (c : Nat) (A2 : Option Addr) (c2 : Nat) (w : World) (hr : RdW w A (digW m)) (hr2 : RdW w A2 (digW n)) (hl : (digW m).length ≤ 100000) (hl2 : (digW n).length ≤ 100000) :
    Calls Tryz.prog 39 #[.slice A (digW m).length c, .slice A2 (digW n).length c2] w fun e w' => ∃ v, e = .returned v ∧ NewW w' (m + n) v ∧ Below w.heap.size w w' := by
  have h := plus_any A c (digW m) A2 c2 (digW n) w hr hr2 (dig_digW m) (dig_digW n) hl hl2
  rwa [num_digW, num_digW] at h
theorem timesN (m n : Nat) (A : Option Addr) (c : Nat) (A2 : Option Addr) (c2 : Nat) (w : World) (hr : RdW w A (digW m)) (hr2 : RdW w A2 (digW n)) (hl : (digW m).length ≤ 100000) (hl2 : (digW n).length ≤ 100000) :
    Calls Tryz.prog 40 #[.slice A (digW m).length c, .slice A2 (digW n).length c2] w fun e w' => ∃ v, e = .returned v ∧ NewW w' (m * n) v ∧ Below w.heap.size w w' := by
  have h := times_any A c (digW m) A2 c2 (digW n) w hr hr2 (dig_digW m) (dig_digW n) hl hl2
  rwa [num_digW, num_digW] at h
theorem lessN (m f n g : Nat) (A : Option Addr) (c : Nat) (A2 : Option Addr) (c2 : Nat) (w : World) (hr : RdW w A (digW m)) (hr2 : RdW w A2 (digW n)) (hf : f < B) (hg : g < B) (hl : (digW m).length ≤ 100000) (hl2 : (digW n).length ≤ 100000) (hle : g * n ≤ f * m) :
    Calls Tryz.prog 30 #[.slice A (digW m).length c, .int .u64 f, .slice A2 (digW n).length c2, .int .u64 g] w fun e w' => ∃ v, e = .returned v ∧ NewW w' (f * m - g * n) v ∧ Below w.heap.size w w' := by
  have h := less_any A c (digW m) f A2 c2 (digW n) g w hr hr2 (dig_digW m) (dig_digW n) hf hg hl hl2 (by rw [num_digW, num_digW]; exact hle)
  rwa [num_digW, num_digW] at h
theorem sum_lenK {s t : ByteArray} {K : Nat} (hs : s.size ≤ K) (ht : t.size ≤ K) : (digW (nB s + nB t)).length ≤ K + 1 := by
  have h1 : nB s < 256 ^ K := Nat.lt_of_lt_of_le (nB_lt s) (Nat.pow_le_pow_right (by decide) hs)
  have h2 : nB t < 256 ^ K := Nat.lt_of_lt_of_le (nB_lt t) (Nat.pow_le_pow_right (by decide) ht)
  have h3 : nB s + nB t < 256 ^ (K + 1) := by rw [Nat.pow_succ]; omega
  exact digW_256 h3
theorem prod_lenK {s t : ByteArray} {K : Nat} (hs : s.size ≤ K) (ht : t.size ≤ K) : (digW (nB s * nB t)).length ≤ K + K := by
  have h1 : nB s < 256 ^ K := Nat.lt_of_lt_of_le (nB_lt s) (Nat.pow_le_pow_right (by decide) hs)
  have h2 : nB t < 256 ^ K := Nat.lt_of_lt_of_le (nB_lt t) (Nat.pow_le_pow_right (by decide) ht)
  have h3 : nB s * nB t < 256 ^ (K + K) := by
    rw [Nat.pow_add]
    exact Nat.mul_lt_mul_of_lt_of_le h1 (Nat.le_of_lt h2) (Nat.pow_pos (by decide))
  exact digW_256 h3
theorem sum_len {s t : ByteArray} (hs : s.size ≤ 40000) (ht : t.size ≤ 40000) : (digW (nB s + nB t)).length ≤ 100000 := Nat.le_trans (sum_lenK hs ht) (by omega)
theorem prod_len {s t : ByteArray} (hs : s.size ≤ 40000) (ht : t.size ≤ 40000) : (digW (nB s * nB t)).length ≤ 100000 := Nat.le_trans (prod_lenK hs ht) (by omega)
theorem dif_len {s : ByteArray} (k : Nat) (hs : s.size ≤ 40000) : (digW (nB s - k)).length ≤ 100000 :=
  Nat.le_trans (digW_256 (Nat.lt_of_le_of_lt (Nat.sub_le _ _) (nB_lt s))) (by omega)
/-- The order of two numbers. -/
def cmpN (a b : Nat) : Int := if a < b then -1 else if b < a then 1 else 0
theorem cmpB_num : ∀ {s t : List UInt8}, s.length = t.length → Lib.compareBytes s t = cmpN (numB s) (numB t) := by
  intro s
  induction s with
  | nil => intro t h; obtain rfl : t = [] := List.eq_nil_of_length_eq_zero h.symm; rfl
  | cons b s ih =>
    intro t h
    rcases t with _ | ⟨c, t⟩
    · simp at h
    · simp only [List.length_cons, Nat.add_right_cancel_iff] at h
      have h1 := numB_lt s
      have h2 := numB_lt t
      rw [← h] at h2
      unfold Lib.compareBytes
      rw [numB_cons, numB_cons, ← h]
      generalize 256 ^ s.length = p at *
      by_cases hbc : b < c
      · rw [if_pos hbc]
        have h3 : b.toNat < c.toNat := UInt8.lt_iff_toNat_lt.1 hbc
        have h4 : (b.toNat + 1) * p ≤ c.toNat * p := Nat.mul_le_mul_right _ h3
        rw [Nat.add_mul, Nat.one_mul] at h4
        unfold cmpN
        rw [if_pos (by omega)]
      · rw [if_neg hbc]
        by_cases hcb : c < b
        · rw [if_pos hcb]
          have h3 : c.toNat < b.toNat := UInt8.lt_iff_toNat_lt.1 hcb
          have h4 : (c.toNat + 1) * p ≤ b.toNat * p := Nat.mul_le_mul_right _ h3
          rw [Nat.add_mul, Nat.one_mul] at h4
          unfold cmpN
          rw [if_neg (by omega), if_pos (by omega)]
        · rw [if_neg hcb]
          have h3 : b.toNat = c.toNat := by
            have e1 : ¬ b.toNat < c.toNat := fun h => hbc (UInt8.lt_iff_toNat_lt.2 h)
            have e2 : ¬ c.toNat < b.toNat := fun h => hcb (UInt8.lt_iff_toNat_lt.2 h)
            omega
          rw [ih h, h3]
          unfold cmpN
          congr 1
          · exact propext (by omega)
          · congr 1
            exact propext (by omega)
theorem cmp_less {a b : Nat} (h : (canS a).length < (canS b).length) : a < b := by
  have h1 := canS_len_lt a
  have hb : b ≠ 0 := by rintro rfl; rw [canS_zero] at h; simp at h
  have h2 := canS_len_ge hb
  have h3 : 256 ^ (canS a).length ≤ 256 ^ ((canS b).length - 1) := Nat.pow_le_pow_right (by decide) (by omega)
  omega
theorem cS_size (n : Nat) : (cS n).size = (canS n).length := sb_size _
set_option maxRecDepth 100000 in
set_option maxHeartbeats 400000 in
theorem cmp_any (s t : ByteArray) (w : World) : Calls Tryz.prog 14 #[.string s, .string t] w fun e w' => e = .returned (.int .i64 (cmpN (nB s) (nB t))) ∧ w' = w := by
  have HC1 := Lib.hid (fun W => clean_any s W)
  have HC2 := Lib.hid (fun W => clean_any t W)
  have hcm := fun W => Tryz.cmp_Compare_int ((cS (nB s)).size : Int) ((cS (nB t)).size : Int) W
  have hcs := fun W => Tryz.strings_Compare (cS (nB s)) (cS (nB t)) W
  have e1 : (cS (nB s)).data.toList = canS (nB s) := sb_list _
  have e2 : (cS (nB t)).data.toList = canS (nB t) := sb_list _
  rw [e1, e2] at hcs
  change Hid (∀ W, Calls Tryz.prog 12 #[.string s] W fun e w' => e = .returned (.string (cS (nB s))) ∧ w' = W) at HC1
  change Hid (∀ W, Calls Tryz.prog 12 #[.string t] W fun e w' => e = .returned (.string (cS (nB t))) ∧ w' = W) at HC2
  have hlo := cmp_less (a := nB s) (b := nB t)
  have hhi := cmp_less (a := nB t) (b := nB s)
  have heq := fun h => cmpB_num (s := canS (nB s)) (t := canS (nB t)) h
  rw [numB_canS, numB_canS] at heq
  have z1 := cS_size (nB s)
  have z2 := cS_size (nB t)
  rw [← z1, ← z2] at hlo heq
  rw [← z1, ← z2] at hhi
  generalize canS (nB s) = l1 at *
  generalize canS (nB t) = l2 at *
  clear e1 e2 z1 z2
  obtain ⟨a, ha⟩ : ∃ a, cS (nB s) = a := ⟨_, rfl⟩
  obtain ⟨b, hb⟩ : ∃ b, cS (nB t) = b := ⟨_, rfl⟩
  rw [ha] at hcm hcs hlo hhi heq HC1
  rw [hb] at hcm hcs hlo hhi heq HC2
  generalize nB s = m at *
  generalize nB t = n at *
  have HCM := Lib.hid hcm
  have HCS := Lib.hid hcs
  have HLO := Lib.hid hlo
  have HHI := Lib.hid hhi
  have HEQ := Lib.hid heq
  clear hcm hcs hlo hhi heq ha hb
  go_enter Tryz.func14, Tryz.ntmps14
  go_wp2_with fail
  refine (HC1.out _).mono ?_
  rintro e w1 ⟨rfl, hw⟩
  obtain rfl : w = w1 := hw.symm
  go_wp2_with fail
  refine (HC2.out _).mono ?_
  rintro e w1 ⟨rfl, hw⟩
  obtain rfl : w = w1 := hw.symm
  go_wp2_with fail
  refine (HCM.out _).mono ?_
  rintro e w1 ⟨rfl, hw⟩
  obtain rfl : w = w1 := hw.symm
  rcases Nat.lt_trichotomy a.size b.size with hab | hab | hab
  · have e1 : Lib.compareInt (a.size : Int) (b.size : Int) = -1 := by unfold Lib.compareInt; rw [if_pos (by omega)]
    have e2 : cmpN m n = -1 := by unfold cmpN; rw [if_pos (HLO.out hab)]
    rw [e1]
    have HE := Lib.hid e2
    clear e1 e2
    go_wp2
    go_ret
    exact ⟨by rw [HE.out]; rfl, rfl⟩
  · have e1 : Lib.compareInt (a.size : Int) (b.size : Int) = 0 := by unfold Lib.compareInt; rw [if_neg (by omega), if_neg (by omega)]
    rw [e1]
    have HE := Lib.hid (HEQ.out hab)
    clear e1
    go_wp2_with fail
    refine (HCS.out _).mono ?_
    rintro e w1 ⟨rfl, hw⟩
    obtain rfl : w = w1 := hw.symm
    go_wp2
    go_ret
    exact ⟨by rw [← HE.out]; rfl, rfl⟩
  · have e1 : Lib.compareInt (a.size : Int) (b.size : Int) = 1 := by unfold Lib.compareInt; rw [if_neg (by omega), if_pos (by omega)]
    have e2 : cmpN m n = 1 := by have := HHI.out hab; unfold cmpN; rw [if_neg (by omega), if_pos this]
    rw [e1]
    have HE := Lib.hid e2
    clear e1 e2
    go_wp2
    go_ret
    exact ⟨by rw [HE.out]; rfl, rfl⟩
set_option maxRecDepth 100000 in
set_option maxHeartbeats 400000 in
theorem add_any (s t : ByteArray) (w : World) (hs : s.size ≤ 40000) (ht : t.size ≤ 40000) : Calls Tryz.prog 16 #[.string s, .string t] w fun e w' => e = .returned (.string (cS (nB s + nB t))) ∧ Below w.heap.size w w' := by
  have hd1 := digW_nB s
  have hd2 := digW_nB t
  go_enter Tryz.func16, Tryz.ntmps16
  go_wp2_with fail
  refine (readN s w (by omega)).mono ?_
  rintro e w1 ⟨v1, rfl, ⟨A1, c1, rfl, h1, -⟩, hb1⟩
  have HR1 := Lib.hid h1
  have HB1 := Lib.hid hb1
  clear h1 hb1
  go_wp2_with fail
  refine (readN t w1 (by omega)).mono ?_
  rintro e w2 ⟨v2, rfl, ⟨A2, c2, rfl, h2, -⟩, hb2⟩
  replace HR1 := Lib.hid (HR1.out.next hb2)
  have HR2 := Lib.hid h2
  have HB2 := Lib.hid (HB1.out.trans (hb2.mono HB1.out.size))
  clear h2 hb2
  go_wp2_with fail
  refine (plusN (nB s) (nB t) A1 c1 A2 c2 w2 HR1.out HR2.out (by omega) (by omega)).mono ?_
  rintro e w3 ⟨v3, rfl, ⟨A3, c3, rfl, h3, -⟩, hb3⟩
  have HR3 := Lib.hid h3
  have HB3 := Lib.hid (HB2.out.trans (hb3.mono HB2.out.size))
  clear h3 hb3
  go_wp2_with fail
  refine (textN (nB s + nB t) A3 c3 w3 HR3.out (sum_len hs ht)).mono ?_
  rintro e w4 ⟨rfl, hb4⟩
  have HB4 := Lib.hid (HB3.out.trans (hb4.mono HB3.out.size))
  clear hb4
  go_wp2
  go_ret
  exact ⟨rfl, HB4.out⟩
set_option maxRecDepth 100000 in
set_option maxHeartbeats 400000 in
theorem mul_any (s t : ByteArray) (w : World) (hs : s.size ≤ 40000) (ht : t.size ≤ 40000) : Calls Tryz.prog 18 #[.string s, .string t] w fun e w' => e = .returned (.string (cS (nB s * nB t))) ∧ Below w.heap.size w w' := by
  have hd1 := digW_nB s
  have hd2 := digW_nB t
  go_enter Tryz.func18, Tryz.ntmps18
  go_wp2_with fail
  refine (readN s w (by omega)).mono ?_
  rintro e w1 ⟨v1, rfl, ⟨A1, c1, rfl, h1, -⟩, hb1⟩
  have HR1 := Lib.hid h1
  have HB1 := Lib.hid hb1
  clear h1 hb1
  go_wp2_with fail
  refine (readN t w1 (by omega)).mono ?_
  rintro e w2 ⟨v2, rfl, ⟨A2, c2, rfl, h2, -⟩, hb2⟩
  replace HR1 := Lib.hid (HR1.out.next hb2)
  have HR2 := Lib.hid h2
  have HB2 := Lib.hid (HB1.out.trans (hb2.mono HB1.out.size))
  clear h2 hb2
  go_wp2_with fail
  refine (timesN (nB s) (nB t) A1 c1 A2 c2 w2 HR1.out HR2.out (by omega) (by omega)).mono ?_
  rintro e w3 ⟨v3, rfl, ⟨A3, c3, rfl, h3, -⟩, hb3⟩
  have HR3 := Lib.hid h3
  have HB3 := Lib.hid (HB2.out.trans (hb3.mono HB2.out.size))
  clear h3 hb3
  go_wp2_with fail
  refine (textN (nB s * nB t) A3 c3 w3 HR3.out (prod_len hs ht)).mono ?_
  rintro e w4 ⟨rfl, hb4⟩
  have HB4 := Lib.hid (HB3.out.trans (hb4.mono HB3.out.size))
  clear hb4
  go_wp2
  go_ret
  exact ⟨rfl, HB4.out⟩
set_option maxRecDepth 100000 in
set_option maxHeartbeats 400000 in
theorem sub_any (s t : ByteArray) (w : World) (hs : s.size ≤ 40000) (ht : t.size ≤ 40000) (hle : nB t ≤ nB s) : Calls Tryz.prog 6 #[.string s, .string t] w fun e w' => e = .returned (.tuple #[.string (cS (nB s - nB t)), .int .i64 0]) ∧ Below w.heap.size w w' := by
  have hd1 := digW_nB s
  have hd2 := digW_nB t
  have HC := Lib.hid (cmp_any s t w)
  have HE := Lib.hid (show 1 * nB s - 1 * nB t = nB s - nB t by omega)
  have d0 : decide (cmpN (nB s) (nB t) < 0) = false := by
    refine decide_eq_false ?_
    unfold cmpN
    rw [if_neg (by omega)]
    split <;> omega
  go_enter Tryz.func6, Tryz.ntmps6
  go_wp2_with fail
  refine HC.out.mono ?_
  rintro e w1 ⟨rfl, hw⟩
  obtain rfl : w = w1 := hw.symm
  go_wp2_with fail
  refine (readN s w (by omega)).mono ?_
  rintro e w1 ⟨v1, rfl, ⟨A1, c1, rfl, h1, -⟩, hb1⟩
  have HR1 := Lib.hid h1
  have HB1 := Lib.hid hb1
  clear h1 hb1
  go_wp2_with fail
  refine (readN t w1 (by omega)).mono ?_
  rintro e w2 ⟨v2, rfl, ⟨A2, c2, rfl, h2, -⟩, hb2⟩
  replace HR1 := Lib.hid (HR1.out.next hb2)
  have HR2 := Lib.hid h2
  have HB2 := Lib.hid (HB1.out.trans (hb2.mono HB1.out.size))
  clear h2 hb2
  go_wp2_with fail
  refine (lessN (nB s) 1 (nB t) 1 A1 c1 A2 c2 w2 HR1.out HR2.out (by decide) (by decide) (by omega) (by omega) (by omega)).mono ?_
  rw [HE.out]
  rintro e w3 ⟨v3, rfl, ⟨A3, c3, rfl, h3, -⟩, hb3⟩
  have HR3 := Lib.hid h3
  have HB3 := Lib.hid (HB2.out.trans (hb3.mono HB2.out.size))
  clear h3 hb3
  go_wp2_with fail
  refine (textN (nB s - nB t) A3 c3 w3 HR3.out (dif_len _ hs)).mono ?_
  rintro e w4 ⟨rfl, hb4⟩
  have HB4 := Lib.hid (HB3.out.trans (hb4.mono HB3.out.size))
  clear hb4
  go_wp2
  go_ret2
  exact ⟨rfl, HB4.out⟩
set_option maxRecDepth 100000 in
set_option maxHeartbeats 400000 in
theorem sub_low (s t : ByteArray) (w : World) (hlt : nB s < nB t) : Calls Tryz.prog 6 #[.string s, .string t] w fun e w' => e = .returned (.tuple #[.string (cS 0), .int .i64 3]) ∧ w' = w := by
  have HC := Lib.hid (cmp_any s t w)
  have HZ := Lib.hid (show cS 0 = ⟨#[]⟩ by unfold cS; rw [canS_zero]; rfl)
  have d0 : decide (cmpN (nB s) (nB t) < 0) = true := by
    refine decide_eq_true ?_
    unfold cmpN
    rw [if_pos hlt]; omega
  go_enter Tryz.func6, Tryz.ntmps6
  go_wp2_with fail
  refine HC.out.mono ?_
  rintro e w1 ⟨rfl, hw⟩
  obtain rfl : w = w1 := hw.symm
  go_wp2
  go_ret2
  exact ⟨by rw [HZ.out]; rfl, rfl⟩
end Go.Proofs.YtkjnfobaoaaopaaGreatDoor
