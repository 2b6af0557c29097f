/- The reference: texts between quotation marks; the digits of numbers. -/
import Derived.Test.YtggjgikpiljoiaaDoorL28
namespace Go.Proofs.YtggjgikpiljoiaaDoor
open Go.RowKit Hm Wm Lx

set_option maxRecDepth 100000 in
set_option maxHeartbeats 800000 in
theorem rquoted_any (s : List UInt8) (w : World) (hs : s.length ≤ 2 ^ 44) : Calls Tryd.prog 23 #[.string (sb s)] w fun e w' => e = .returned (.string (sb (quo s))) ∧ Below w.heap.size w w' := by
  have hz : (sb s).size = s.length := sb_size s
  have hq := quo_len
  have HQL := Lib.hid hq
  clear hq
  go_enter Tryd.func23, Tryd.ntmps23
  go_wp2
  have HO := Lib.hid (OwnB.one w w.heap.size 34 (Nat.le_refl _))
  have HB := Lib.hid (show Below w.heap.size w (w.alloc (.cells #[.int .u8 ((34 : UInt8).toNat : Int)] 5)) from (Below.refl _ _).alloc (Nat.le_refl _) _)
  go_loopw [3, 4] (fun a b wr => ∃ k : Nat, b = .int .i64 k ∧ k ≤ s.length ∧ Hid (OwnB wr w.heap.size a (34 :: (s.take k).flatMap esc)) ∧ Hid (Below w.heap.size w wr)) (fun _ b _ => s.length - (intOf b).toNat)
  case atStart => exact ⟨0, rfl, Nat.zero_le _, HO, HB⟩
  case round =>
    obtain ⟨k, rfl, hk, HO, HB⟩ := hrel
    have hql := HQL.out (s.take k)
    rw [List.length_take] at hql
    by_cases hlt : k < s.length
    · obtain ⟨d, hd⟩ : ∃ d, s[k]? = some d := ⟨s[k], List.getElem?_eq_getElem hlt⟩
      have HD := Lib.hid (show (sb s).data.toList[k]? = some d by rw [sb_list]; exact hd)
      have HN := Lib.hid (quo_next hd)
      have hacc : (34 :: (s.take k).flatMap esc).length ≤ 2 ^ 46 := by simp only [List.length_cons]; omega
      generalize 34 :: (s.take k).flatMap esc = acc at HO HN hacc
      clear hd hql
      by_cases hd : d.toNat = 34
      · have HES := Lib.hid (show esc d = [92, d] by unfold esc; rw [if_pos (.inl hd)])
        have m34 : ((d.toNat : Int) == 34) = true := by rw [hd]; rfl
        clear hd
        go_wp2_with (first | (refine wpList_dst 14 rfl ?_; refine wpList_run 14 rfl rfl _ (exec_index 9 (.tmp 12) (.tmp 13) rfl _ _ (.int .u8 d.toNat) rfl rfl (sb_at (sb s) (k := k) HD.out _)) ?_; go_frame) | (refine wpList_dst 18 rfl ?_; refine wpList_run 18 rfl rfl _ (exec_index 9 (.tmp 16) (.tmp 17) rfl _ _ (.int .u8 d.toNat) rfl rfl (sb_at (sb s) (k := k) HD.out _)) ?_; go_frame) | (refine wpList_dst 27 rfl ?_; refine wpList_run 27 rfl rfl _ (exec_index 9 (.tmp 25) (.tmp 26) rfl _ _ (.int .u8 d.toNat) rfl rfl (sb_at (sb s) (k := k) HD.out _)) ?_; go_frame) | (at_builtin; refine wpList_push2 rfl (.tmp 24) (.tmp 28) rfl w.heap.size _ acc rfl HO.out _ _ 92 (d) rfl rfl HB.out.size (by omega) rfl ?_; intro v5 w5 ho5 hb5; have HO5 := Lib.hid ho5; have HB5 := Lib.hid (HB.out.trans hb5); clear ho5 hb5 HO HB))
        go_roundw
        case rel => exact ⟨k + 1, by go_num, by omega, Lib.hid (by rw [HN.out, HES.out]; exact HO5.out), HB5⟩
        case measure => simp [intOf]; omega
      by_cases hd2 : d.toNat = 92
      · have HES := Lib.hid (show esc d = [92, d] by unfold esc; rw [if_pos (.inr hd2)])
        have m34 : ((d.toNat : Int) == 34) = false := by rw [beq_eq_false_iff_ne]; omega
        have m92 : ((d.toNat : Int) == 92) = true := by rw [hd2]; rfl
        clear hd hd2
        go_wp2_with (first | (refine wpList_dst 14 rfl ?_; refine wpList_run 14 rfl rfl _ (exec_index 9 (.tmp 12) (.tmp 13) rfl _ _ (.int .u8 d.toNat) rfl rfl (sb_at (sb s) (k := k) HD.out _)) ?_; go_frame) | (refine wpList_dst 18 rfl ?_; refine wpList_run 18 rfl rfl _ (exec_index 9 (.tmp 16) (.tmp 17) rfl _ _ (.int .u8 d.toNat) rfl rfl (sb_at (sb s) (k := k) HD.out _)) ?_; go_frame) | (refine wpList_dst 27 rfl ?_; refine wpList_run 27 rfl rfl _ (exec_index 9 (.tmp 25) (.tmp 26) rfl _ _ (.int .u8 d.toNat) rfl rfl (sb_at (sb s) (k := k) HD.out _)) ?_; go_frame) | (at_builtin; refine wpList_push2 rfl (.tmp 24) (.tmp 28) rfl w.heap.size _ acc rfl HO.out _ _ 92 (d) rfl rfl HB.out.size (by omega) rfl ?_; intro v5 w5 ho5 hb5; have HO5 := Lib.hid ho5; have HB5 := Lib.hid (HB.out.trans hb5); clear ho5 hb5 HO HB))
        go_roundw
        case rel => exact ⟨k + 1, by go_num, by omega, Lib.hid (by rw [HN.out, HES.out]; exact HO5.out), HB5⟩
        case measure => simp [intOf]; omega
      by_cases hd3 : d.toNat = 10
      · have HES := Lib.hid (show esc d = [92, 110] by unfold esc; rw [if_neg (by omega), if_pos hd3])
        have m34 : ((d.toNat : Int) == 34) = false := by rw [beq_eq_false_iff_ne]; omega
        have m92 : ((d.toNat : Int) == 92) = false := by rw [beq_eq_false_iff_ne]; omega
        have m10 : ((d.toNat : Int) == 10) = true := by rw [hd3]; rfl
        clear hd hd2 hd3
        go_wp2_with (first | (refine wpList_dst 14 rfl ?_; refine wpList_run 14 rfl rfl _ (exec_index 9 (.tmp 12) (.tmp 13) rfl _ _ (.int .u8 d.toNat) rfl rfl (sb_at (sb s) (k := k) HD.out _)) ?_; go_frame) | (refine wpList_dst 18 rfl ?_; refine wpList_run 18 rfl rfl _ (exec_index 9 (.tmp 16) (.tmp 17) rfl _ _ (.int .u8 d.toNat) rfl rfl (sb_at (sb s) (k := k) HD.out _)) ?_; go_frame) | (refine wpList_dst 27 rfl ?_; refine wpList_run 27 rfl rfl _ (exec_index 9 (.tmp 25) (.tmp 26) rfl _ _ (.int .u8 d.toNat) rfl rfl (sb_at (sb s) (k := k) HD.out _)) ?_; go_frame) | (at_builtin; refine wpList_push2 rfl (.tmp 32) (.tmp 33) rfl w.heap.size _ acc rfl HO.out _ _ 92 (110) rfl rfl HB.out.size (by omega) rfl ?_; intro v5 w5 ho5 hb5; have HO5 := Lib.hid ho5; have HB5 := Lib.hid (HB.out.trans hb5); clear ho5 hb5 HO HB))
        go_roundw
        case rel => exact ⟨k + 1, by go_num, by omega, Lib.hid (by rw [HN.out, HES.out]; exact HO5.out), HB5⟩
        case measure => simp [intOf]; omega
      · have HES := Lib.hid (show esc d = [d] by unfold esc; rw [if_neg (by omega), if_neg hd3])
        have m34 : ((d.toNat : Int) == 34) = false := by rw [beq_eq_false_iff_ne]; omega
        have m92 : ((d.toNat : Int) == 92) = false := by rw [beq_eq_false_iff_ne]; omega
        have m10 : ((d.toNat : Int) == 10) = false := by rw [beq_eq_false_iff_ne]; omega
        clear hd hd2 hd3
        go_wp2_with (first | (refine wpList_dst 14 rfl ?_; refine wpList_run 14 rfl rfl _ (exec_index 9 (.tmp 12) (.tmp 13) rfl _ _ (.int .u8 d.toNat) rfl rfl (sb_at (sb s) (k := k) HD.out _)) ?_; go_frame) | (refine wpList_dst 18 rfl ?_; refine wpList_run 18 rfl rfl _ (exec_index 9 (.tmp 16) (.tmp 17) rfl _ _ (.int .u8 d.toNat) rfl rfl (sb_at (sb s) (k := k) HD.out _)) ?_; go_frame) | (refine wpList_dst 27 rfl ?_; refine wpList_run 27 rfl rfl _ (exec_index 9 (.tmp 25) (.tmp 26) rfl _ _ (.int .u8 d.toNat) rfl rfl (sb_at (sb s) (k := k) HD.out _)) ?_; go_frame) | (at_builtin; refine wpList_push rfl (.tmp 15) (.tmp 19) rfl w.heap.size _ acc rfl HO.out _ d rfl HB.out.size (by omega) rfl ?_; intro v5 w5 ho5 hb5; have HO5 := Lib.hid ho5; have HB5 := Lib.hid (HB.out.trans hb5); clear ho5 hb5 HO HB))
        go_roundw
        case rel => exact ⟨k + 1, by go_num, by omega, Lib.hid (by rw [HN.out, HES.out]; exact HO5.out), HB5⟩
        case measure => simp [intOf]; omega
    · obtain rfl : k = s.length := by omega
      have h1 : decide ((s.length : Int) < (s.length : Int)) = false := decide_eq_false (by omega)
      have hacc : (34 :: (s.take s.length).flatMap esc).length ≤ 2 ^ 46 := by simp only [List.length_cons]; omega
      have HE := Lib.hid (show quo s = (34 :: (s.take s.length).flatMap esc) ++ [34] by rw [List.take_length]; rfl)
      generalize 34 :: (s.take s.length).flatMap esc = acc at HO HE hacc
      clear hql
      go_wp2_with (first | (at_builtin; refine wpList_push rfl (.tmp 35) (.tmp 36) rfl w.heap.size _ acc rfl HO.out _ 34 rfl HB.out.size (by omega) rfl ?_; intro v5 w5 ho5 hb5; obtain ⟨A5, c5, rfl, _, hc5⟩ := ho5.form; have HO5 := Lib.hid ho5; have HB5 := Lib.hid (HB.out.trans hb5); clear ho5 hb5 HO HB hc5) | (refine wpList_dst 38 rfl ?_; refine wpList_run 38 rfl rfl _ (exec_convert 39 9 (.tmp 37) rfl _ (.string (sb (acc ++ [34]))) rfl (run_str (OwnB.rd HO5.out) c5)) ?_; go_frame))
      go_ret
      exact ⟨by rw [HE.out]; rfl, HB5.out⟩
theorem itoa_neg {n : Nat} (h : 0 < n) : Lib.itoa (-(n : Int)) = 45 :: Lib.itoa (n : Int) := by
  unfold Lib.itoa
  rw [if_pos (by omega), if_neg (by omega), Int.natAbs_neg, Int.natAbs_natCast, Int.toNat_natCast]
theorem itoa_nat (n : Nat) : Lib.itoa (n : Int) = Lib.decDigits n := by
  unfold Lib.itoa
  rw [if_neg (by omega), Int.toNat_natCast]
theorem itoa_ten {n : Nat} (h : 10 ≤ n) : Lib.itoa (n : Int) = Lib.itoa ((n / 10 : Nat) : Int) ++ Lib.itoa ((n % 10 : Nat) : Int) := by
  rw [itoa_nat, itoa_nat, itoa_nat, dec_big h, dec_small (Nat.mod_lt _ (by decide))]
theorem itoa_tenN {n : Nat} (h : 10 ≤ n) : Lib.itoa (-(n : Int)) = Lib.itoa (-((n / 10 : Nat) : Int)) ++ Lib.itoa ((n % 10 : Nat) : Int) := by
  rw [itoa_neg (by omega), itoa_neg (by omega), itoa_ten h, List.cons_append]
theorem pow_le_n : ∀ (n : Nat), 1 ≤ n → 10 ^ (Lib.nDigits n - 1) ≤ n := by
  intro n
  induction n using Nat.strongRecOn with
  | _ n ih =>
    intro h
    by_cases h1 : n < 10
    · rw [Lib.nDigits_small h1]; simpa using h
    · have h2 := ih (n / 10) (by omega) (by omega)
      have h3 := Lib.nDigits_pos (n / 10)
      rw [Lib.nDigits_big h1, show Lib.nDigits (n / 10) + 1 - 1 = (Lib.nDigits (n / 10) - 1) + 1 by omega, Nat.pow_succ]
      omega
theorem itoa_len (n : Nat) (h : n ≤ 9223372036854775808) : (Lib.itoa (n : Int)).length ≤ 19 := by
  rw [itoa_nat, Lib.decDigits_length]
  have h1 := Lib.nDigits_pos n
  rcases Nat.lt_or_ge 19 (Lib.nDigits n) with h2 | h2
  · exfalso
    obtain ⟨k, hk⟩ : ∃ k, Lib.nDigits n = k + 20 := ⟨Lib.nDigits n - 20, by omega⟩
    have hn1 : 1 ≤ n := by
      rcases Nat.eq_zero_or_pos n with h6 | h6
      · subst h6; rw [Lib.nDigits_small (by decide)] at hk; omega
      · exact h6
    have h3 : 10 ^ (Lib.nDigits n - 1) ≤ n := pow_le_n n hn1
    rw [hk] at h3
    have h4 : 10 ^ 19 ≤ 10 ^ (k + 20 - 1) := Nat.pow_le_pow_right (by decide) (by omega)
    have h5 : (10 : Nat) ^ 19 = 10000000000000000000 := by decide
    omega
  · exact h2
end Go.Proofs.YtggjgikpiljoiaaDoor
