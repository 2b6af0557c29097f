/- Sanity of the nat laws. -/
import Derived.Test.YtkjnfobaoaaopaaGreatDoorN34
namespace Go.Proofs.YtkjnfobaoaaopaaGreatDoor
open Go.RowKit Hm Wm Wn

theorem cS_of {s : ByteArray} (h : CanB s.data.toList) : cS (nB s) = s := by
  unfold cS nB
  rw [canS_num h]
  cases s
  simp [sb]
theorem cS_lit {n : Nat} {t : ByteArray} (h1 : nB t = n) (h2 : CanB t.data.toList) : cS n = t := by rw [← h1]; exact cS_of h2
theorem c300 : cS 300 = ⟨#[1, 44]⟩ := cS_lit (by decide) (by unfold CanB; decide)
theorem c255 : cS 255 = ⟨#[255]⟩ := cS_lit (by decide) (by unfold CanB; decide)
theorem c0 : cS 0 = ⟨#[]⟩ := cS_lit (by decide) (by unfold CanB; decide)
theorem c1 : cS 1 = ⟨#[1]⟩ := cS_lit (by decide) (by unfold CanB; decide)
theorem c5 : cS 5 = ⟨#[5]⟩ := cS_lit (by decide) (by unfold CanB; decide)
theorem c12 : cS 12 = ⟨#[12]⟩ := cS_lit (by decide) (by unfold CanB; decide)
theorem c256 : cS 256 = ⟨#[1, 0]⟩ := cS_lit (by decide) (by unfold CanB; decide)
theorem c65536 : cS 65536 = ⟨#[1, 0, 0]⟩ := cS_lit (by decide) (by unfold CanB; decide)
theorem c90000 : cS 90000 = ⟨#[1, 95, 144]⟩ := cS_lit (by decide) (by unfold CanB; decide)
theorem d65536 : Lib.decDigits 65536 = [54, 53, 53, 51, 54] := by
  rw [show Lib.decDigits 65536 = Lib.decDigits 6553 ++ [54] from dec_big (by decide), show Lib.decDigits 6553 = Lib.decDigits 655 ++ [51] from dec_big (by decide), show Lib.decDigits 655 = Lib.decDigits 65 ++ [53] from dec_big (by decide), show Lib.decDigits 65 = Lib.decDigits 6 ++ [53] from dec_big (by decide), Lib.decDigits_one (by decide)]
  rfl
theorem s_int (w : World) : Calls Tryz.prog 22 #[.int .i64 300] w fun e w' => e = .returned (.tuple #[.string ⟨#[1, 44]⟩, .int .i64 0]) ∧ Below w.heap.size w w' := by
  have h := int_any 300 w (by decide)
  rw [c300] at h
  exact h
theorem s_value (w : World) : Calls Tryz.prog 23 #[.string ⟨#[1, 44]⟩] w fun e w' => e = .returned (.tuple #[.int .i64 300, .int .i64 0]) ∧ Below w.heap.size w w' := by
  have h := value_any ⟨#[1, 44]⟩ w (by decide) (by decide)
  rw [show nB ⟨#[1, 44]⟩ = 300 by decide] at h
  exact h
theorem s_sub (w : World) : Calls Tryz.prog 6 #[.string ⟨#[1, 0]⟩, .string ⟨#[1]⟩] w fun e w' => e = .returned (.tuple #[.string ⟨#[255]⟩, .int .i64 0]) ∧ Below w.heap.size w w' := by
  have h := sub_any ⟨#[1, 0]⟩ ⟨#[1]⟩ w (by decide) (by decide) (by decide)
  rw [show nB ⟨#[1, 0]⟩ - nB ⟨#[1]⟩ = 255 by decide, c255] at h
  exact h
theorem s_low (w : World) : Calls Tryz.prog 6 #[.string ⟨#[1]⟩, .string ⟨#[2]⟩] w fun e w' => e = .returned (.tuple #[.string ⟨#[]⟩, .int .i64 3]) ∧ w' = w := by
  have h := sub_low ⟨#[1]⟩ ⟨#[2]⟩ w (by decide)
  rw [c0] at h
  exact h
theorem s_div (w : World) : Calls Tryz.prog 7 #[.string ⟨#[1, 95, 145]⟩, .string ⟨#[1, 44]⟩] w fun e w' => e = .returned (.tuple #[.string ⟨#[1, 44]⟩, .string ⟨#[1]⟩, .int .i64 0]) ∧ Below w.heap.size w w' := by
  have h := divModS_any ⟨#[1, 95, 145]⟩ ⟨#[1, 44]⟩ w (by decide) (by decide) (by decide)
  rw [show nB ⟨#[1, 95, 145]⟩ / nB ⟨#[1, 44]⟩ = 300 by decide, show nB ⟨#[1, 95, 145]⟩ % nB ⟨#[1, 44]⟩ = 1 by decide, c300, c1] at h
  exact h
theorem s_div0 (w : World) : Calls Tryz.prog 7 #[.string ⟨#[1]⟩, .string ⟨#[]⟩] w fun e w' => e = .returned (.tuple #[.string ⟨#[]⟩, .string ⟨#[]⟩, .int .i64 1]) ∧ Below w.heap.size w w' := by
  have h := divMod_zero ⟨#[1]⟩ ⟨#[]⟩ w (by decide) (by decide)
  rw [c0] at h
  exact h
theorem s_parse (w : World) : Calls Tryz.prog 24 #[.string ⟨#[54, 53, 53, 51, 54]⟩] w fun e w' => e = .returned (.tuple #[.string ⟨#[1, 0, 0]⟩, .int .i64 0]) ∧ Below w.heap.size w w' := by
  have h := parse_yes [54, 53, 53, 51, 54] w (by decide) (by decide)
  rw [show decN [54, 53, 53, 51, 54] = 65536 by decide, c65536] at h
  exact h
theorem s_no (w : World) : Calls Tryz.prog 24 #[.string ⟨#[48, 48, 55]⟩] w fun e w' => e = .returned (.tuple #[.string ⟨#[]⟩, .int .i64 27]) ∧ w' = w := by
  have h := parse_no [48, 48, 55] w (by decide) (by decide)
  rw [c0] at h
  exact h
theorem s_add (w : World) : Calls Tryz.prog 16 #[.string ⟨#[255]⟩, .string ⟨#[1]⟩] w fun e w' => e = .returned (.string ⟨#[1, 0]⟩) ∧ Below w.heap.size w w' := by
  have h := add_any ⟨#[255]⟩ ⟨#[1]⟩ w (by decide) (by decide)
  rw [show nB ⟨#[255]⟩ + nB ⟨#[1]⟩ = 256 by decide, c256] at h
  exact h
theorem s_mul (w : World) : Calls Tryz.prog 18 #[.string ⟨#[1, 44]⟩, .string ⟨#[1, 44]⟩] w fun e w' => e = .returned (.string ⟨#[1, 95, 144]⟩) ∧ Below w.heap.size w w' := by
  have h := mul_any ⟨#[1, 44]⟩ ⟨#[1, 44]⟩ w (by decide) (by decide)
  rw [show nB ⟨#[1, 44]⟩ * nB ⟨#[1, 44]⟩ = 90000 by decide, c90000] at h
  exact h
theorem s_gcd (w : World) : Calls Tryz.prog 20 #[.string ⟨#[84]⟩, .string ⟨#[36]⟩] w fun e w' => e = .returned (.string ⟨#[12]⟩) ∧ Below w.heap.size w w' := by
  have h := gcd_any ⟨#[84]⟩ ⟨#[36]⟩ w (by decide) (by decide)
  rw [show Nat.gcd (nB ⟨#[84]⟩) (nB ⟨#[36]⟩) = 12 by rfl, c12] at h
  exact h
theorem s_gcd0 (w : World) : Calls Tryz.prog 20 #[.string ⟨#[]⟩, .string ⟨#[5]⟩] w fun e w' => e = .returned (.string ⟨#[5]⟩) ∧ Below w.heap.size w w' := by
  have h := gcd_any ⟨#[]⟩ ⟨#[5]⟩ w (by decide) (by decide)
  rw [show Nat.gcd (nB ⟨#[]⟩) (nB ⟨#[5]⟩) = 5 by rfl, c5] at h
  exact h
theorem s_text (w : World) (hT : Pow w) : Calls Tryz.prog 28 #[.string ⟨#[1, 0, 0]⟩] w fun e w' => e = .returned (.string ⟨#[54, 53, 53, 51, 54]⟩) ∧ Below w.heap.size w w' := by
  have h := textS_any ⟨#[1, 0, 0]⟩ w (by decide) hT
  rw [show nB ⟨#[1, 0, 0]⟩ = 65536 by decide, d65536] at h
  exact h
theorem s_valid (w : World) : Calls Tryz.prog 10 #[.string ⟨#[0, 1]⟩] w fun e w' => e = .returned (.bool false) ∧ w' = w := by
  have h := valid_any ⟨#[0, 1]⟩ w
  rw [show validB ⟨#[0, 1]⟩ = false by decide] at h
  exact h
theorem s_clean (w : World) : Calls Tryz.prog 12 #[.string ⟨#[0, 1]⟩] w fun e w' => e = .returned (.string ⟨#[1]⟩) ∧ w' = w := by
  have h := clean_any ⟨#[0, 1]⟩ w
  rw [show sb (canS (numB (⟨#[0, 1]⟩ : ByteArray).data.toList)) = ⟨#[1]⟩ from c1] at h
  exact h
theorem s_cmp (w : World) : Calls Tryz.prog 14 #[.string ⟨#[2]⟩, .string ⟨#[1, 0]⟩] w fun e w' => e = .returned (.int .i64 (-1)) ∧ w' = w := by
  have h := cmp_any ⟨#[2]⟩ ⟨#[1, 0]⟩ w
  rw [show cmpN (nB ⟨#[2]⟩) (nB ⟨#[1, 0]⟩) = -1 by decide] at h
  exact h
set_option maxRecDepth 1000000 in
set_option maxHeartbeats 2000000 in
theorem sanity_any (w : World) (hT : Pow w) : Calls Tryz.prog 5 #[] w fun e w' => e = .returned (.bool true) ∧ Below w.heap.size w w' := by
  have PW := Lib.hid hT
  have HB := Lib.hid (Below.refl w.heap.size w)
  clear hT
  go_enter Tryz.func5, Tryz.ntmps5
  go_wp2_with fail
  refine (s_int w).mono ?_
  rintro e w1 ⟨rfl, hb⟩
  replace PW := Lib.hid (PW.out.next hb)
  replace HB := Lib.hid (HB.out.trans (hb.mono HB.out.size))
  clear hb
  go_wp2_with fail
  refine (s_value w1).mono ?_
  rintro e w2 ⟨rfl, hb⟩
  replace PW := Lib.hid (PW.out.next hb)
  replace HB := Lib.hid (HB.out.trans (hb.mono HB.out.size))
  clear hb
  go_wp2_with fail
  refine (s_sub w2).mono ?_
  rintro e w3 ⟨rfl, hb⟩
  replace PW := Lib.hid (PW.out.next hb)
  replace HB := Lib.hid (HB.out.trans (hb.mono HB.out.size))
  clear hb
  go_wp2_with fail
  refine (s_low w3).mono ?_
  rintro e wx ⟨rfl, hw⟩
  obtain rfl : w3 = wx := hw.symm
  clear hw
  go_wp2_with fail
  refine (s_div w3).mono ?_
  rintro e w5 ⟨rfl, hb⟩
  replace PW := Lib.hid (PW.out.next hb)
  replace HB := Lib.hid (HB.out.trans (hb.mono HB.out.size))
  clear hb
  go_wp2_with fail
  refine (s_div0 w5).mono ?_
  rintro e w6 ⟨rfl, hb⟩
  replace PW := Lib.hid (PW.out.next hb)
  replace HB := Lib.hid (HB.out.trans (hb.mono HB.out.size))
  clear hb
  go_wp2_with fail
  refine (s_parse w6).mono ?_
  rintro e w7 ⟨rfl, hb⟩
  replace PW := Lib.hid (PW.out.next hb)
  replace HB := Lib.hid (HB.out.trans (hb.mono HB.out.size))
  clear hb
  go_wp2_with fail
  refine (s_no w7).mono ?_
  rintro e wx ⟨rfl, hw⟩
  obtain rfl : w7 = wx := hw.symm
  clear hw
  go_wp2_with fail
  refine (s_add w7).mono ?_
  rintro e w9 ⟨rfl, hb⟩
  replace PW := Lib.hid (PW.out.next hb)
  replace HB := Lib.hid (HB.out.trans (hb.mono HB.out.size))
  clear hb
  go_wp2_with fail
  refine (s_mul w9).mono ?_
  rintro e w10 ⟨rfl, hb⟩
  replace PW := Lib.hid (PW.out.next hb)
  replace HB := Lib.hid (HB.out.trans (hb.mono HB.out.size))
  clear hb
  go_wp2_with fail
  refine (s_gcd w10).mono ?_
  rintro e w11 ⟨rfl, hb⟩
  replace PW := Lib.hid (PW.out.next hb)
  replace HB := Lib.hid (HB.out.trans (hb.mono HB.out.size))
  clear hb
  go_wp2_with fail
  refine (s_gcd0 w11).mono ?_
  rintro e w12 ⟨rfl, hb⟩
  replace PW := Lib.hid (PW.out.next hb)
  replace HB := Lib.hid (HB.out.trans (hb.mono HB.out.size))
  clear hb
  go_wp2_with fail
  refine (s_text w12 PW.out).mono ?_
  rintro e w13 ⟨rfl, hb⟩
  replace PW := Lib.hid (PW.out.next hb)
  replace HB := Lib.hid (HB.out.trans (hb.mono HB.out.size))
  clear hb
  go_wp2_with fail
  refine (s_valid w13).mono ?_
  rintro e wx ⟨rfl, hw⟩
  obtain rfl : w13 = wx := hw.symm
  clear hw
  go_wp2_with fail
  refine (s_clean w13).mono ?_
  rintro e wx ⟨rfl, hw⟩
  obtain rfl : w13 = wx := hw.symm
  clear hw
  go_wp2_with fail
  refine (s_cmp w13).mono ?_
  rintro e wx ⟨rfl, hw⟩
  obtain rfl : w13 = wx := hw.symm
  clear hw
  go_wp2
  go_ret
  exact ⟨rfl, HB.out⟩
end Go.Proofs.YtkjnfobaoaaopaaGreatDoor
