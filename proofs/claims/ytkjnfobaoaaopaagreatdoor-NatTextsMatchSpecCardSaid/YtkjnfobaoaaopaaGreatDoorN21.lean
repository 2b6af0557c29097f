/- divMod of any two numbers, and DivMod. -/
import Derived.Test.YtkjnfobaoaaopaaGreatDoorN20
namespace Go.Proofs.YtkjnfobaoaaopaaGreatDoor
open Go.RowKit Hm Wm Wn

theorem divMod_any (N M : Nat) (A : Option Addr) (c : Nat) (A2 : Option Addr) (c2 : Nat) (w : World) (hM : M ≠ 0) (hr : RdW w A (digW N)) (hc : (digW N).length ≤ c) (hr2 : RdW w A2 (digW M)) (hl : (digW N).length ≤ 100000) (hl2 : (digW M).length ≤ 100000) :
    Calls Tryz.prog 33 #[.slice A (digW N).length c, .slice A2 (digW M).length c2] w fun e w' => ∃ v1 v2, e = .returned (.tuple #[v1, v2]) ∧ NewW w' (N / M) v1 ∧ NewW w' (N % M) v2 ∧ Below w.heap.size w w' := by
  by_cases hlt : (digW N).length < (digW M).length
  · refine (divMod_short A c N A2 c2 M w hr hc hlt hl2).mono ?_
    rintro e w1 ⟨v1, v2, rfl, h1, h2, hw⟩
    subst hw
    exact ⟨v1, v2, rfl, h1, h2, Below.refl _ _⟩
  · obtain ⟨top, h1, h2, h3⟩ := digW_top hM
    have h := divMod_long A c (digW N) A2 c2 (digW M) top w hr hr2 (dig_digW N) (dig_digW M) (digW_ge hM).1 h1 h2 h3 (by omega) hl
    rwa [num_digW, num_digW] at h
set_option maxRecDepth 100000 in
set_option maxHeartbeats 400000 in
theorem divMod_zero (s t : ByteArray) (w : World) (ht : t.size ≤ 40000) (h0 : nB t = 0) : Calls Tryz.prog 7 #[.string s, .string t] w fun e w' => e = .returned (.tuple #[.string (cS 0), .string (cS 0), .int .i64 1]) ∧ Below w.heap.size w w' := by
  have HZ := Lib.hid (show cS 0 = ⟨#[]⟩ by unfold cS; rw [canS_zero]; rfl)
  have HR := Lib.hid (readN t w (by omega))
  rw [h0] at HR
  have HL := Lib.hid (show (digW 0).length = 0 by rw [digW_zero]; rfl)
  clear h0 ht
  go_enter Tryz.func7, Tryz.ntmps7
  go_wp2_with fail
  refine HR.out.mono ?_
  rintro e w1 ⟨v1, rfl, ⟨A1, c1, rfl, h1, -⟩, hb1⟩
  have HB1 := Lib.hid hb1
  clear h1 hb1
  rw [HL.out]
  go_wp2
  go_ret3
  exact ⟨by rw [HZ.out]; rfl, HB1.out⟩
set_option maxRecDepth 100000 in
set_option maxHeartbeats 400000 in
theorem divModS_any (s t : ByteArray) (w : World) (hs : s.size ≤ 40000) (ht : t.size ≤ 40000) (h0 : nB t ≠ 0) : Calls Tryz.prog 7 #[.string s, .string t] w fun e w' => e = .returned (.tuple #[.string (cS (nB s / nB t)), .string (cS (nB s % nB t)), .int .i64 0]) ∧ Below w.heap.size w w' := by
  have hd1 := digW_nB s
  have hd2 := digW_nB t
  have hp := (digW_ge h0).1
  obtain ⟨n, hn⟩ : ∃ n, (digW (nB t)).length = n := ⟨_, rfl⟩
  have d0 : decide ((n : Int) = 0) = false := decide_eq_false (by omega)
  have d0' : decide (n = 0) = false := decide_eq_false (by omega)
  have d1 : ((n : Int) == 0) = false := by rw [beq_eq_false_iff_ne]; omega
  have HQ := Lib.hid (show (digW (nB s / nB t)).length ≤ 100000 from Nat.le_trans (digW_256 (Nat.lt_of_le_of_lt (Nat.div_le_self _ _) (nB_lt s))) (by omega))
  have HM := Lib.hid (show (digW (nB s % nB t)).length ≤ 100000 from Nat.le_trans (digW_256 (Nat.lt_of_le_of_lt (Nat.mod_le _ _) (nB_lt s))) (by omega))
  have HD := Lib.hid (fun A c A2 c2 w h1 h2 h3 => divMod_any (nB s) (nB t) A c A2 c2 w h0 h1 h2 h3 (by omega) (by omega))
  rw [hn] at HD
  have HT := Lib.hid (readN t w (by omega))
  have HS := Lib.hid (fun w => readN s w (by omega))
  clear h0 hd1 hd2 hp hs ht
  go_enter Tryz.func7, Tryz.ntmps7
  go_wp2_with fail
  refine HT.out.mono ?_
  rintro e w1 ⟨v1, rfl, ⟨A1, c1, rfl, h1, -⟩, hb1⟩
  rw [hn]
  have HR1 := Lib.hid h1
  have HB1 := Lib.hid hb1
  clear h1 hb1
  go_wp2_with fail
  refine (HS.out w1).mono ?_
  rintro e w2 ⟨v2, rfl, ⟨A2, c2, rfl, h2, hc2⟩, hb2⟩
  replace HR1 := Lib.hid (HR1.out.next hb2)
  have HR2 := Lib.hid (And.intro h2 hc2)
  have HB2 := Lib.hid (HB1.out.trans (hb2.mono HB1.out.size))
  clear h2 hb2 hc2
  go_wp2_with fail
  refine (HD.out A2 c2 A1 c1 w2 HR2.out.1 HR2.out.2 HR1.out).mono ?_
  rintro e w3 ⟨v3, v4, rfl, ⟨A3, c3, rfl, h3, -⟩, ⟨A4, c4, rfl, h4, -⟩, hb3⟩
  have HR3 := Lib.hid h3
  have HR4 := Lib.hid h4
  have HB3 := Lib.hid (HB2.out.trans (hb3.mono HB2.out.size))
  clear h3 h4 hb3 HR1 HR2
  go_wp2_with fail
  refine (textN (nB s / nB t) A3 c3 w3 HR3.out HQ.out).mono ?_
  rintro e w4 ⟨rfl, hb4⟩
  replace HR4 := Lib.hid (HR4.out.next hb4)
  have HB4 := Lib.hid (HB3.out.trans (hb4.mono HB3.out.size))
  clear hb4
  go_wp2_with fail
  refine (textN (nB s % nB t) A4 c4 w4 HR4.out HM.out).mono ?_
  rintro e w5 ⟨rfl, hb5⟩
  have HB5 := Lib.hid (HB4.out.trans (hb5.mono HB4.out.size))
  clear hb5
  go_wp2
  go_ret3
  exact ⟨rfl, HB5.out⟩
end Go.Proofs.YtkjnfobaoaaopaaGreatDoor
