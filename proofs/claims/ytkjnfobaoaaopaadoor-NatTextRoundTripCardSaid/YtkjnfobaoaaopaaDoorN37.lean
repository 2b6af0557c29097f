/- The walk of NatIsOrderedSemiring. -/
import Derived.Test.YtkjnfobaoaaopaaDoorN36
namespace Go.Proofs.YtkjnfobaoaaopaaDoor
open Go.RowKit Hm Wm Wn

theorem one_nB : nB ⟨#[1]⟩ = 1 := by decide
theorem nil_nB : nB ⟨#[]⟩ = 0 := by decide
set_option maxRecDepth 1000000 in
set_option maxHeartbeats 2000000 in
theorem walk_semi_out (s t u : ByteArray) (w : World) (hT : Pow w) (h : ¬ (s.size ≤ 300 ∧ t.size ≤ 300 ∧ u.size ≤ 300)) : Calls Tryd.prog 3 #[.string s, .string t, .string u] w fun e w' => e = .returned (.bool true) ∧ Below w.heap.size w w' := by
  have HS := Lib.hid (sanity_any w hT)
  clear hT
  by_cases h1 : s.size ≤ 300
  · have c1 : decide ((300 : Int) < (s.size : Int)) = false := decide_eq_false (by omega)
    have c1' : decide (300 < s.size) = false := decide_eq_false (by omega)
    by_cases h2 : t.size ≤ 300
    · have c2 : decide ((300 : Int) < (t.size : Int)) = false := decide_eq_false (by omega)
      have c2' : decide (300 < t.size) = false := decide_eq_false (by omega)
      have h3 : 300 < u.size := by omega
      have c3 : decide ((300 : Int) < (u.size : Int)) = true := decide_eq_true (by omega)
      have c3' : decide (300 < u.size) = true := decide_eq_true (by omega)
      clear h h1 h2 h3
      go_enter Tryd.func3, Tryd.ntmps3
      go_wp2_with fail
      refine HS.out.mono ?_
      rintro e w1 ⟨rfl, hb⟩
      have HB := Lib.hid hb
      clear hb HS
      go_wp2
      go_ret
      exact ⟨rfl, HB.out⟩
    · have c2 : decide ((300 : Int) < (t.size : Int)) = true := decide_eq_true (by omega)
      have c2' : decide (300 < t.size) = true := decide_eq_true (by omega)
      clear h h1 h2
      go_enter Tryd.func3, Tryd.ntmps3
      go_wp2_with fail
      refine HS.out.mono ?_
      rintro e w1 ⟨rfl, hb⟩
      have HB := Lib.hid hb
      clear hb HS
      go_wp2
      go_ret
      exact ⟨rfl, HB.out⟩
  · have c1 : decide ((300 : Int) < (s.size : Int)) = true := decide_eq_true (by omega)
    have c1' : decide (300 < s.size) = true := decide_eq_true (by omega)
    clear h h1
    go_enter Tryd.func3, Tryd.ntmps3
    go_wp2_with fail
    refine HS.out.mono ?_
    rintro e w1 ⟨rfl, hb⟩
    have HB := Lib.hid hb
    clear hb HS
    go_wp2
    go_ret
    exact ⟨rfl, HB.out⟩

set_option maxRecDepth 1000000 in
set_option maxHeartbeats 4000000 in
theorem walk_semi (s t u : ByteArray) (w : World) (hT : Pow w) : Calls Tryd.prog 3 #[.string s, .string t, .string u] w fun e w' => e = .returned (.bool true) ∧ Below w.heap.size w w' := by
  by_cases h : s.size ≤ 300 ∧ t.size ≤ 300 ∧ u.size ≤ 300
  · obtain ⟨hs, ht, hu⟩ := h
    have PW := Lib.hid hT
    have HB := Lib.hid (Below.refl w.heap.size w)
    have c1 : decide ((300 : Int) < (s.size : Int)) = false := decide_eq_false (by omega)
    have c1' : decide (300 < s.size) = false := decide_eq_false (by omega)
    have c2 : decide ((300 : Int) < (t.size : Int)) = false := decide_eq_false (by omega)
    have c2' : decide (300 < t.size) = false := decide_eq_false (by omega)
    have c3 : decide ((300 : Int) < (u.size : Int)) = false := decide_eq_false (by omega)
    have c3' : decide (300 < u.size) = false := decide_eq_false (by omega)
    obtain ⟨S, eS⟩ : ∃ z, cS (nB s + nB t) = z := ⟨_, rfl⟩
    have nS : nB S = nB s + nB t := by rw [← eS, nB_cS]
    have zS : S.size ≤ 301 := by rw [← eS]; exact cS_sum hs ht
    obtain ⟨P, eP⟩ : ∃ z, cS (nB s * nB t) = z := ⟨_, rfl⟩
    have nP : nB P = nB s * nB t := by rw [← eP, nB_cS]
    have zP : P.size ≤ 600 := by rw [← eP]; exact cS_prod hs ht
    obtain ⟨T, eT⟩ : ∃ z, cS (nB t + nB u) = z := ⟨_, rfl⟩
    have nT : nB T = nB t + nB u := by rw [← eT, nB_cS]
    have zT : T.size ≤ 301 := by rw [← eT]; exact cS_sum ht hu
    obtain ⟨U, eU⟩ : ∃ z, cS (nB s * nB u) = z := ⟨_, rfl⟩
    have nU : nB U = nB s * nB u := by rw [← eU, nB_cS]
    have zU : U.size ≤ 600 := by rw [← eU]; exact cS_prod hs hu
    obtain ⟨V, eV⟩ : ∃ z, cS (nB t * nB u) = z := ⟨_, rfl⟩
    have nV : nB V = nB t * nB u := by rw [← eV, nB_cS]
    have zV : V.size ≤ 600 := by rw [← eV]; exact cS_prod ht hu
    obtain ⟨X, eX⟩ : ∃ z, cS (nB s + nB u) = z := ⟨_, rfl⟩
    have nX : nB X = nB s + nB u := by rw [← eX, nB_cS]
    have zX : X.size ≤ 301 := by rw [← eX]; exact cS_sum hs hu
    obtain ⟨A, eA⟩ : ∃ z, cS (nB s) = z := ⟨_, rfl⟩
    obtain ⟨C, eC⟩ : ∃ z, cS (nB u) = z := ⟨_, rfl⟩
    obtain ⟨Q, eQ⟩ : ∃ z, cS (nB s + nB t + nB u) = z := ⟨_, rfl⟩
    obtain ⟨R, eR⟩ : ∃ z, cS (nB s * nB t * nB u) = z := ⟨_, rfl⟩
    obtain ⟨Z, eZ⟩ : ∃ z, cS (nB s * nB t + nB s * nB u) = z := ⟨_, rfl⟩
    obtain ⟨k, ek⟩ : ∃ k, cmpN (nB s) (nB t) = k := ⟨_, rfl⟩
    obtain ⟨k', ek'⟩ : ∃ k, cmpN (nB t) (nB s) = k := ⟨_, rfl⟩
    have hk : -k' = k := by rw [← ek, ← ek']; exact cmpN_swap _ _
    have hkb : -1 ≤ k ∧ k ≤ 1 := by rw [← ek]; exact cmpN_bounds _ _
    have F30 := Lib.hid (fun W => addC s t S W (by omega) (by omega) (by exact eS))
    have F33 := Lib.hid (fun W => mulC s t P W (by omega) (by omega) (by exact eP))
    have F37 := Lib.hid (fun W => addC t s S W (by omega) (by omega) (by rw [Nat.add_comm]; exact eS))
    have F42 := Lib.hid (fun W => addC S u Q W (by omega) (by omega) (by rw [nS]; exact eQ))
    have F46 := Lib.hid (fun W => addC t u T W (by omega) (by omega) (by exact eT))
    have F47 := Lib.hid (fun W => addC s T Q W (by omega) (by omega) (by rw [nT, ← Nat.add_assoc]; exact eQ))
    have zn : (⟨#[]⟩ : ByteArray).size = 0 := rfl
    have zo : (⟨#[1]⟩ : ByteArray).size = 1 := rfl
    have F52 := Lib.hid (fun W => addC s ⟨#[]⟩ A W (by omega) (by omega) (by rw [nil_nB]; exact eA))
    have F54 := Lib.hid (fun W => cleanC s A W eA)
    have F60 := Lib.hid (fun W => mulC t s P W (by omega) (by omega) (by rw [Nat.mul_comm]; exact eP))
    have F65 := Lib.hid (fun W => mulC P u R W (by omega) (by omega) (by rw [nP]; exact eR))
    have F69 := Lib.hid (fun W => mulC t u V W (by omega) (by omega) (by exact eV))
    have F70 := Lib.hid (fun W => mulC s V R W (by omega) (by omega) (by rw [nV, ← Nat.mul_assoc]; exact eR))
    have F77 := Lib.hid (fun W => addC t u T W (by omega) (by omega) (by exact eT))
    have F78 := Lib.hid (fun W => mulC s T Z W (by omega) (by omega) (by rw [nT, Nat.mul_add]; exact eZ))
    have F82 := Lib.hid (fun W => mulC s u U W (by omega) (by omega) (by exact eU))
    have F83 := Lib.hid (fun W => addC P U Z W (by omega) (by omega) (by rw [nP, nU]; exact eZ))
    have F88 := Lib.hid (fun W => mulC s ⟨#[1]⟩ A W (by omega) (by omega) (by rw [one_nB, Nat.mul_one]; exact eA))
    have F90 := Lib.hid (fun W => cleanC s A W eA)
    have F95 := Lib.hid (fun W => mulC s ⟨#[]⟩ ⟨#[]⟩ W (by omega) (by omega) (by rw [nil_nB, Nat.mul_zero]; exact c0))
    have F100 := Lib.hid (fun W => addC s u X W (by omega) (by omega) (by exact eX))
    have F103 := Lib.hid (fun W => addC t u T W (by omega) (by omega) (by exact eT))
    have F104 := Lib.hid (fun W => cmpC X T k W (by rw [nX, nT, cmpN_add]; exact ek))
    have F107 := Lib.hid (fun W => cmpC s t k W (by exact ek))
    have F112 := Lib.hid (fun W => cmpC s t k W (by exact ek))
    have F115 := Lib.hid (fun W => cmpC t s k' W (by exact ek'))
    have F121 := Lib.hid (fun W => cleanC u C W eC)
    have FN := Lib.hid (And.intro hkb hk)
    have F126 := Lib.hid (fun W => mulC s u U W (by omega) (by omega) (by exact eU))
    have F129 := Lib.hid (fun W => mulC t u V W (by omega) (by omega) (by exact eV))
    have F130 := Lib.hid (fun W (hc : 0 < nB u) => cmpC U V k W (by rw [nU, nV, cmpN_mul _ _ hc]; exact ek))
    have F133 := Lib.hid (fun W => cmpC s t k W (by exact ek))
    have F140 := Lib.hid (fun W => subC S t A W (by omega) (by omega) (by rw [nS]; omega) (by rw [nS, Nat.add_sub_cancel]; exact eA))
    have F143 := Lib.hid (fun W h => sanity_any W h)
    have F160 := Lib.hid (fun W => cleanC s A W eA)
    have F165 := Lib.hid (fun W => validC _ S W eS)
    have F169 := Lib.hid (fun W => validC _ P W eP)
    have H122 := Lib.hid (fun W => run_eqS C ⟨#[]⟩ _ rfl W)
    have HCZ := Lib.hid (show (C = ⟨#[]⟩ ↔ nB u = 0) from ⟨fun h => by rw [h] at eC; have h1 := congrArg nB eC; rw [nB_cS, nil_nB] at h1; exact h1, fun h => by rw [← eC, h]; exact c0⟩)
    clear eS nS zS eP nP zP eT nT zT eU nU zU eV nV zV eX nX zX eA eC eQ eR eZ ek ek' hk hkb hs ht hu hT zn zo
    go_enter Tryd.func3, Tryd.ntmps3
    go_wp2_with fail
    refine (F30.out _).mono ?_
    rintro e w1 ⟨rfl, hb⟩
    replace PW := Lib.hid (PW.out.next hb)
    replace HB := Lib.hid (HB.out.trans (hb.mono HB.out.size))
    clear hb
    go_wp2_with fail
    refine (F33.out _).mono ?_
    rintro e w2 ⟨rfl, hb⟩
    replace PW := Lib.hid (PW.out.next hb)
    replace HB := Lib.hid (HB.out.trans (hb.mono HB.out.size))
    clear hb
    go_wp2_with fail
    refine (F37.out _).mono ?_
    rintro e w3 ⟨rfl, hb⟩
    replace PW := Lib.hid (PW.out.next hb)
    replace HB := Lib.hid (HB.out.trans (hb.mono HB.out.size))
    clear hb
    go_wp2_with fail
    refine (F42.out _).mono ?_
    rintro e w4 ⟨rfl, hb⟩
    replace PW := Lib.hid (PW.out.next hb)
    replace HB := Lib.hid (HB.out.trans (hb.mono HB.out.size))
    clear hb
    go_wp2_with fail
    refine (F46.out _).mono ?_
    rintro e w5 ⟨rfl, hb⟩
    replace PW := Lib.hid (PW.out.next hb)
    replace HB := Lib.hid (HB.out.trans (hb.mono HB.out.size))
    clear hb
    go_wp2_with fail
    refine (F47.out _).mono ?_
    rintro e w6 ⟨rfl, hb⟩
    replace PW := Lib.hid (PW.out.next hb)
    replace HB := Lib.hid (HB.out.trans (hb.mono HB.out.size))
    clear hb
    go_wp2_with fail
    refine (F52.out _).mono ?_
    rintro e w7 ⟨rfl, hb⟩
    replace PW := Lib.hid (PW.out.next hb)
    replace HB := Lib.hid (HB.out.trans (hb.mono HB.out.size))
    clear hb
    go_wp2_with fail
    refine (F54.out _).mono ?_
    rintro e wx ⟨rfl, hw⟩
    obtain rfl : w7 = wx := hw.symm
    clear hw
    go_wp2_with fail
    refine (F60.out _).mono ?_
    rintro e w8 ⟨rfl, hb⟩
    replace PW := Lib.hid (PW.out.next hb)
    replace HB := Lib.hid (HB.out.trans (hb.mono HB.out.size))
    clear hb
    go_wp2_with fail
    refine (F65.out _).mono ?_
    rintro e w9 ⟨rfl, hb⟩
    replace PW := Lib.hid (PW.out.next hb)
    replace HB := Lib.hid (HB.out.trans (hb.mono HB.out.size))
    clear hb
    go_wp2_with fail
    refine (F69.out _).mono ?_
    rintro e w10 ⟨rfl, hb⟩
    replace PW := Lib.hid (PW.out.next hb)
    replace HB := Lib.hid (HB.out.trans (hb.mono HB.out.size))
    clear hb
    go_wp2_with fail
    refine (F70.out _).mono ?_
    rintro e w11 ⟨rfl, hb⟩
    replace PW := Lib.hid (PW.out.next hb)
    replace HB := Lib.hid (HB.out.trans (hb.mono HB.out.size))
    clear hb
    go_wp2_with fail
    refine (F77.out _).mono ?_
    rintro e w12 ⟨rfl, hb⟩
    replace PW := Lib.hid (PW.out.next hb)
    replace HB := Lib.hid (HB.out.trans (hb.mono HB.out.size))
    clear hb
    go_wp2_with fail
    refine (F78.out _).mono ?_
    rintro e w13 ⟨rfl, hb⟩
    replace PW := Lib.hid (PW.out.next hb)
    replace HB := Lib.hid (HB.out.trans (hb.mono HB.out.size))
    clear hb
    go_wp2_with fail
    refine (F82.out _).mono ?_
    rintro e w14 ⟨rfl, hb⟩
    replace PW := Lib.hid (PW.out.next hb)
    replace HB := Lib.hid (HB.out.trans (hb.mono HB.out.size))
    clear hb
    go_wp2_with fail
    refine (F83.out _).mono ?_
    rintro e w15 ⟨rfl, hb⟩
    replace PW := Lib.hid (PW.out.next hb)
    replace HB := Lib.hid (HB.out.trans (hb.mono HB.out.size))
    clear hb
    go_wp2_with fail
    refine (F88.out _).mono ?_
    rintro e w16 ⟨rfl, hb⟩
    replace PW := Lib.hid (PW.out.next hb)
    replace HB := Lib.hid (HB.out.trans (hb.mono HB.out.size))
    clear hb
    go_wp2_with fail
    refine (F90.out _).mono ?_
    rintro e wx ⟨rfl, hw⟩
    obtain rfl : w16 = wx := hw.symm
    clear hw
    go_wp2_with fail
    refine (F95.out _).mono ?_
    rintro e w17 ⟨rfl, hb⟩
    replace PW := Lib.hid (PW.out.next hb)
    replace HB := Lib.hid (HB.out.trans (hb.mono HB.out.size))
    clear hb
    go_wp2_with fail
    refine (F100.out _).mono ?_
    rintro e w18 ⟨rfl, hb⟩
    replace PW := Lib.hid (PW.out.next hb)
    replace HB := Lib.hid (HB.out.trans (hb.mono HB.out.size))
    clear hb
    go_wp2_with fail
    refine (F103.out _).mono ?_
    rintro e w19 ⟨rfl, hb⟩
    replace PW := Lib.hid (PW.out.next hb)
    replace HB := Lib.hid (HB.out.trans (hb.mono HB.out.size))
    clear hb
    go_wp2_with fail
    refine (F104.out _).mono ?_
    rintro e wx ⟨rfl, hw⟩
    obtain rfl : w19 = wx := hw.symm
    clear hw
    go_wp2_with fail
    refine (F107.out _).mono ?_
    rintro e wx ⟨rfl, hw⟩
    obtain rfl : w19 = wx := hw.symm
    clear hw
    go_wp2_with fail
    refine (F112.out _).mono ?_
    rintro e wx ⟨rfl, hw⟩
    obtain rfl : w19 = wx := hw.symm
    clear hw
    go_wp2_with fail
    refine (F115.out _).mono ?_
    rintro e wx ⟨rfl, hw⟩
    obtain rfl : w19 = wx := hw.symm
    clear hw
    go_wp2_with (first | (refine wpList_dst 116 rfl ?_; refine wpList_runG 116 rfl rfl _ (exec_negI (.tmp 115) rfl k' k FN.out.1 FN.out.2 rfl) ?_))
    refine (F121.out _).mono ?_
    rintro e wx ⟨rfl, hw⟩
    obtain rfl : w19 = wx := hw.symm
    clear hw
    by_cases hc0 : C = ⟨#[]⟩
    · rw [decide_eq_true hc0] at H122
      go_wp2_with (first | (refine wpList_dst 122 rfl ?_; refine wpList_runG 122 rfl rfl _ (exec_bin .eql 9 _ (.tmp 121) (.const (.string ⟨#[]⟩)) rfl _ _ _ rfl rfl rfl (H122.out _)) ?_))
      refine (F140.out _).mono ?_
      rintro e w20 ⟨rfl, hb⟩
      replace PW := Lib.hid (PW.out.next hb)
      replace HB := Lib.hid (HB.out.trans (hb.mono HB.out.size))
      clear hb
      go_wp2_with fail
      refine (F143.out _ PW.out).mono ?_
      rintro e w21 ⟨rfl, hb⟩
      replace PW := Lib.hid (PW.out.next hb)
      replace HB := Lib.hid (HB.out.trans (hb.mono HB.out.size))
      clear hb
      go_wp2_with fail
      refine (F160.out _).mono ?_
      rintro e wx ⟨rfl, hw⟩
      obtain rfl : w21 = wx := hw.symm
      clear hw
      go_wp2_with fail
      refine (F165.out _).mono ?_
      rintro e wx ⟨rfl, hw⟩
      obtain rfl : w21 = wx := hw.symm
      clear hw
      go_wp2_with fail
      refine (F169.out _).mono ?_
      rintro e wx ⟨rfl, hw⟩
      obtain rfl : w21 = wx := hw.symm
      clear hw
      go_wp2
      go_ret
      exact ⟨rfl, HB.out⟩
    · rw [decide_eq_false hc0] at H122
      have hc : 0 < nB u := Nat.pos_of_ne_zero fun h => hc0 (HCZ.out.2 h)
      go_wp2_with (first | (refine wpList_dst 122 rfl ?_; refine wpList_runG 122 rfl rfl _ (exec_bin .eql 9 _ (.tmp 121) (.const (.string ⟨#[]⟩)) rfl _ _ _ rfl rfl rfl (H122.out _)) ?_))
      refine (F126.out _).mono ?_
      rintro e w22 ⟨rfl, hb⟩
      replace PW := Lib.hid (PW.out.next hb)
      replace HB := Lib.hid (HB.out.trans (hb.mono HB.out.size))
      clear hb
      go_wp2_with fail
      refine (F129.out _).mono ?_
      rintro e w23 ⟨rfl, hb⟩
      replace PW := Lib.hid (PW.out.next hb)
      replace HB := Lib.hid (HB.out.trans (hb.mono HB.out.size))
      clear hb
      go_wp2_with fail
      refine (F130.out _ hc).mono ?_
      rintro e wx ⟨rfl, hw⟩
      obtain rfl : w23 = wx := hw.symm
      clear hw
      go_wp2_with fail
      refine (F133.out _).mono ?_
      rintro e wx ⟨rfl, hw⟩
      obtain rfl : w23 = wx := hw.symm
      clear hw
      go_wp2_with fail
      refine (F140.out _).mono ?_
      rintro e w24 ⟨rfl, hb⟩
      replace PW := Lib.hid (PW.out.next hb)
      replace HB := Lib.hid (HB.out.trans (hb.mono HB.out.size))
      clear hb
      go_wp2_with fail
      refine (F143.out _ PW.out).mono ?_
      rintro e w25 ⟨rfl, hb⟩
      replace PW := Lib.hid (PW.out.next hb)
      replace HB := Lib.hid (HB.out.trans (hb.mono HB.out.size))
      clear hb
      go_wp2_with fail
      refine (F160.out _).mono ?_
      rintro e wx ⟨rfl, hw⟩
      obtain rfl : w25 = wx := hw.symm
      clear hw
      go_wp2_with fail
      refine (F165.out _).mono ?_
      rintro e wx ⟨rfl, hw⟩
      obtain rfl : w25 = wx := hw.symm
      clear hw
      go_wp2_with fail
      refine (F169.out _).mono ?_
      rintro e wx ⟨rfl, hw⟩
      obtain rfl : w25 = wx := hw.symm
      clear hw
      go_wp2
      go_ret
      exact ⟨rfl, HB.out⟩
  · exact walk_semi_out s t u w hT h
end Go.Proofs.YtkjnfobaoaaopaaDoor
