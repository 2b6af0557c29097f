/- The walk of NatDivides. -/
import Derived.Test.YtkjnfobaoaaopaaDoorN37
namespace Go.Proofs.YtkjnfobaoaaopaaDoor
open Go.RowKit Hm Wm Wn

set_option maxRecDepth 1000000 in
set_option maxHeartbeats 2000000 in
theorem walk_divides_out (s t u : ByteArray) (w : World) (hT : Pow w) (h : ¬ (s.size ≤ 300 ∧ t.size ≤ 300 ∧ u.size ≤ 300)) : Calls Tryd.prog 4 #[.string s, .string t, .string u] w fun e w' => e = .returned (.bool true) ∧ Below w.heap.size w w' := by
  have HS := Lib.hid (sanity_any w hT)
  clear hT
  by_cases h0 : s.size ≤ 300
  · have gd0 : decide ((300 : Int) < (s.size : Int)) = false := decide_eq_false (by omega)
    have gd0' : decide (300 < s.size) = false := decide_eq_false (by omega)
    by_cases h1 : t.size ≤ 300
    · have gd1 : decide ((300 : Int) < (t.size : Int)) = false := decide_eq_false (by omega)
      have gd1' : decide (300 < t.size) = false := decide_eq_false (by omega)
      have gd2 : decide ((300 : Int) < (u.size : Int)) = true := decide_eq_true (by omega)
      have gd2' : decide (300 < u.size) = true := decide_eq_true (by omega)
      clear h h0 h1
      go_enter Tryd.func4, Tryd.ntmps4
      go_wp2_with fail
      refine HS.out.mono ?_
      rintro e w1 ⟨rfl, hb⟩
      have HB := Lib.hid hb
      clear hb HS
      go_wp2
      go_ret
      exact ⟨rfl, HB.out⟩
    · have gd1 : decide ((300 : Int) < (t.size : Int)) = true := decide_eq_true (by omega)
      have gd1' : decide (300 < t.size) = true := decide_eq_true (by omega)
      clear h h0 h1
      go_enter Tryd.func4, Tryd.ntmps4
      go_wp2_with fail
      refine HS.out.mono ?_
      rintro e w1 ⟨rfl, hb⟩
      have HB := Lib.hid hb
      clear hb HS
      go_wp2
      go_ret
      exact ⟨rfl, HB.out⟩
  · have gd0 : decide ((300 : Int) < (s.size : Int)) = true := decide_eq_true (by omega)
    have gd0' : decide (300 < s.size) = true := decide_eq_true (by omega)
    clear h h0
    go_enter Tryd.func4, Tryd.ntmps4
    go_wp2_with fail
    refine HS.out.mono ?_
    rintro e w1 ⟨rfl, hb⟩
    have HB := Lib.hid hb
    clear hb HS
    go_wp2
    go_ret
    exact ⟨rfl, HB.out⟩
set_option maxRecDepth 1000000 in
set_option maxHeartbeats 4000000 in
theorem walk_divides_zero (s t u : ByteArray) (w : World) (hT : Pow w) (hs : s.size ≤ 300) (ht : t.size ≤ 300) (hu : u.size ≤ 300) (h0 : nB t = 0) : Calls Tryd.prog 4 #[.string s, .string t, .string u] w fun e w' => e = .returned (.bool true) ∧ Below w.heap.size w w' := by
    have PW := Lib.hid hT
    have HB := Lib.hid (Below.refl w.heap.size w)
    have gd0 : decide ((300 : Int) < (s.size : Int)) = false := decide_eq_false (by omega)
    have gd0' : decide (300 < s.size) = false := decide_eq_false (by omega)
    have gd1 : decide ((300 : Int) < (t.size : Int)) = false := decide_eq_false (by omega)
    have gd1' : decide (300 < t.size) = false := decide_eq_false (by omega)
    have gd2 : decide ((300 : Int) < (u.size : Int)) = false := decide_eq_false (by omega)
    have gd2' : decide (300 < u.size) = false := decide_eq_false (by omega)
    have F28 := Lib.hid (fun W => cleanC t ⟨#[]⟩ W (by rw [h0]; exact c0))
    have F31 := Lib.hid (fun W h => sanity_any W h)
    clear hT hs ht hu h0
    go_enter Tryd.func4, Tryd.ntmps4
    go_wp2_with fail
    refine (F28.out _).mono ?_
    rintro e wx ⟨rfl, hw⟩
    obtain rfl : w = wx := hw.symm
    clear hw
    go_wp2_with fail
    refine (F31.out _ PW.out).mono ?_
    rintro e w1 ⟨rfl, hb⟩
    replace PW := Lib.hid (PW.out.next hb)
    replace HB := Lib.hid (HB.out.trans (hb.mono HB.out.size))
    clear hb
    go_wp2
    go_ret
    exact ⟨rfl, HB.out⟩
set_option maxRecDepth 1000000 in
set_option maxHeartbeats 4000000 in
theorem walk_divides (s t u : ByteArray) (w : World) (hT : Pow w) : Calls Tryd.prog 4 #[.string s, .string t, .string u] w fun e w' => e = .returned (.bool true) ∧ Below w.heap.size w w' := by
  by_cases h : s.size ≤ 300 ∧ t.size ≤ 300 ∧ u.size ≤ 300
  · obtain ⟨hs, ht, hu⟩ := h
    by_cases h0 : nB t = 0
    · exact walk_divides_zero s t u w hT hs ht hu h0
    have hp := Nat.pos_of_ne_zero h0
    have PW := Lib.hid hT
    have HB := Lib.hid (Below.refl w.heap.size w)
    have gd0 : decide ((300 : Int) < (s.size : Int)) = false := decide_eq_false (by omega)
    have gd0' : decide (300 < s.size) = false := decide_eq_false (by omega)
    have gd1 : decide ((300 : Int) < (t.size : Int)) = false := decide_eq_false (by omega)
    have gd1' : decide (300 < t.size) = false := decide_eq_false (by omega)
    have gd2 : decide ((300 : Int) < (u.size : Int)) = false := decide_eq_false (by omega)
    have gd2' : decide (300 < u.size) = false := decide_eq_false (by omega)
    obtain ⟨Q, eQ⟩ : ∃ z, cS (nB s / nB t) = z := ⟨_, rfl⟩
    have nQ : nB Q = nB s / nB t := by rw [← eQ, nB_cS]
    have zQ : Q.size ≤ 300 := by rw [← eQ]; exact cS_less (Nat.div_le_self _ _) hs
    obtain ⟨R, eR⟩ : ∃ z, cS (nB s % nB t) = z := ⟨_, rfl⟩
    have nR : nB R = nB s % nB t := by rw [← eR, nB_cS]
    have zR : R.size ≤ 300 := by rw [← eR]; exact cS_less (Nat.mod_le _ _) hs
    obtain ⟨M, eM⟩ : ∃ z, cS (nB s / nB t * nB t) = z := ⟨_, rfl⟩
    have nM : nB M = nB s / nB t * nB t := by rw [← eM, nB_cS]
    have zM : M.size ≤ 600 := by rw [← eM]; exact by have h1 := cS_prod zQ ht; rw [nQ] at h1; exact h1
    obtain ⟨V, eV⟩ : ∃ z, cS (nB u * nB t) = z := ⟨_, rfl⟩
    have nV : nB V = nB u * nB t := by rw [← eV, nB_cS]
    have zV : V.size ≤ 600 := by rw [← eV]; exact cS_prod hu ht
    obtain ⟨X, eX⟩ : ∃ z, cS (nB u * nB t + nB s % nB t) = z := ⟨_, rfl⟩
    have nX : nB X = nB u * nB t + nB s % nB t := by rw [← eX, nB_cS]
    have zX : X.size ≤ 601 := by rw [← eX]; exact by have h1 := cS_sum (x := V) (y := R) (k := 600) zV (by omega); rw [nV, nR] at h1; exact h1
    obtain ⟨A, eA⟩ : ∃ z, cS (nB s) = z := ⟨_, rfl⟩
    obtain ⟨B0, eB⟩ : ∃ z, cS (nB t) = z := ⟨_, rfl⟩
    obtain ⟨C, eC⟩ : ∃ z, cS (nB u) = z := ⟨_, rfl⟩
    have hne : B0 ≠ ⟨#[]⟩ := fun h => by rw [h] at eB; have h1 := congrArg nB eB; rw [nB_cS, nil_nB] at h1; exact h0 h1
    have H29 := Lib.hid (fun W => run_eqS B0 ⟨#[]⟩ false (decide_eq_false hne) W)
    have F28 := Lib.hid (fun W => cleanC t B0 W eB)
    have F35 := Lib.hid (fun W => divC s t Q R W (by omega) (by omega) h0 (by exact eQ) (by exact eR))
    have F44 := Lib.hid (fun W => cmpC R t (-1) W (by rw [nR]; unfold cmpN; rw [if_pos (Nat.mod_lt _ hp)]))
    have F50 := Lib.hid (fun W => mulC Q t M W (by omega) (by omega) (by rw [nQ]; exact eM))
    have F52 := Lib.hid (fun W => addC M R A W (by omega) (by omega) (by rw [nM, nR, Nat.div_add_mod']; exact eA))
    have F54 := Lib.hid (fun W => cleanC s A W eA)
    have F60 := Lib.hid (fun W => mulC u t V W (by omega) (by omega) (by exact eV))
    have F62 := Lib.hid (fun W => addC V R X W (by omega) (by omega) (by rw [nV, nR]; exact eX))
    have F64 := Lib.hid (fun W => divC X t C R W (by omega) (by omega) h0 (by rw [nX, Nat.mul_comm, Nat.mul_add_div hp, Nat.div_eq_of_lt (Nat.mod_lt _ hp), Nat.add_zero]; exact eC) (by rw [nX, Nat.mul_comm, Nat.mul_add_mod, Nat.mod_mod]; exact eR))
    have F68 := Lib.hid (fun W h => sanity_any W h)
    have F76 := Lib.hid (fun W => cleanC u C W eC)
    clear eQ nQ zQ eR nR zR eM nM zM eV nV zV eX nX zX eA eB eC hne hp h0 hT hs ht hu
    go_enter Tryd.func4, Tryd.ntmps4
    go_wp2_with fail
    refine (F28.out _).mono ?_
    rintro e wx ⟨rfl, hw⟩
    obtain rfl : w = wx := hw.symm
    clear hw
    go_wp2_with (first | (refine wpList_dst 29 rfl ?_; refine wpList_runG 29 rfl rfl _ (exec_bin .eql 9 _ (.tmp 28) (.const (.string ⟨#[]⟩)) rfl _ _ _ rfl rfl rfl (H29.out _)) ?_))
    refine (F35.out _).mono ?_
    rintro e w1 ⟨rfl, hb⟩
    replace PW := Lib.hid (PW.out.next hb)
    replace HB := Lib.hid (HB.out.trans (hb.mono HB.out.size))
    clear hb
    go_wp2_with fail
    refine (F44.out _).mono ?_
    rintro e wx ⟨rfl, hw⟩
    obtain rfl : w1 = wx := hw.symm
    clear hw
    go_wp2_with fail
    refine (F50.out _).mono ?_
    rintro e w2 ⟨rfl, hb⟩
    replace PW := Lib.hid (PW.out.next hb)
    replace HB := Lib.hid (HB.out.trans (hb.mono HB.out.size))
    clear hb
    go_wp2_with fail
    refine (F52.out _).mono ?_
    rintro e w3 ⟨rfl, hb⟩
    replace PW := Lib.hid (PW.out.next hb)
    replace HB := Lib.hid (HB.out.trans (hb.mono HB.out.size))
    clear hb
    go_wp2_with fail
    refine (F54.out _).mono ?_
    rintro e wx ⟨rfl, hw⟩
    obtain rfl : w3 = wx := hw.symm
    clear hw
    go_wp2_with fail
    refine (F60.out _).mono ?_
    rintro e w4 ⟨rfl, hb⟩
    replace PW := Lib.hid (PW.out.next hb)
    replace HB := Lib.hid (HB.out.trans (hb.mono HB.out.size))
    clear hb
    go_wp2_with fail
    refine (F62.out _).mono ?_
    rintro e w5 ⟨rfl, hb⟩
    replace PW := Lib.hid (PW.out.next hb)
    replace HB := Lib.hid (HB.out.trans (hb.mono HB.out.size))
    clear hb
    go_wp2_with fail
    refine (F64.out _).mono ?_
    rintro e w6 ⟨rfl, hb⟩
    replace PW := Lib.hid (PW.out.next hb)
    replace HB := Lib.hid (HB.out.trans (hb.mono HB.out.size))
    clear hb
    go_wp2_with fail
    refine (F68.out _ PW.out).mono ?_
    rintro e w7 ⟨rfl, hb⟩
    replace PW := Lib.hid (PW.out.next hb)
    replace HB := Lib.hid (HB.out.trans (hb.mono HB.out.size))
    clear hb
    go_wp2_with fail
    refine (F76.out _).mono ?_
    rintro e wx ⟨rfl, hw⟩
    obtain rfl : w7 = wx := hw.symm
    clear hw
    go_wp2
    go_ret
    exact ⟨rfl, HB.out⟩
  · exact walk_divides_out s t u w hT h
end Go.Proofs.YtkjnfobaoaaopaaDoor
