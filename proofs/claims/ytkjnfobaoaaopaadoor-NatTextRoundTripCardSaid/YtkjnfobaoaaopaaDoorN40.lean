/- The walk of NatCommonDivisors. -/
import Derived.Test.YtkjnfobaoaaopaaDoorN39
namespace Go.Proofs.YtkjnfobaoaaopaaDoor
open Go.RowKit Hm Wm Wn

theorem run_neqS (x y : ByteArray) (b : Bool) (h : decide (x ≠ y) = b) (w : World) : (binOp .neq 9 (.string x) (.string y)).run Tryd.prog w = .ok (.bool b) w := by
  subst h
  have h1 := run_neq_str w x.data.toList y.data.toList
  rw [show sb x.data.toList = x by cases x; simp [sb], show sb y.data.toList = y by cases y; simp [sb]] at h1
  rw [h1]
  congr 2
  refine decide_eq_decide.2 ⟨fun h e => h (by rw [e]), fun h e => h ?_⟩
  cases x
  cases y
  simpa using e
theorem cS_gcd {x y : ByteArray} {k : Nat} (hx : x.size ≤ k) (hy : y.size ≤ k) : (cS (Nat.gcd (nB x) (nB y))).size ≤ k + 1 := by
  have h1 : nB x < 256 ^ k := Nat.lt_of_lt_of_le (nB_lt x) (Nat.pow_le_pow_right (by decide) hx)
  have h2 : nB y < 256 ^ k := Nat.lt_of_lt_of_le (nB_lt y) (Nat.pow_le_pow_right (by decide) hy)
  refine cS_len (Nat.lt_of_le_of_lt (gcd_sum _ _) ?_)
  rw [Nat.pow_succ]
  omega
theorem cS_nil {n : Nat} {z : ByteArray} (h : cS n = z) : z = ⟨#[]⟩ ↔ n = 0 :=
  ⟨fun e => by rw [e] at h; have h1 := congrArg nB h; rw [nB_cS, nil_nB] at h1; exact h1, fun e => by rw [← h, e]; exact c0⟩
set_option maxRecDepth 1000000 in
set_option maxHeartbeats 2000000 in
theorem walk_common_out (s t u : ByteArray) (w : World) (hT : Pow w) (h : ¬ (s.size ≤ 100 ∧ t.size ≤ 100 ∧ u.size ≤ 100)) : Calls Tryd.prog 5 #[.string s, .string t, .string u] w fun e w' => e = .returned (.bool true) ∧ Below w.heap.size w w' := by
  have HS := Lib.hid (sanity_any w hT)
  clear hT
  by_cases h0 : s.size ≤ 100
  · have gd0 : decide ((100 : Int) < (s.size : Int)) = false := decide_eq_false (by omega)
    have gd0' : decide (100 < s.size) = false := decide_eq_false (by omega)
    by_cases h1 : t.size ≤ 100
    · have gd1 : decide ((100 : Int) < (t.size : Int)) = false := decide_eq_false (by omega)
      have gd1' : decide (100 < t.size) = false := decide_eq_false (by omega)
      have gd2 : decide ((100 : Int) < (u.size : Int)) = true := decide_eq_true (by omega)
      have gd2' : decide (100 < u.size) = true := decide_eq_true (by omega)
      clear h h0 h1
      go_enter Tryd.func5, Tryd.ntmps5
      go_wp2_with fail
      refine HS.out.mono ?_
      rintro e w1 ⟨rfl, hb⟩
      have HB := Lib.hid hb
      clear hb HS
      go_wp2
      go_ret
      exact ⟨rfl, HB.out⟩
    · have gd1 : decide ((100 : Int) < (t.size : Int)) = true := decide_eq_true (by omega)
      have gd1' : decide (100 < t.size) = true := decide_eq_true (by omega)
      clear h h0 h1
      go_enter Tryd.func5, Tryd.ntmps5
      go_wp2_with fail
      refine HS.out.mono ?_
      rintro e w1 ⟨rfl, hb⟩
      have HB := Lib.hid hb
      clear hb HS
      go_wp2
      go_ret
      exact ⟨rfl, HB.out⟩
  · have gd0 : decide ((100 : Int) < (s.size : Int)) = true := decide_eq_true (by omega)
    have gd0' : decide (100 < s.size) = true := decide_eq_true (by omega)
    clear h h0
    go_enter Tryd.func5, Tryd.ntmps5
    go_wp2_with fail
    refine HS.out.mono ?_
    rintro e w1 ⟨rfl, hb⟩
    have HB := Lib.hid hb
    clear hb HS
    go_wp2
    go_ret
    exact ⟨rfl, HB.out⟩
set_option maxRecDepth 1000000 in
set_option maxHeartbeats 4000000 in
theorem walk_common (s t u : ByteArray) (w : World) (hT : Pow w) : Calls Tryd.prog 5 #[.string s, .string t, .string u] w fun e w' => e = .returned (.bool true) ∧ Below w.heap.size w w' := by
  by_cases h : s.size ≤ 100 ∧ t.size ≤ 100 ∧ u.size ≤ 100
  · obtain ⟨hs, ht, hu⟩ := h
    have PW := Lib.hid hT
    have HB := Lib.hid (Below.refl w.heap.size w)
    have gd0 : decide ((100 : Int) < (s.size : Int)) = false := decide_eq_false (by omega)
    have gd0' : decide (100 < s.size) = false := decide_eq_false (by omega)
    have gd1 : decide ((100 : Int) < (t.size : Int)) = false := decide_eq_false (by omega)
    have gd1' : decide (100 < t.size) = false := decide_eq_false (by omega)
    have gd2 : decide ((100 : Int) < (u.size : Int)) = false := decide_eq_false (by omega)
    have gd2' : decide (100 < u.size) = false := decide_eq_false (by omega)
    obtain ⟨G, eG⟩ : ∃ z, cS (Nat.gcd (nB s) (nB t)) = z := ⟨_, rfl⟩
    have nG : nB G = Nat.gcd (nB s) (nB t) := by rw [← eG, nB_cS]
    have zG : G.size ≤ 101 := by rw [← eG]; exact cS_gcd hs ht
    obtain ⟨U, eU⟩ : ∃ z, cS (nB s * nB u) = z := ⟨_, rfl⟩
    have nU : nB U = nB s * nB u := by rw [← eU, nB_cS]
    have zU : U.size ≤ 200 := by rw [← eU]; exact cS_prod hs hu
    obtain ⟨V, eV⟩ : ∃ z, cS (nB t * nB u) = z := ⟨_, rfl⟩
    have nV : nB V = nB t * nB u := by rw [← eV, nB_cS]
    have zV : V.size ≤ 200 := by rw [← eV]; exact cS_prod ht hu
    obtain ⟨A, eA⟩ : ∃ z, cS (nB s) = z := ⟨_, rfl⟩
    obtain ⟨B0, eB⟩ : ∃ z, cS (nB t) = z := ⟨_, rfl⟩
    obtain ⟨C, eC⟩ : ∃ z, cS (nB u) = z := ⟨_, rfl⟩
    obtain ⟨D, eD⟩ : ∃ z, cS (Nat.gcd (nB s) (nB t) * nB u) = z := ⟨_, rfl⟩
    have F33 := Lib.hid (fun W => gcdC s t G W (by omega) (by omega) (by exact eG))
    have F37 := Lib.hid (fun W => gcdC t s G W (by omega) (by omega) (by rw [Nat.gcd_comm]; exact eG))
    have F42 := Lib.hid (fun W => mulC s u U W (by omega) (by omega) (by exact eU))
    have F45 := Lib.hid (fun W => mulC t u V W (by omega) (by omega) (by exact eV))
    have F46 := Lib.hid (fun W => gcdC U V D W (by omega) (by omega) (by rw [nU, nV, Nat.gcd_mul_right]; exact eD))
    have F49 := Lib.hid (fun W => mulC G u D W (by omega) (by omega) (by rw [nG]; exact eD))
    have hG := cS_nil eG
    have hC := cS_nil eC
    by_cases hg : G = ⟨#[]⟩
    · obtain ⟨ha, hb⟩ := Nat.gcd_eq_zero_iff.1 (hG.1 hg)
      have F57 := Lib.hid (fun W => cleanC s ⟨#[]⟩ W (by rw [ha]; exact c0))
      have F62 := Lib.hid (fun W => cleanC t ⟨#[]⟩ W (by rw [hb]; exact c0))
      have F54 := Lib.hid (fun W h => sanity_any W h)
      clear hs ht hu hT eA eB eC eD eG nG zG eU nU zU eV nV zV hG hC ha hb
      subst hg
      go_enter Tryd.func5, Tryd.ntmps5
      go_wp2_with fail
      refine (F33.out _).mono ?_
      rintro e w1 ⟨rfl, hb⟩
      replace PW := Lib.hid (PW.out.next hb)
      replace HB := Lib.hid (HB.out.trans (hb.mono HB.out.size))
      clear hb
      go_wp2_with fail
      refine (F37.out _).mono ?_
      rintro e w2 ⟨rfl, hb⟩
      replace PW := Lib.hid (PW.out.next hb)
      replace HB := Lib.hid (HB.out.trans (hb.mono HB.out.size))
      clear hb
      go_wp2_with fail
      refine (F42.out _).mono ?_
      rintro e w3 ⟨rfl, hb⟩
      replace PW := Lib.hid (PW.out.next hb)
      replace HB := Lib.hid (HB.out.trans (hb.mono HB.out.size))
      clear hb
      go_wp2_with fail
      refine (F45.out _).mono ?_
      rintro e w4 ⟨rfl, hb⟩
      replace PW := Lib.hid (PW.out.next hb)
      replace HB := Lib.hid (HB.out.trans (hb.mono HB.out.size))
      clear hb
      go_wp2_with fail
      refine (F46.out _).mono ?_
      rintro e w5 ⟨rfl, hb⟩
      replace PW := Lib.hid (PW.out.next hb)
      replace HB := Lib.hid (HB.out.trans (hb.mono HB.out.size))
      clear hb
      go_wp2_with fail
      refine (F49.out _).mono ?_
      rintro e w6 ⟨rfl, hb⟩
      replace PW := Lib.hid (PW.out.next hb)
      replace HB := Lib.hid (HB.out.trans (hb.mono HB.out.size))
      clear hb
      go_wp2_with fail
      refine (F54.out _ PW.out).mono ?_
      rintro e w7 ⟨rfl, hb⟩
      replace PW := Lib.hid (PW.out.next hb)
      replace HB := Lib.hid (HB.out.trans (hb.mono HB.out.size))
      clear hb
      go_wp2_with fail
      refine (F57.out _).mono ?_
      rintro e wx ⟨rfl, hw⟩
      obtain rfl : w7 = wx := hw.symm
      clear hw
      go_wp2_with fail
      refine (F62.out _).mono ?_
      rintro e wx ⟨rfl, hw⟩
      obtain rfl : w7 = wx := hw.symm
      clear hw
      go_wp2
      go_ret
      exact ⟨rfl, HB.out⟩
    · have hg0 : Nat.gcd (nB s) (nB t) ≠ 0 := fun h => hg (hG.2 h)
      have hgn : nB G ≠ 0 := by rw [nG]; exact hg0
      have H53 := Lib.hid (fun W => run_eqS G ⟨#[]⟩ false (decide_eq_false hg) W)
      obtain ⟨D1, e1⟩ : ∃ z, cS (nB s / nB G) = z := ⟨_, rfl⟩
      obtain ⟨D2, e2⟩ : ∃ z, cS (nB t / nB G) = z := ⟨_, rfl⟩
      have m1 : nB s % nB G = 0 := by rw [nG]; exact Nat.mod_eq_zero_of_dvd (Nat.gcd_dvd_left _ _)
      have m2 : nB t % nB G = 0 := by rw [nG]; exact Nat.mod_eq_zero_of_dvd (Nat.gcd_dvd_right _ _)
      have F68 := Lib.hid (fun W => divC s G D1 ⟨#[]⟩ W (by omega) (by omega) hgn (by exact e1) (by rw [m1]; exact c0))
      have F75 := Lib.hid (fun W => divC t G D2 ⟨#[]⟩ W (by omega) (by omega) hgn (by exact e2) (by rw [m2]; exact c0))
      have F94 := Lib.hid (fun W => cleanC u C W eC)
      by_cases hc : C = ⟨#[]⟩
      · have F96 := Lib.hid (fun W h => sanity_any W h)
        clear hs ht hu hT eA eB eC eD eG nG zG eU nU zU eV nV zV hG hC hg0 hgn e1 e2 m1 m2 hg
        subst hc
        go_enter Tryd.func5, Tryd.ntmps5
        go_wp2_with fail
        refine (F33.out _).mono ?_
        rintro e w1 ⟨rfl, hb⟩
        replace PW := Lib.hid (PW.out.next hb)
        replace HB := Lib.hid (HB.out.trans (hb.mono HB.out.size))
        clear hb
        go_wp2_with fail
        refine (F37.out _).mono ?_
        rintro e w2 ⟨rfl, hb⟩
        replace PW := Lib.hid (PW.out.next hb)
        replace HB := Lib.hid (HB.out.trans (hb.mono HB.out.size))
        clear hb
        go_wp2_with fail
        refine (F42.out _).mono ?_
        rintro e w3 ⟨rfl, hb⟩
        replace PW := Lib.hid (PW.out.next hb)
        replace HB := Lib.hid (HB.out.trans (hb.mono HB.out.size))
        clear hb
        go_wp2_with fail
        refine (F45.out _).mono ?_
        rintro e w4 ⟨rfl, hb⟩
        replace PW := Lib.hid (PW.out.next hb)
        replace HB := Lib.hid (HB.out.trans (hb.mono HB.out.size))
        clear hb
        go_wp2_with fail
        refine (F46.out _).mono ?_
        rintro e w5 ⟨rfl, hb⟩
        replace PW := Lib.hid (PW.out.next hb)
        replace HB := Lib.hid (HB.out.trans (hb.mono HB.out.size))
        clear hb
        go_wp2_with fail
        refine (F49.out _).mono ?_
        rintro e w6 ⟨rfl, hb⟩
        replace PW := Lib.hid (PW.out.next hb)
        replace HB := Lib.hid (HB.out.trans (hb.mono HB.out.size))
        clear hb
        go_wp2_with (first | (refine wpList_dst 53 rfl ?_; refine wpList_runG 53 rfl rfl _ (exec_bin .eql 9 _ (.tmp 52) (.const (.string ⟨#[]⟩)) rfl _ _ _ rfl rfl rfl (H53.out _)) ?_))
        refine (F68.out _).mono ?_
        rintro e w7 ⟨rfl, hb⟩
        replace PW := Lib.hid (PW.out.next hb)
        replace HB := Lib.hid (HB.out.trans (hb.mono HB.out.size))
        clear hb
        go_wp2_with fail
        refine (F75.out _).mono ?_
        rintro e w8 ⟨rfl, hb⟩
        replace PW := Lib.hid (PW.out.next hb)
        replace HB := Lib.hid (HB.out.trans (hb.mono HB.out.size))
        clear hb
        go_wp2_with fail
        refine (F94.out _).mono ?_
        rintro e wx ⟨rfl, hw⟩
        obtain rfl : w8 = wx := hw.symm
        clear hw
        go_wp2_with fail
        refine (F96.out _ PW.out).mono ?_
        rintro e w9 ⟨rfl, hb⟩
        replace PW := Lib.hid (PW.out.next hb)
        replace HB := Lib.hid (HB.out.trans (hb.mono HB.out.size))
        clear hb
        go_wp2
        go_ret
        exact ⟨rfl, HB.out⟩
      · have hc0 : nB u ≠ 0 := fun h => hc (hC.2 h)
        have H95 := Lib.hid (fun W => run_eqS C ⟨#[]⟩ false (decide_eq_false hc) W)
        obtain ⟨Q1, q1⟩ : ∃ z, cS (nB s / nB u) = z := ⟨_, rfl⟩
        obtain ⟨Q2, q2⟩ : ∃ z, cS (nB t / nB u) = z := ⟨_, rfl⟩
        obtain ⟨Q3, q3⟩ : ∃ z, cS (nB G / nB u) = z := ⟨_, rfl⟩
        obtain ⟨R1, r1⟩ : ∃ z, cS (nB s % nB u) = z := ⟨_, rfl⟩
        obtain ⟨R2, r2⟩ : ∃ z, cS (nB t % nB u) = z := ⟨_, rfl⟩
        obtain ⟨R3, r3⟩ : ∃ z, cS (nB G % nB u) = z := ⟨_, rfl⟩
        have hR3 : R1 = ⟨#[]⟩ → R2 = ⟨#[]⟩ → R3 = ⟨#[]⟩ := fun h1 h2 => by
          refine (cS_nil r3).2 ?_
          rw [nG]
          exact Nat.mod_eq_zero_of_dvd (Nat.dvd_gcd (Nat.dvd_of_mod_eq_zero ((cS_nil r1).1 h1)) (Nat.dvd_of_mod_eq_zero ((cS_nil r2).1 h2)))
        have HR3 := Lib.hid hR3
        have F100 := Lib.hid (fun W => divC s u Q1 R1 W (by omega) (by omega) hc0 (by exact q1) (by exact r1))
        have F107 := Lib.hid (fun W => divC t u Q2 R2 W (by omega) (by omega) hc0 (by exact q2) (by exact r2))
        have F114 := Lib.hid (fun W => divC G u Q3 R3 W (by omega) (by omega) hc0 (by exact q3) (by exact r3))
        have F118 := Lib.hid (fun W h => sanity_any W h)
        clear hs ht hu hT eA eB eC eD eG nG zG eU nU zU eV nV zV hG hC hg0 hgn e1 e2 m1 m2 hg hc hc0 q1 q2 q3 r1 r2 r3 hR3
        go_enter Tryd.func5, Tryd.ntmps5
        go_wp2_with fail
        refine (F33.out _).mono ?_
        rintro e w1 ⟨rfl, hb⟩
        replace PW := Lib.hid (PW.out.next hb)
        replace HB := Lib.hid (HB.out.trans (hb.mono HB.out.size))
        clear hb
        go_wp2_with fail
        refine (F37.out _).mono ?_
        rintro e w2 ⟨rfl, hb⟩
        replace PW := Lib.hid (PW.out.next hb)
        replace HB := Lib.hid (HB.out.trans (hb.mono HB.out.size))
        clear hb
        go_wp2_with fail
        refine (F42.out _).mono ?_
        rintro e w3 ⟨rfl, hb⟩
        replace PW := Lib.hid (PW.out.next hb)
        replace HB := Lib.hid (HB.out.trans (hb.mono HB.out.size))
        clear hb
        go_wp2_with fail
        refine (F45.out _).mono ?_
        rintro e w4 ⟨rfl, hb⟩
        replace PW := Lib.hid (PW.out.next hb)
        replace HB := Lib.hid (HB.out.trans (hb.mono HB.out.size))
        clear hb
        go_wp2_with fail
        refine (F46.out _).mono ?_
        rintro e w5 ⟨rfl, hb⟩
        replace PW := Lib.hid (PW.out.next hb)
        replace HB := Lib.hid (HB.out.trans (hb.mono HB.out.size))
        clear hb
        go_wp2_with fail
        refine (F49.out _).mono ?_
        rintro e w6 ⟨rfl, hb⟩
        replace PW := Lib.hid (PW.out.next hb)
        replace HB := Lib.hid (HB.out.trans (hb.mono HB.out.size))
        clear hb
        go_wp2_with (first | (refine wpList_dst 53 rfl ?_; refine wpList_runG 53 rfl rfl _ (exec_bin .eql 9 _ (.tmp 52) (.const (.string ⟨#[]⟩)) rfl _ _ _ rfl rfl rfl (H53.out _)) ?_))
        refine (F68.out _).mono ?_
        rintro e w7 ⟨rfl, hb⟩
        replace PW := Lib.hid (PW.out.next hb)
        replace HB := Lib.hid (HB.out.trans (hb.mono HB.out.size))
        clear hb
        go_wp2_with fail
        refine (F75.out _).mono ?_
        rintro e w8 ⟨rfl, hb⟩
        replace PW := Lib.hid (PW.out.next hb)
        replace HB := Lib.hid (HB.out.trans (hb.mono HB.out.size))
        clear hb
        go_wp2_with fail
        refine (F94.out _).mono ?_
        rintro e wx ⟨rfl, hw⟩
        obtain rfl : w8 = wx := hw.symm
        clear hw
        go_wp2_with (first | (refine wpList_dst 95 rfl ?_; refine wpList_runG 95 rfl rfl _ (exec_bin .eql 9 _ (.tmp 94) (.const (.string ⟨#[]⟩)) rfl _ _ _ rfl rfl rfl (H95.out _)) ?_))
        refine (F100.out _).mono ?_
        rintro e w9 ⟨rfl, hb⟩
        replace PW := Lib.hid (PW.out.next hb)
        replace HB := Lib.hid (HB.out.trans (hb.mono HB.out.size))
        clear hb
        go_wp2_with fail
        refine (F107.out _).mono ?_
        rintro e w10 ⟨rfl, hb⟩
        replace PW := Lib.hid (PW.out.next hb)
        replace HB := Lib.hid (HB.out.trans (hb.mono HB.out.size))
        clear hb
        go_wp2_with fail
        refine (F114.out _).mono ?_
        rintro e w11 ⟨rfl, hb⟩
        replace PW := Lib.hid (PW.out.next hb)
        replace HB := Lib.hid (HB.out.trans (hb.mono HB.out.size))
        clear hb
        go_wp2_with fail
        refine (F118.out _ PW.out).mono ?_
        rintro e w12 ⟨rfl, hb⟩
        replace PW := Lib.hid (PW.out.next hb)
        replace HB := Lib.hid (HB.out.trans (hb.mono HB.out.size))
        clear hb
        by_cases h1 : R1 = ⟨#[]⟩
        · by_cases h2 : R2 = ⟨#[]⟩
          · have h3 := HR3.out h1 h2
            subst h1
            subst h2
            subst h3
            go_wp2
            go_ret
            exact ⟨rfl, HB.out⟩
          · subst h1
            have H136 := Lib.hid (fun W => run_neqS R2 ⟨#[]⟩ true (decide_eq_true h2) W)
            clear h2
            go_wp2_with (first | (refine wpList_dst 136 rfl ?_; refine wpList_runG 136 rfl rfl _ (exec_bin .neq 9 _ (.tmp 135) (.const (.string ⟨#[]⟩)) rfl _ _ _ rfl rfl rfl (H136.out _)) ?_))
            go_ret
            exact ⟨rfl, HB.out⟩
        · have H133 := Lib.hid (fun W => run_neqS R1 ⟨#[]⟩ true (decide_eq_true h1) W)
          clear h1
          go_wp2_with (first | (refine wpList_dst 133 rfl ?_; refine wpList_runG 133 rfl rfl _ (exec_bin .neq 9 _ (.tmp 132) (.const (.string ⟨#[]⟩)) rfl _ _ _ rfl rfl rfl (H133.out _)) ?_))
          go_ret
          exact ⟨rfl, HB.out⟩
  · exact walk_common_out s t u w hT h
end Go.Proofs.YtkjnfobaoaaopaaDoor
