/- The reference: inside, natural and lowest. -/
import Derived.Test.YtibfmcohodhkbaaGreatDoorS1
namespace Go.Proofs.YtibfmcohodhkbaaGreatDoor
open Go.RowKit Hm Wm Wn

set_option maxRecDepth 100000 in
theorem inside_any (n : Int) (w : World) : Calls Tryz.prog 43 #[.int .i64 n] w fun e w' => e = .returned (.bool (decide (-999999999999999 ≤ n ∧ n ≤ 999999999999999))) ∧ Below w.heap.size w w' := by
  by_cases h1 : -999999999999999 ≤ n
  · have c1 : decide ((-999999999999999 : Int) ≤ n) = true := decide_eq_true h1
    by_cases h2 : n ≤ 999999999999999
    · have c2 : decide (n ≤ (999999999999999 : Int)) = true := decide_eq_true h2
      rw [decide_eq_true (p := -999999999999999 ≤ n ∧ n ≤ 999999999999999) ⟨h1, h2⟩]
      go_enter Tryz.func43, Tryz.ntmps43
      go_wp2
      go_ret
      exact ⟨rfl, Below.refl _ _⟩
    · have c2 : decide (n ≤ (999999999999999 : Int)) = false := decide_eq_false h2
      rw [decide_eq_false (p := -999999999999999 ≤ n ∧ n ≤ 999999999999999) (fun h => h2 h.2)]
      go_enter Tryz.func43, Tryz.ntmps43
      go_wp2
      go_ret
      exact ⟨rfl, Below.refl _ _⟩
  · have c1 : decide ((-999999999999999 : Int) ≤ n) = false := decide_eq_false h1
    rw [decide_eq_false (p := -999999999999999 ≤ n ∧ n ≤ 999999999999999) (fun h => h1 h.1)]
    go_enter Tryz.func43, Tryz.ntmps43
    go_wp2
    go_ret
    exact ⟨rfl, Below.refl _ _⟩
set_option maxRecDepth 100000 in
set_option maxHeartbeats 800000 in
theorem natl_neg (n : Int) (z : ByteArray) (w : World) (c1 : decide (n < 0) = true) (hn : -9000000000000000000 ≤ n ∧ n ≤ 9000000000000000000) (h8 : (∀ W, Calls Tryz.prog 80 #[.int .i64 (-n)] W fun e w' => e = .returned (.agg #[.string z, .int .i64 0]) ∧ Below W.heap.size W w')) : Calls Tryz.prog 45 #[.int .i64 n] w fun e w' => e = .returned (.string z) ∧ Below w.heap.size w w' := by
  have HW := Lib.hid (Below.refl w.heap.size w)
  have hb := Lib.hid hn
  have F8 := Lib.hid h8
  clear h8 hn
  go_enter Tryz.func45, Tryz.ntmps45
  go_wp2_with (first | (refine wpList_dst 6 rfl ?_; refine wpList_run 6 rfl rfl _ (exec_negZ (.tmp 5) rfl n hb.out rfl) ?_; go_frame))
  refine (F8.out _).mono ?_
  rintro e w1 ⟨rfl, hb⟩
  replace HW := Lib.hid (HW.out.trans (hb.mono HW.out.size))
  clear hb
  go_wp2_with (first | (refine wpList_dst 9 rfl ?_; refine wpList_run 9 rfl rfl _ (exec_field 79 (.tmp 8) 0 rfl _ _ rfl (run_fldM _ _ _)) ?_; go_frame))
  go_ret
  exact ⟨rfl, HW.out⟩
set_option maxRecDepth 100000 in
set_option maxHeartbeats 800000 in
theorem natl_pos (n : Int) (z : ByteArray) (w : World) (c1 : decide (n < 0) = false) (hn : -9000000000000000000 ≤ n ∧ n ≤ 9000000000000000000) (h8 : (∀ W, Calls Tryz.prog 80 #[.int .i64 (n)] W fun e w' => e = .returned (.agg #[.string z, .int .i64 0]) ∧ Below W.heap.size W w')) : Calls Tryz.prog 45 #[.int .i64 n] w fun e w' => e = .returned (.string z) ∧ Below w.heap.size w w' := by
  have HW := Lib.hid (Below.refl w.heap.size w)
  have hb := Lib.hid hn
  have F8 := Lib.hid h8
  clear h8 hn
  go_enter Tryz.func45, Tryz.ntmps45
  go_wp2_with fail
  refine (F8.out _).mono ?_
  rintro e w1 ⟨rfl, hb⟩
  replace HW := Lib.hid (HW.out.trans (hb.mono HW.out.size))
  clear hb
  go_wp2_with (first | (refine wpList_dst 9 rfl ?_; refine wpList_run 9 rfl rfl _ (exec_field 79 (.tmp 8) 0 rfl _ _ rfl (run_fldM _ _ _)) ?_; go_frame))
  go_ret
  exact ⟨rfl, HW.out⟩
theorem natl_any (n : Int) (w : World) (h : -999999999999999 ≤ n ∧ n ≤ 999999999999999) : Calls Tryz.prog 45 #[.int .i64 n] w fun e w' => e = .returned (.string (cS n.natAbs)) ∧ Below w.heap.size w w' := by
  by_cases h0 : n < 0
  · exact natl_neg n _ w (decide_eq_true h0) (by omega) (fun W => by rw [show -n = ((n.natAbs : Nat) : Int) by omega]; exact rint_any n.natAbs W (by omega))
  · refine natl_pos n _ w (decide_eq_false h0) (by omega) (fun W => ?_)
    have h1 := rint_any n.natAbs W (by omega)
    rwa [show ((n.natAbs : Nat) : Int) = n by omega] at h1
theorem run_fldD0 (y z : ByteArray) (k : Int) (W : World) : (Instr.field 68 (.agg #[.string y, .string z, .int .i64 k]) 0).run Tryz.prog W = .ok (.string y) W := by kernel_rfl
set_option maxRecDepth 100000 in
set_option maxHeartbeats 800000 in
theorem low_zero (b : Bool) (s t x : ByteArray) (w : World) (h11 : decide (x = ⟨#[]⟩) = true) (h9 : (∀ W, Calls Tryz.prog 79 #[.string s] W fun e w' => e = .returned (.string x) ∧ Below W.heap.size W w')) : Calls Tryz.prog 44 #[.bool b, .string s, .string t] w fun e w' => e = .returned (.agg #[.bool false, .string ⟨#[]⟩, .string ⟨#[]⟩]) ∧ Below w.heap.size w w' := by
  obtain ⟨W1, hW1⟩ : ∃ W, W = w.alloc (.cells #[.bool false, .string ⟨#[]⟩, .string ⟨#[]⟩] 23) := ⟨_, rfl⟩
  have HZ : Hid (Blk W1 w.heap.size 23 [.bool false, .string ⟨#[]⟩, .string ⟨#[]⟩]) := Lib.hid (by rw [hW1]; exact Blk.new w 23 [.bool false, .string ⟨#[]⟩, .string ⟨#[]⟩])
  have HW : Hid (Below w.heap.size w W1) := Lib.hid (by rw [hW1]; exact (Below.refl w.heap.size w).alloc (Nat.le_refl _) _)
  have F9 := Lib.hid h9
  have H11 := Lib.hid (fun W => run_eqS x ⟨#[]⟩ true h11 W)
  clear h9 h11
  go_enter Tryz.func44, Tryz.ntmps44
  go_wp2_with fail
  rw [← hW1]
  clear hW1
  refine (F9.out _).mono ?_
  rintro e w1 ⟨rfl, hb⟩
  replace HZ := Lib.hid (HZ.out.next hb)
  replace HW := Lib.hid (HW.out.trans (hb.mono HW.out.size))
  clear hb
  go_wp2_with (first | (refine wpList_dst 11 rfl ?_; refine wpList_run 11 rfl rfl _ (exec_bin .eql 9 _ (.tmp 10) (.const (.string ⟨#[]⟩)) rfl _ _ _ rfl rfl rfl (H11.out _)) ?_; go_frame) | (refine wpList_dst 12 rfl ?_; refine wpList_run 12 rfl rfl _ (exec_build0 23 rfl _ (qr_nil _)) ?_; go_frame) | (refine wpList_store_all rfl 23 (.tmp 6) (.tmp 12) rfl (w.heap.size) _ [.bool false, .string ⟨#[]⟩, .string ⟨#[]⟩] [.bool false, .string ⟨#[]⟩, .string ⟨#[]⟩] rfl rfl HZ.out rfl qr_size (List.forall_mem_cons.2 ⟨rfl, (List.forall_mem_cons.2 ⟨rfl, (List.forall_mem_cons.2 ⟨rfl, fun _ h => nomatch h⟩)⟩)⟩) ?_; intro w9 HK9 ho9; have HO9 := Lib.hid ho9; clear ho9))
  exact bodyPost_ret (results_blk rfl _ _ (w.heap.size) _ [.bool false, .string ⟨#[]⟩, .string ⟨#[]⟩] _ rfl HK9.out Tryz.underlying23 rfl qr_size) rfl ⟨rfl, HW.out.trans (HO9.out.below (by omega))⟩
set_option maxRecDepth 100000 in
set_option maxHeartbeats 800000 in
theorem low_pos (b : Bool) (s t x g N D r1 r2 : ByteArray) (k1 k2 : Int) (w : World) (h11 : decide (x = ⟨#[]⟩) = false) (h9 : (∀ W, Calls Tryz.prog 79 #[.string s] W fun e w' => e = .returned (.string x) ∧ Below W.heap.size W w')) (h15 : (∀ W, Calls Tryz.prog 61 #[.string x, .string t] W fun e w' => e = .returned (.string g) ∧ Below W.heap.size W w')) (h19 : (∀ W, Calls Tryz.prog 53 #[.string x, .string g] W fun e w' => e = .returned (.agg #[.string N, .string r1, .int .i64 k1]) ∧ Below W.heap.size W w')) (h23 : (∀ W, Calls Tryz.prog 53 #[.string t, .string g] W fun e w' => e = .returned (.agg #[.string D, .string r2, .int .i64 k2]) ∧ Below W.heap.size W w')) : Calls Tryz.prog 44 #[.bool b, .string s, .string t] w fun e w' => e = .returned (.agg #[.bool b, .string N, .string D]) ∧ Below w.heap.size w w' := by
  obtain ⟨W1, hW1⟩ : ∃ W, W = w.alloc (.cells #[.bool false, .string ⟨#[]⟩, .string ⟨#[]⟩] 23) := ⟨_, rfl⟩
  have HZ : Hid (Blk W1 w.heap.size 23 [.bool false, .string ⟨#[]⟩, .string ⟨#[]⟩]) := Lib.hid (by rw [hW1]; exact Blk.new w 23 [.bool false, .string ⟨#[]⟩, .string ⟨#[]⟩])
  have HW : Hid (Below w.heap.size w W1) := Lib.hid (by rw [hW1]; exact (Below.refl w.heap.size w).alloc (Nat.le_refl _) _)
  have F9 := Lib.hid h9
  have H11 := Lib.hid (fun W => run_eqS x ⟨#[]⟩ false h11 W)
  have F15 := Lib.hid h15
  have F19 := Lib.hid h19
  have F23 := Lib.hid h23
  clear h15 h19 h23
  clear h9 h11
  go_enter Tryz.func44, Tryz.ntmps44
  go_wp2_with fail
  rw [← hW1]
  clear hW1
  refine (F9.out _).mono ?_
  rintro e w1 ⟨rfl, hb⟩
  replace HZ := Lib.hid (HZ.out.next hb)
  replace HW := Lib.hid (HW.out.trans (hb.mono HW.out.size))
  clear hb
  go_wp2_with (first | (refine wpList_dst 11 rfl ?_; refine wpList_run 11 rfl rfl _ (exec_bin .eql 9 _ (.tmp 10) (.const (.string ⟨#[]⟩)) rfl _ _ _ rfl rfl rfl (H11.out _)) ?_; go_frame))
  refine (F15.out _).mono ?_
  rintro e w2 ⟨rfl, hb⟩
  replace HZ := Lib.hid (HZ.out.next hb)
  replace HW := Lib.hid (HW.out.trans (hb.mono HW.out.size))
  clear hb
  go_wp2_with fail
  refine (F19.out _).mono ?_
  rintro e w3 ⟨rfl, hb⟩
  replace HZ := Lib.hid (HZ.out.next hb)
  replace HW := Lib.hid (HW.out.trans (hb.mono HW.out.size))
  clear hb
  go_wp2_with (first | (refine wpList_dst 20 rfl ?_; refine wpList_run 20 rfl rfl _ (exec_field 68 (.tmp 19) 0 rfl _ _ rfl (run_fldD0 _ _ _ _)) ?_; go_frame))
  refine (F23.out _).mono ?_
  rintro e w4 ⟨rfl, hb⟩
  replace HZ := Lib.hid (HZ.out.next hb)
  replace HW := Lib.hid (HW.out.trans (hb.mono HW.out.size))
  clear hb
  go_wp2_with (first | (refine wpList_dst 24 rfl ?_; refine wpList_run 24 rfl rfl _ (exec_field 68 (.tmp 23) 0 rfl _ _ rfl (run_fldD0 _ _ _ _)) ?_; go_frame) | (refine wpList_dst 25 rfl ?_; refine wpList_run 25 rfl rfl _ (exec_build3 23 (.tmp 16) (.tmp 20) (.tmp 24) rfl _ _ _ _ rfl rfl rfl (qr_build _ _ _ _)) ?_; go_frame) | (refine wpList_store_all rfl 23 (.tmp 6) (.tmp 25) rfl (w.heap.size) _ [.bool false, .string ⟨#[]⟩, .string ⟨#[]⟩] [.bool b, .string N, .string D] rfl rfl HZ.out rfl qr_size (List.forall_mem_cons.2 ⟨rfl, (List.forall_mem_cons.2 ⟨rfl, (List.forall_mem_cons.2 ⟨rfl, fun _ h => nomatch h⟩)⟩)⟩) ?_; intro w9 HK9 ho9; have HO9 := Lib.hid ho9; clear ho9))
  exact bodyPost_ret (results_blk rfl _ _ (w.heap.size) _ [.bool b, .string N, .string D] _ rfl HK9.out Tryz.underlying23 rfl qr_size) rfl ⟨rfl, HW.out.trans (HO9.out.below (by omega))⟩
theorem low_val (b : Bool) (k m : Nat) (hk : k ≠ 0) (hm : m ≠ 0) : rt (mkRat (sg b k) m) = ⟨b, cS (k / Nat.gcd k m), cS (m / Nat.gcd k m)⟩ := by
  have hg : 0 < Nat.gcd k m := Nat.gcd_pos_of_pos_right _ (Nat.pos_of_ne_zero hm)
  have hd : Nat.gcd k m ∣ k := Nat.gcd_dvd_left _ _
  have e1 : sg b k = sg b (k / Nat.gcd k m) * ((Nat.gcd k m : Nat) : Int) := by rw [← sg_mulS, Nat.div_mul_cancel hd]
  have h0 : k / Nat.gcd k m ≠ 0 := Nat.ne_of_gt (Nat.div_pos (Nat.le_of_dvd (Nat.pos_of_ne_zero hk) hd) hg)
  have hn : (mkRat (sg b k) m).num = sg b (k / Nat.gcd k m) := by
    rw [Rat.num_mkRat, if_neg hm, sg_abs, Nat.gcd_comm m k]
    refine Eq.trans (congrArg (· / ((Nat.gcd k m : Nat) : Int)) e1) ?_
    exact Int.mul_ediv_cancel _ (by omega)
  have hden : (mkRat (sg b k) m).den = m / Nat.gcd k m := by rw [Rat.den_mkRat, if_neg hm, sg_abs, Nat.gcd_comm m k]
  have hq : mkRat (sg b k) m ≠ 0 := fun e => by
    rw [e] at hn
    have h2 := congrArg Int.natAbs hn
    rw [sg_abs] at h2
    exact h0 h2.symm
  unfold rt
  rw [if_neg hq]
  exact fr_of (by rw [hn, sg_abs]) hden (fun _ => by rw [hn, sg_neg b h0]) (fun h => absurd h h0)
theorem low_any (b : Bool) (k m : Nat) (w : World) (hs : (cS k).size ≤ 20000) (ht : (cS m).size ≤ 20000) (hm : m ≠ 0) : Calls Tryz.prog 44 #[.bool b, .string (cS k), .string (cS m)] w fun e w' => e = .returned (rv (rt (mkRat (sg b k) m))) ∧ Below w.heap.size w w' := by
  have h9 := fun W => (rclean_any (cS k) W (by omega)).mono (fun e w' h => (⟨h.1, by rw [h.2]; exact Below.refl _ _⟩ : e = .returned (.string (cS (nB (cS k)))) ∧ Below W.heap.size W w'))
  rw [nB_cS] at h9
  by_cases hk : k = 0
  · subst hk
    have e0 : rt (mkRat (sg b 0) m) = zR := by rw [show sg b 0 = 0 by cases b <;> rfl, Rat.zero_mkRat, rt_zero]
    rw [e0]
    exact low_zero b _ _ _ w (decide_eq_true c0) h9
  · have hg : Nat.gcd k m ≠ 0 := Nat.ne_of_gt (Nat.gcd_pos_of_pos_right _ (Nat.pos_of_ne_zero hm))
    have sg' : (cS (Nat.gcd k m)).size ≤ 20000 := cS_le (Nat.gcd_le_left _ (Nat.pos_of_ne_zero hk)) hs
    rw [low_val b k m hk hm]
    refine low_pos b _ (cS m) _ (cS (Nat.gcd k m)) _ _ (cS (k % Nat.gcd k m)) (cS (m % Nat.gcd k m)) 0 0 w (decide_eq_false fun e => hk ((nil_iff k).1 e)) h9 (fun W => ?_) (fun W => ?_) (fun W => ?_)
    · have h := rgcd_any (cS k) (cS m) W hs ht
      rwa [nB_cS, nB_cS] at h
    · have h := rdiv_any (cS k) (cS (Nat.gcd k m)) W hs sg' (by rw [nB_cS]; exact hg)
      rw [nB_cS, nB_cS] at h
      exact h
    · have h := rdiv_any (cS m) (cS (Nat.gcd k m)) W ht sg' (by rw [nB_cS]; exact hg)
      rw [nB_cS, nB_cS] at h
      exact h
end Go.Proofs.YtibfmcohodhkbaaGreatDoor
