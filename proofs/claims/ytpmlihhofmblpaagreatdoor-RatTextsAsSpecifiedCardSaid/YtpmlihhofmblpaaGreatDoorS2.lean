/- The reference: inside, natural and lowest. -/
import Derived.Test.YtpmlihhofmblpaaGreatDoorS1
namespace Go.Proofs.YtpmlihhofmblpaaGreatDoor
open Go.RowKit Hm Wm Wn

theorem run_fldD0 (y z : ByteArray) (k : Int) (W : World) : (Instr.field 94 (.agg #[.string y, .string z, .int .i64 k]) 0).run Tryz.prog W = .ok (.string y) W := by kernel_rfl
set_option maxRecDepth 100000 in
set_option maxHeartbeats 800000 in
theorem low_zero (b : Bool) (s t x : ByteArray) (w : World) (h11 : decide (x = ⟨#[]⟩) = true) (h9 : (∀ W, Calls Tryz.prog 59 #[.string s] W fun e w' => e = .returned (.string x) ∧ Below W.heap.size W w')) : Calls Tryz.prog 74 #[.bool b, .string s, .string t] w fun e w' => e = .returned (.agg #[.bool false, .string ⟨#[]⟩, .string ⟨#[]⟩]) ∧ Below w.heap.size w w' := by
  obtain ⟨W1, hW1⟩ : ∃ W, W = w.alloc (.cells #[.bool false, .string ⟨#[]⟩, .string ⟨#[]⟩] 26) := ⟨_, rfl⟩
  have HZ : Hid (Blk W1 w.heap.size 26 [.bool false, .string ⟨#[]⟩, .string ⟨#[]⟩]) := Lib.hid (by rw [hW1]; exact Blk.new w 26 [.bool false, .string ⟨#[]⟩, .string ⟨#[]⟩])
  have HW : Hid (Below w.heap.size w W1) := Lib.hid (by rw [hW1]; exact (Below.refl w.heap.size w).alloc (Nat.le_refl _) _)
  have F9 := Lib.hid h9
  have H11 := Lib.hid (fun W => run_eqS x ⟨#[]⟩ true h11 W)
  clear h9 h11
  go_enter Tryz.func74, Tryz.ntmps74
  go_wp2_with fail
  rw [← hW1]
  clear hW1
  refine (F9.out _).mono ?_
  rintro e w1 ⟨rfl, hb⟩
  replace HZ := Lib.hid (HZ.out.next hb)
  replace HW := Lib.hid (HW.out.trans (hb.mono HW.out.size))
  clear hb
  go_wp2_with (first | (refine wpList_dst 11 rfl ?_; refine wpList_run 11 rfl rfl _ (exec_bin .eql 9 _ (.tmp 10) (.const (.string ⟨#[]⟩)) rfl _ _ _ rfl rfl rfl (H11.out _)) ?_; go_frame) | (refine wpList_dst 12 rfl ?_; refine wpList_run 12 rfl rfl _ (exec_build0 26 rfl _ (qr_nil _)) ?_; go_frame) | (refine wpList_store_all rfl 26 (.tmp 6) (.tmp 12) rfl (w.heap.size) _ [.bool false, .string ⟨#[]⟩, .string ⟨#[]⟩] [.bool false, .string ⟨#[]⟩, .string ⟨#[]⟩] rfl rfl HZ.out rfl qr_size (List.forall_mem_cons.2 ⟨rfl, (List.forall_mem_cons.2 ⟨rfl, (List.forall_mem_cons.2 ⟨rfl, fun _ h => nomatch h⟩)⟩)⟩) ?_; intro w9 HK9 ho9; have HO9 := Lib.hid ho9; clear ho9))
  exact bodyPost_ret (results_blk rfl _ _ (w.heap.size) _ [.bool false, .string ⟨#[]⟩, .string ⟨#[]⟩] _ rfl HK9.out Tryz.underlying26 rfl qr_size) rfl ⟨rfl, HW.out.trans (HO9.out.below (by omega))⟩
set_option maxRecDepth 100000 in
set_option maxHeartbeats 800000 in
theorem low_pos (b : Bool) (s t x g N D r1 r2 : ByteArray) (k1 k2 : Int) (w : World) (h11 : decide (x = ⟨#[]⟩) = false) (h9 : (∀ W, Calls Tryz.prog 59 #[.string s] W fun e w' => e = .returned (.string x) ∧ Below W.heap.size W w')) (h15 : (∀ W, Calls Tryz.prog 72 #[.string x, .string t] W fun e w' => e = .returned (.string g) ∧ Below W.heap.size W w')) (h19 : (∀ W, Calls Tryz.prog 60 #[.string x, .string g] W fun e w' => e = .returned (.agg #[.string N, .string r1, .int .i64 k1]) ∧ Below W.heap.size W w')) (h23 : (∀ W, Calls Tryz.prog 60 #[.string t, .string g] W fun e w' => e = .returned (.agg #[.string D, .string r2, .int .i64 k2]) ∧ Below W.heap.size W w')) : Calls Tryz.prog 74 #[.bool b, .string s, .string t] w fun e w' => e = .returned (.agg #[.bool b, .string N, .string D]) ∧ Below w.heap.size w w' := by
  obtain ⟨W1, hW1⟩ : ∃ W, W = w.alloc (.cells #[.bool false, .string ⟨#[]⟩, .string ⟨#[]⟩] 26) := ⟨_, rfl⟩
  have HZ : Hid (Blk W1 w.heap.size 26 [.bool false, .string ⟨#[]⟩, .string ⟨#[]⟩]) := Lib.hid (by rw [hW1]; exact Blk.new w 26 [.bool false, .string ⟨#[]⟩, .string ⟨#[]⟩])
  have HW : Hid (Below w.heap.size w W1) := Lib.hid (by rw [hW1]; exact (Below.refl w.heap.size w).alloc (Nat.le_refl _) _)
  have F9 := Lib.hid h9
  have H11 := Lib.hid (fun W => run_eqS x ⟨#[]⟩ false h11 W)
  have F15 := Lib.hid h15
  have F19 := Lib.hid h19
  have F23 := Lib.hid h23
  clear h15 h19 h23
  clear h9 h11
  go_enter Tryz.func74, Tryz.ntmps74
  go_wp2_with fail
  rw [← hW1]
  clear hW1
  refine (F9.out _).mono ?_
  rintro e w1 ⟨rfl, hb⟩
  replace HZ := Lib.hid (HZ.out.next hb)
  replace HW := Lib.hid (HW.out.trans (hb.mono HW.out.size))
  clear hb
  go_wp2_with (first | (refine wpList_dst 11 rfl ?_; refine wpList_run 11 rfl rfl _ (exec_bin .eql 9 _ (.tmp 10) (.const (.string ⟨#[]⟩)) rfl _ _ _ rfl rfl rfl (H11.out _)) ?_; go_frame))
  refine (F15.out _).mono ?_
  rintro e w2 ⟨rfl, hb⟩
  replace HZ := Lib.hid (HZ.out.next hb)
  replace HW := Lib.hid (HW.out.trans (hb.mono HW.out.size))
  clear hb
  go_wp2_with fail
  refine (F19.out _).mono ?_
  rintro e w3 ⟨rfl, hb⟩
  replace HZ := Lib.hid (HZ.out.next hb)
  replace HW := Lib.hid (HW.out.trans (hb.mono HW.out.size))
  clear hb
  go_wp2_with (first | (refine wpList_dst 20 rfl ?_; refine wpList_run 20 rfl rfl _ (exec_field 94 (.tmp 19) 0 rfl _ _ rfl (run_fldD0 _ _ _ _)) ?_; go_frame))
  refine (F23.out _).mono ?_
  rintro e w4 ⟨rfl, hb⟩
  replace HZ := Lib.hid (HZ.out.next hb)
  replace HW := Lib.hid (HW.out.trans (hb.mono HW.out.size))
  clear hb
  go_wp2_with (first | (refine wpList_dst 24 rfl ?_; refine wpList_run 24 rfl rfl _ (exec_field 94 (.tmp 23) 0 rfl _ _ rfl (run_fldD0 _ _ _ _)) ?_; go_frame) | (refine wpList_dst 25 rfl ?_; refine wpList_run 25 rfl rfl _ (exec_build3 26 (.tmp 16) (.tmp 20) (.tmp 24) rfl _ _ _ _ rfl rfl rfl (qr_build _ _ _ _)) ?_; go_frame) | (refine wpList_store_all rfl 26 (.tmp 6) (.tmp 25) rfl (w.heap.size) _ [.bool false, .string ⟨#[]⟩, .string ⟨#[]⟩] [.bool b, .string N, .string D] rfl rfl HZ.out rfl qr_size (List.forall_mem_cons.2 ⟨rfl, (List.forall_mem_cons.2 ⟨rfl, (List.forall_mem_cons.2 ⟨rfl, fun _ h => nomatch h⟩)⟩)⟩) ?_; intro w9 HK9 ho9; have HO9 := Lib.hid ho9; clear ho9))
  exact bodyPost_ret (results_blk rfl _ _ (w.heap.size) _ [.bool b, .string N, .string D] _ rfl HK9.out Tryz.underlying26 rfl qr_size) rfl ⟨rfl, HW.out.trans (HO9.out.below (by omega))⟩
theorem low_val (b : Bool) (k m : Nat) (hk : k ≠ 0) (hm : m ≠ 0) : rt (mkRat (sg b k) m) = ⟨b, cS (k / Nat.gcd k m), cS (m / Nat.gcd k m)⟩ := by
  have hg : 0 < Nat.gcd k m := Nat.gcd_pos_of_pos_right _ (Nat.pos_of_ne_zero hm)
  have hd : Nat.gcd k m ∣ k := Nat.gcd_dvd_left _ _
  have e1 : sg b k = sg b (k / Nat.gcd k m) * ((Nat.gcd k m : Nat) : Int) := by rw [← sg_mulS, Nat.div_mul_cancel hd]
  have h0 : k / Nat.gcd k m ≠ 0 := Nat.ne_of_gt (Nat.div_pos (Nat.le_of_dvd (Nat.pos_of_ne_zero hk) hd) hg)
  have hn : (mkRat (sg b k) m).num = sg b (k / Nat.gcd k m) := by
    rw [Rat.num_mkRat, if_neg hm, sg_abs, Nat.gcd_comm m k]
    refine Eq.trans (congrArg (· / ((Nat.gcd k m : Nat) : Int)) e1) ?_
    exact Int.mul_ediv_cancel _ (by omega)
  have hden : (mkRat (sg b k) m).den = m / Nat.gcd k m := by rw [Rat.den_mkRat, if_neg hm, sg_abs, Nat.gcd_comm m k]
  have hq : mkRat (sg b k) m ≠ 0 := fun e => by
    rw [e] at hn
    have h2 := congrArg Int.natAbs hn
    rw [sg_abs] at h2
    exact h0 h2.symm
  unfold rt
  rw [if_neg hq]
  exact fr_of (by rw [hn, sg_abs]) hden (fun _ => by rw [hn, sg_neg b h0]) (fun h => absurd h h0)
theorem low_any (b : Bool) (k m : Nat) (w : World) (hs : (cS k).size ≤ 20000) (ht : (cS m).size ≤ 20000) (hm : m ≠ 0) : Calls Tryz.prog 74 #[.bool b, .string (cS k), .string (cS m)] w fun e w' => e = .returned (rv (rt (mkRat (sg b k) m))) ∧ Below w.heap.size w w' := by
  have h9 := fun W => (rclean_any (cS k) W (by omega)).mono (fun e w' h => (⟨h.1, by rw [h.2]; exact Below.refl _ _⟩ : e = .returned (.string (cS (nB (cS k)))) ∧ Below W.heap.size W w'))
  rw [nB_cS] at h9
  by_cases hk : k = 0
  · subst hk
    have e0 : rt (mkRat (sg b 0) m) = zR := by rw [show sg b 0 = 0 by cases b <;> rfl, Rat.zero_mkRat, rt_zero]
    rw [e0]
    exact low_zero b _ _ _ w (decide_eq_true c0) h9
  · have hg : Nat.gcd k m ≠ 0 := Nat.ne_of_gt (Nat.gcd_pos_of_pos_right _ (Nat.pos_of_ne_zero hm))
    have sg' : (cS (Nat.gcd k m)).size ≤ 20000 := cS_le (Nat.gcd_le_left _ (Nat.pos_of_ne_zero hk)) hs
    rw [low_val b k m hk hm]
    refine low_pos b _ (cS m) _ (cS (Nat.gcd k m)) _ _ (cS (k % Nat.gcd k m)) (cS (m % Nat.gcd k m)) 0 0 w (decide_eq_false fun e => hk ((nil_iff k).1 e)) h9 (fun W => ?_) (fun W => ?_) (fun W => ?_)
    · have h := rgcd_any (cS k) (cS m) W hs ht
      rwa [nB_cS, nB_cS] at h
    · have h := rdiv_any (cS k) (cS (Nat.gcd k m)) W hs sg' (by rw [nB_cS]; exact hg)
      rw [nB_cS, nB_cS] at h
      exact h
    · have h := rdiv_any (cS m) (cS (Nat.gcd k m)) W ht sg' (by rw [nB_cS]; exact hg)
      rw [nB_cS, nB_cS] at h
      exact h
end Go.Proofs.YtpmlihhofmblpaaGreatDoor
