/- The reference: Gcd, Int and Value. -/
import Derived.Test.YtkjnfobaoaaopaaGreatDoorR7
import Derived.Deep.LoopGhost
namespace Go.Proofs.YtkjnfobaoaaopaaGreatDoor
open Go.RowKit Hm Wm Wn

theorem run_neqS (x y : ByteArray) (b : Bool) (h : decide (x ≠ y) = b) (w : World) : (binOp .neq 9 (.string x) (.string y)).run Tryz.prog w = .ok (.bool b) w := by
  subst h
  have h1 := run_neq_str w x.data.toList y.data.toList
  rw [show sb x.data.toList = x by cases x; simp [sb], show sb y.data.toList = y by cases y; simp [sb]] at h1
  rw [h1]
  congr 2
  refine decide_eq_decide.2 ⟨fun h e => h (by rw [e]), fun h e => h ?_⟩
  cases x
  cases y
  simpa using e
set_option maxRecDepth 100000 in
set_option maxHeartbeats 1000000 in
theorem rgcd_any (s t : ByteArray) (w : World) (hs : s.size ≤ 20000) (ht : t.size ≤ 20000) : Calls Tryz.prog 21 #[.string s, .string t] w fun e w' => e = .returned (.string (cS (Nat.gcd (nB s) (nB t)))) ∧ Below w.heap.size w w' := by
  have HC1 := Lib.hid (fun W => rclean_any s W (by omega))
  have HC2 := Lib.hid (fun W => rclean_any t W (by omega))
  have HS1 := Lib.hid (show (cS (nB s)).size ≤ 20000 from cS_less (Nat.le_refl _) hs)
  have HS2 := Lib.hid (show (cS (nB t)).size ≤ 20000 from cS_less (Nat.le_refl _) ht)
  generalize nB s = a at HC1 HS1 ⊢
  generalize nB t = b at HC2 HS2 ⊢
  clear hs ht
  go_enter Tryz.func21, Tryz.ntmps21
  go_wp2_with fail
  refine (HC1.out w).mono ?_
  rintro e w1 ⟨rfl, hw⟩
  obtain rfl : w = w1 := hw.symm
  go_wp2_with fail
  refine (HC2.out w).mono ?_
  rintro e w1 ⟨rfl, hw⟩
  obtain rfl : w = w1 := hw.symm
  go_wp2_with fail
  go_loopg [5, 6] b (fun g xv yv wr => ∃ X : Nat, xv = .string (cS X) ∧ yv = .string (cS g) ∧ Hid (Nat.gcd X g = Nat.gcd a b) ∧ Hid ((cS X).size ≤ 20000) ∧ Hid ((cS g).size ≤ 20000) ∧ Hid (Below w.heap.size w wr))
  case atStart => exact ⟨a, rfl, rfl, Lib.hid rfl, HS1, HS2, Lib.hid (Below.refl _ _)⟩
  case round =>
    obtain ⟨X, rfl, rfl, HG, HX, HY, HW⟩ := hrel
    by_cases h0 : gk = 0
    · subst h0
      have HE := Lib.hid (show X = Nat.gcd a b by rw [← HG.out, Nat.gcd_zero_right])
      rw [c0]
      go_wp2_with fail
      go_ret
      exact ⟨by rw [← HE.out]; rfl, HW.out⟩
    · have H13 := Lib.hid (fun W => run_neqS (cS gk) ⟨#[]⟩ true (decide_eq_true (fun h => h0 ((nil_iff gk).1 h))) W)
      have hdv := fun W => rdiv_any (cS X) (cS gk) W HX.out HY.out (by rw [nB_cS]; exact h0)
      simp only [nB_cS] at hdv
      have HDV := Lib.hid hdv
      have HG2 := Lib.hid (show Nat.gcd gk (X % gk) = Nat.gcd a b by rw [gcd_rest, HG.out])
      have HL := Lib.hid (Nat.mod_lt X (Nat.pos_of_ne_zero h0))
      have HY2 := Lib.hid (show (cS (X % gk)).size ≤ 20000 from cS_less (x := cS gk) (by rw [nB_cS]; exact Nat.le_of_lt HL.out) HY.out)
      clear hdv h0
      go_wp2_with (first | (refine wpList_dst 13 rfl ?_; refine wpList_run 13 rfl rfl _ (exec_bin .neq 9 _ (.tmp 12) (.const (.string ⟨#[]⟩)) rfl _ _ _ rfl rfl rfl (H13.out _)) ?_))
      refine (HDV.out wr).mono ?_
      unfold dvV
      rintro e w2 ⟨rfl, hb⟩
      have HW2 := Lib.hid (HW.out.trans (hb.mono HW.out.size))
      clear hb
      go_wp2_with (first | (refine wpList_dst 17 rfl ?_; refine wpList_run 17 rfl rfl _ (exec_field 32 (.tmp 16) 1 rfl _ _ rfl (run_fldD _ _ _ _)) ?_))
      go_roundg (X % gk)
      case measure => exact HL.out
      case rel => exact ⟨gk, rfl, rfl, HG2, HY, HY2, HW2⟩
set_option maxRecDepth 100000 in
set_option maxHeartbeats 1000000 in
theorem rint_neg (n : Int) (w : World) (h : n < 0) : Calls Tryz.prog 25 #[.int .i64 n] w fun e w' => e = .returned (mdV ⟨#[]⟩ 3) ∧ Below w.heap.size w w' := by
  have c1 : decide (n < 0) = true := decide_eq_true h
  have HK0 := Lib.hid (Blk.new w 29 [.string ⟨#[]⟩, .int .i64 0])
  have HW0 := Lib.hid ((Below.refl w.heap.size w).alloc (Nat.le_refl _) (.cells #[.string ⟨#[]⟩, .int .i64 0] 29))
  clear h
  go_enter Tryz.func25, Tryz.ntmps25
  go_wp2_with (refine wpList_store_all rfl 29 (.tmp 2) (.tmp 6) rfl w.heap.size _ [.string ⟨#[]⟩, .int .i64 0] [.string ⟨#[]⟩, .int .i64 3] rfl rfl HK0.out rfl md_size (md_one _ _) ?_; intro w9 HK9 ho9; have HO9 := Lib.hid ho9; clear ho9)
  exact bodyPost_ret (results_blk rfl _ _ w.heap.size _ [.string ⟨#[]⟩, .int .i64 3] _ rfl HK9.out Tryz.underlying29 rfl md_size) rfl ⟨rfl, HW0.out.trans (HO9.out.below (Nat.le_refl _))⟩
set_option maxRecDepth 100000 in
set_option maxHeartbeats 1000000 in
theorem rint_any (n : Nat) (w : World) (h : n ≤ 9223372036854775807) : Calls Tryz.prog 25 #[.int .i64 n] w fun e w' => e = .returned (mdV (cS n) 0) ∧ Below w.heap.size w w' := by
  have c1 : decide ((n : Int) < 0) = false := decide_eq_false (by omega)
  have HL8 := Lib.hid (show (canS n).length ≤ 8 from canS_len_le (Nat.lt_of_le_of_lt h (by decide)))
  go_enter Tryz.func25, Tryz.ntmps25
  go_wp2
  go_loopw [0, 3] (fun nv ov wr => ∃ (m : Nat) (L : List UInt8), nv = .int .i64 m ∧ ov = .string (sb L) ∧ m ≤ n ∧ Hid (canS n = canS m ++ L) ∧ Hid (Below w.heap.size w wr) ∧ Hid (Blk wr w.heap.size 29 [.string ⟨#[]⟩, .int .i64 0])) (fun nv _ _ => (intOf nv).toNat)
  case atStart => exact ⟨n, [], rfl, rfl, Nat.le_refl _, Lib.hid (List.append_nil _).symm, Lib.hid ((Below.refl _ _).alloc (Nat.le_refl _) _), Lib.hid (Blk.new w 29 [.string ⟨#[]⟩, .int .i64 0])⟩
  case round =>
    obtain ⟨m, L, rfl, rfl, hm, HC, HW, HZ⟩ := hrel
    by_cases h0 : 0 < m
    · have c2 : decide ((0 : Int) < (m : Int)) = true := decide_eq_true (by omega)
      have c2' : decide (0 < m) = true := decide_eq_true h0
      have HRM := Lib.hid (fun W => run_rem256 m W (by omega))
      have HQU := Lib.hid (fun W => run_quo256 m W (by omega))
      have HCV := Lib.hid (fun W => run_cvIB (m % 256) W (Nat.mod_lt _ (by decide)))
      obtain ⟨z, hz⟩ : ∃ z, UInt8.ofNat (m % 256) = z := ⟨_, rfl⟩
      have hcs := canS_pos (show m ≠ 0 by omega)
      rw [hz] at HCV hcs
      have HS1 := Lib.hid (fun W => run_str1 W z)
      have hL8 : L.length ≤ 8 := by have h1 := congrArg List.length HC.out; rw [List.length_append] at h1; have := HL8.out; omega
      have HCT := Lib.hid (fun W => run_concat W (sb [z]) (sb L) (by rw [sb_size, sb_size]; simp; omega))
      rw [sb_list, sb_list] at HCT
      have HC2 := Lib.hid (show canS n = canS (m / 256) ++ ([z] ++ L) by rw [HC.out, hcs, List.append_assoc])
      obtain ⟨q, hq⟩ : ∃ q, m / 256 = q := ⟨_, rfl⟩
      obtain ⟨r, hr⟩ : ∃ q, m % 256 = q := ⟨_, rfl⟩
      rw [hr] at HRM HCV
      rw [hq] at HQU HC2
      have hqm : q < m := by rw [← hq]; exact Nat.div_lt_self h0 (by decide)
      clear hz hcs hL8 HC hq hr
      go_wp2_with (first
        | (refine wpList_dst 10 rfl ?_; refine wpList_run 10 rfl rfl _ (exec_bin .rem 3 _ (.tmp 9) (.const (.int .i64 256)) rfl _ _ _ rfl rfl rfl (HRM.out _)) ?_)
        | (refine wpList_dst 11 rfl ?_; refine wpList_run 11 rfl rfl _ (exec_convert 3 5 (.tmp 10) rfl _ _ rfl (HCV.out _)) ?_)
        | (refine wpList_dst 13 rfl ?_; refine wpList_run 13 rfl rfl _ (exec_convert 60 9 (.tmp 12) rfl _ _ rfl (HS1.out _)) ?_)
        | (refine wpList_dst 15 rfl ?_; refine wpList_run 15 rfl rfl _ (exec_bin .add 9 _ (.tmp 13) (.tmp 14) rfl _ _ _ rfl rfl rfl (HCT.out _)) ?_)
        | (refine wpList_dst 17 rfl ?_; refine wpList_run 17 rfl rfl _ (exec_bin .quo 3 _ (.tmp 16) (.const (.int .i64 256)) rfl _ _ _ rfl rfl rfl (HQU.out _)) ?_))
      go_roundw
      case rel => exact ⟨q, [z] ++ L, rfl, rfl, by omega, HC2, Lib.hid (HW.out.alloc HW.out.size _), Lib.hid (HZ.out.alloc _)⟩
      case measure => simp [intOf]; omega
    · obtain rfl : m = 0 := by omega
      have HE := Lib.hid (show sb L = cS n by unfold cS; rw [HC.out, canS_zero]; rfl)
      rw [HE.out]
      have c2 : decide ((0 : Int) < ((0 : Nat) : Int)) = false := by decide
      go_wp2_with (refine wpList_store_all rfl 29 (.tmp 2) (.tmp 19) rfl w.heap.size _ [.string ⟨#[]⟩, .int .i64 0] [.string (cS n), .int .i64 0] rfl rfl HZ.out rfl md_size (md_one _ _) ?_; intro w9 HK9 ho9; have HO9 := Lib.hid ho9; clear ho9)
      exact bodyPost_ret (results_blk rfl _ _ w.heap.size _ [.string (cS n), .int .i64 0] _ rfl HK9.out Tryz.underlying29 rfl md_size) rfl ⟨rfl, HW.out.trans (HO9.out.below (Nat.le_refl _))⟩
end Go.Proofs.YtkjnfobaoaaopaaGreatDoor
