/- The reference's Few and Valid. -/
import Derived.Test.YtpmlihhofmblpaaGreatDoorQ25
namespace Go.Proofs.YtpmlihhofmblpaaGreatDoor
open Go.RowKit Hm Wm Wn

def fewB (k : Nat) (x : Rv) : Bool := decide (x.n.size ≤ k) && decide (x.d.size ≤ k)
set_option maxRecDepth 100000 in
set_option maxHeartbeats 400000 in
theorem few_any (k : Nat) (x : Rv) (w : World) : Calls Tryz.prog 5 #[rv x, .int .i64 k] w fun e w' => e = .returned (.bool (fewB k x)) ∧ Below w.heap.size w w' := by
  obtain ⟨b, n, d⟩ := x
  unfold rv fewB
  simp only
  have HB := Lib.hid ((Below.refl w.heap.size w).alloc (Nat.le_refl _) (.cells #[.bool b, .string n, .string d] 26))
  by_cases h1 : n.size ≤ k
  · by_cases h2 : d.size ≤ k
    · have HR := Lib.hid (show (decide (n.size ≤ k) && decide (d.size ≤ k)) = true by rw [decide_eq_true h1, decide_eq_true h2]; rfl)
      have i1 : decide ((n.size : Int) ≤ (k : Int)) = true := decide_eq_true (by omega)
      have i2 : decide ((d.size : Int) ≤ (k : Int)) = true := decide_eq_true (by omega)
      go_enter Tryz.func5, Tryz.ntmps5
      go_wp2
      go_ret
      exact ⟨by first | rfl | (rw [HR.out]; rfl), HB.out⟩
    · have HR := Lib.hid (show (decide (n.size ≤ k) && decide (d.size ≤ k)) = false by rw [decide_eq_true h1, decide_eq_false h2]; rfl)
      have i1 : decide ((n.size : Int) ≤ (k : Int)) = true := decide_eq_true (by omega)
      have i2 : decide ((d.size : Int) ≤ (k : Int)) = false := decide_eq_false (by omega)
      go_enter Tryz.func5, Tryz.ntmps5
      go_wp2
      go_ret
      exact ⟨by first | rfl | (rw [HR.out]; rfl), HB.out⟩
  · have HR := Lib.hid (show (decide (n.size ≤ k) && decide (d.size ≤ k)) = false by rw [decide_eq_false h1]; rfl)
    have i1 : decide ((n.size : Int) ≤ (k : Int)) = false := decide_eq_false (by omega)
    go_enter Tryz.func5, Tryz.ntmps5
    go_wp2
    go_ret
    exact ⟨by first | rfl | (rw [HR.out]; rfl), HB.out⟩
set_option maxRecDepth 100000 in
set_option maxHeartbeats 800000 in
theorem rval_n (b : Bool) (n d : ByteArray) (w : World) (hn : decide (n = ⟨#[]⟩) = true) : Calls Tryz.prog 40 #[.agg #[.bool b, .string n, .string d]] w fun e w' => e = .returned (.bool (decide (b = false ∧ n = ⟨#[]⟩ ∧ d = ⟨#[]⟩))) ∧ Below w.heap.size w w' := by
  have HB := Lib.hid ((Below.refl w.heap.size w).alloc (Nat.le_refl _) (.cells #[.bool b, .string n, .string d] 26))
  have H7 := Lib.hid (fun W => run_eqS n ⟨#[]⟩ true hn W)
  have H15 := Lib.hid (fun W => run_eqR b false n d ⟨#[]⟩ ⟨#[]⟩ W)
  generalize decide (b = false ∧ n = ⟨#[]⟩ ∧ d = ⟨#[]⟩) = r at *
  clear hn
  go_enter Tryz.func40, Tryz.ntmps40
  go_wp2_with (first | (refine wpList_dst 7 rfl ?_; refine wpList_run 7 rfl rfl _ (exec_bin .eql 9 _ (.tmp 6) (.const (.string ⟨#[]⟩)) rfl _ _ _ rfl rfl rfl (H7.out _)) ?_; go_frame) | (refine wpList_dst 15 rfl ?_; refine wpList_run 15 rfl rfl _ (exec_bin .eql 26 _ (.tmp 13) (.tmp 14) rfl _ _ _ rfl rfl (rat_guard _ _ _ _ _) (H15.out _)) ?_; go_frame))
  go_ret
  exact ⟨rfl, HB.out⟩
set_option maxRecDepth 100000 in
set_option maxHeartbeats 800000 in
theorem rval_d (b : Bool) (n d : ByteArray) (w : World) (hn : decide (n = ⟨#[]⟩) = false) (hd : decide (d = ⟨#[]⟩) = true) : Calls Tryz.prog 40 #[.agg #[.bool b, .string n, .string d]] w fun e w' => e = .returned (.bool (decide (b = false ∧ n = ⟨#[]⟩ ∧ d = ⟨#[]⟩))) ∧ Below w.heap.size w w' := by
  have HB := Lib.hid ((Below.refl w.heap.size w).alloc (Nat.le_refl _) (.cells #[.bool b, .string n, .string d] 26))
  have H7 := Lib.hid (fun W => run_eqS n ⟨#[]⟩ false hn W)
  have H11 := Lib.hid (fun W => run_eqS d ⟨#[]⟩ true hd W)
  have H15 := Lib.hid (fun W => run_eqR b false n d ⟨#[]⟩ ⟨#[]⟩ W)
  generalize decide (b = false ∧ n = ⟨#[]⟩ ∧ d = ⟨#[]⟩) = r at *
  clear hn hd
  go_enter Tryz.func40, Tryz.ntmps40
  go_wp2_with (first | (refine wpList_dst 7 rfl ?_; refine wpList_run 7 rfl rfl _ (exec_bin .eql 9 _ (.tmp 6) (.const (.string ⟨#[]⟩)) rfl _ _ _ rfl rfl rfl (H7.out _)) ?_; go_frame) | (refine wpList_dst 11 rfl ?_; refine wpList_runG 11 rfl rfl _ (exec_bin .eql 9 _ (.tmp 10) (.const (.string ⟨#[]⟩)) rfl _ _ _ rfl rfl rfl (H11.out _)) ?_; go_frame) | (refine wpList_dst 15 rfl ?_; refine wpList_run 15 rfl rfl _ (exec_bin .eql 26 _ (.tmp 13) (.tmp 14) rfl _ _ _ rfl rfl (rat_guard _ _ _ _ _) (H15.out _)) ?_; go_frame))
  go_ret
  exact ⟨rfl, HB.out⟩
set_option maxRecDepth 100000 in
set_option maxHeartbeats 800000 in
theorem rval_v1 (b : Bool) (n d : ByteArray) (w : World) (hn : decide (n = ⟨#[]⟩) = false) (hd : decide (d = ⟨#[]⟩) = false) (sn : n.size ≤ 10000) (sd : d.size ≤ 10000) (v1 : validB n = false) : Calls Tryz.prog 40 #[.agg #[.bool b, .string n, .string d]] w fun e w' => e = .returned (.bool false) ∧ Below w.heap.size w w' := by
  have HB := Lib.hid ((Below.refl w.heap.size w).alloc (Nat.le_refl _) (.cells #[.bool b, .string n, .string d] 26))
  have H7 := Lib.hid (fun W => run_eqS n ⟨#[]⟩ false hn W)
  have H11 := Lib.hid (fun W => run_eqS d ⟨#[]⟩ false hd W)
  have F18 := Lib.hid (fun W => rvalid_any n W (by omega))
  have F21 := Lib.hid (fun W => rvalid_any d W (by omega))
  rw [v1] at F18
  generalize validB d = v at *
  clear hn hd v1 sn sd
  go_enter Tryz.func40, Tryz.ntmps40
  go_wp2_with (first | (refine wpList_dst 7 rfl ?_; refine wpList_run 7 rfl rfl _ (exec_bin .eql 9 _ (.tmp 6) (.const (.string ⟨#[]⟩)) rfl _ _ _ rfl rfl rfl (H7.out _)) ?_; go_frame) | (refine wpList_dst 11 rfl ?_; refine wpList_runG 11 rfl rfl _ (exec_bin .eql 9 _ (.tmp 10) (.const (.string ⟨#[]⟩)) rfl _ _ _ rfl rfl rfl (H11.out _)) ?_; go_frame))
  refine (F18.out _).mono ?_
  rintro e wx ⟨rfl, hw⟩
  subst hw
  go_wp2_with fail
  refine (F21.out _).mono ?_
  rintro e wx ⟨rfl, hw⟩
  subst hw
  go_wp2_with fail
  go_ret
  exact ⟨rfl, HB.out⟩
set_option maxRecDepth 100000 in
set_option maxHeartbeats 800000 in
theorem rval_v2 (b : Bool) (n d : ByteArray) (w : World) (hn : decide (n = ⟨#[]⟩) = false) (hd : decide (d = ⟨#[]⟩) = false) (sn : n.size ≤ 10000) (sd : d.size ≤ 10000) (v1 : validB n = true) (v2 : validB d = false) : Calls Tryz.prog 40 #[.agg #[.bool b, .string n, .string d]] w fun e w' => e = .returned (.bool false) ∧ Below w.heap.size w w' := by
  have HB := Lib.hid ((Below.refl w.heap.size w).alloc (Nat.le_refl _) (.cells #[.bool b, .string n, .string d] 26))
  have H7 := Lib.hid (fun W => run_eqS n ⟨#[]⟩ false hn W)
  have H11 := Lib.hid (fun W => run_eqS d ⟨#[]⟩ false hd W)
  have F18 := Lib.hid (fun W => rvalid_any n W (by omega))
  have F21 := Lib.hid (fun W => rvalid_any d W (by omega))
  rw [v1] at F18
  rw [v2] at F21
  clear hn hd v1 v2 sn sd
  go_enter Tryz.func40, Tryz.ntmps40
  go_wp2_with (first | (refine wpList_dst 7 rfl ?_; refine wpList_run 7 rfl rfl _ (exec_bin .eql 9 _ (.tmp 6) (.const (.string ⟨#[]⟩)) rfl _ _ _ rfl rfl rfl (H7.out _)) ?_; go_frame) | (refine wpList_dst 11 rfl ?_; refine wpList_runG 11 rfl rfl _ (exec_bin .eql 9 _ (.tmp 10) (.const (.string ⟨#[]⟩)) rfl _ _ _ rfl rfl rfl (H11.out _)) ?_; go_frame))
  refine (F18.out _).mono ?_
  rintro e wx ⟨rfl, hw⟩
  subst hw
  go_wp2_with fail
  refine (F21.out _).mono ?_
  rintro e wx ⟨rfl, hw⟩
  subst hw
  go_wp2_with fail
  go_ret
  exact ⟨rfl, HB.out⟩
set_option maxRecDepth 100000 in
set_option maxHeartbeats 800000 in
theorem rval_g (b : Bool) (n d : ByteArray) (w : World) (hn : decide (n = ⟨#[]⟩) = false) (hd : decide (d = ⟨#[]⟩) = false) (sn : n.size ≤ 10000) (sd : d.size ≤ 10000) (v1 : validB n = true) (v2 : validB d = true) : Calls Tryz.prog 40 #[.agg #[.bool b, .string n, .string d]] w fun e w' => e = .returned (.bool (decide (Nat.gcd (nB n) (nB d) = 1))) ∧ Below w.heap.size w w' := by
  have HB := Lib.hid ((Below.refl w.heap.size w).alloc (Nat.le_refl _) (.cells #[.bool b, .string n, .string d] 26))
  have H7 := Lib.hid (fun W => run_eqS n ⟨#[]⟩ false hn W)
  have H11 := Lib.hid (fun W => run_eqS d ⟨#[]⟩ false hd W)
  have F18 := Lib.hid (fun W => rvalid_any n W (by omega))
  have F21 := Lib.hid (fun W => rvalid_any d W (by omega))
  rw [v1] at F18
  rw [v2] at F21
  have F31 := Lib.hid (fun W => rgcd_any n d W (by omega) (by omega))
  have H32 := Lib.hid (fun W => run_eqS (cS (Nat.gcd (nB n) (nB d))) ⟨#[1]⟩ _ (one_dec (Nat.gcd (nB n) (nB d)) _ rfl) W)
  generalize decide (Nat.gcd (nB n) (nB d) = 1) = r at *
  generalize cS (Nat.gcd (nB n) (nB d)) = G at *
  clear hn hd v1 v2 sn sd
  go_enter Tryz.func40, Tryz.ntmps40
  go_wp2_with (first | (refine wpList_dst 7 rfl ?_; refine wpList_run 7 rfl rfl _ (exec_bin .eql 9 _ (.tmp 6) (.const (.string ⟨#[]⟩)) rfl _ _ _ rfl rfl rfl (H7.out _)) ?_; go_frame) | (refine wpList_dst 11 rfl ?_; refine wpList_runG 11 rfl rfl _ (exec_bin .eql 9 _ (.tmp 10) (.const (.string ⟨#[]⟩)) rfl _ _ _ rfl rfl rfl (H11.out _)) ?_; go_frame))
  refine (F18.out _).mono ?_
  rintro e wx ⟨rfl, hw⟩
  subst hw
  go_wp2_with fail
  refine (F21.out _).mono ?_
  rintro e wx ⟨rfl, hw⟩
  subst hw
  go_wp2_with fail
  refine (F31.out _).mono ?_
  rintro e w1 ⟨rfl, hb⟩
  have HB1 := Lib.hid (HB.out.trans (hb.mono HB.out.size))
  clear hb HB
  go_wp2_with (first | (refine wpList_dst 32 rfl ?_; refine wpList_runG 32 rfl rfl _ (exec_bin .eql 9 _ (.tmp 31) (.const (.string ⟨#[1]⟩)) rfl _ _ _ rfl rfl rfl (H32.out _)) ?_; go_frame))
  go_ret
  exact ⟨rfl, HB1.out⟩
theorem rvalidq (x : Rv) (w : World) (hx : szR 10000 x) : Calls Tryz.prog 40 #[rv x] w fun e w' => e = .returned (.bool (okB x)) ∧ Below w.heap.size w w' := by
  obtain ⟨b, n, d⟩ := x
  obtain ⟨sn, sd⟩ := hx
  simp only at sn sd
  unfold okB rv
  simp only
  by_cases hn : n = ⟨#[]⟩
  · have e2 : decide (n ≠ ⟨#[]⟩) = false := decide_eq_false (fun h => h hn)
    rw [e2]
    simp only [Bool.false_and, Bool.or_false]
    exact rval_n b n d w (decide_eq_true hn)
  · by_cases hd : d = ⟨#[]⟩
    · have e2 : decide (d ≠ ⟨#[]⟩) = false := decide_eq_false (fun h => h hd)
      rw [e2]
      simp only [Bool.false_and, Bool.and_false, Bool.or_false]
      exact rval_d b n d w (decide_eq_false hn) (decide_eq_true hd)
    · have e0 : decide (b = false ∧ n = ⟨#[]⟩ ∧ d = ⟨#[]⟩) = false := decide_eq_false (fun h => hn h.2.1)
      rw [e0, decide_eq_true (p := n ≠ ⟨#[]⟩) hn, decide_eq_true (p := d ≠ ⟨#[]⟩) hd]
      simp only [Bool.false_or, Bool.true_and]
      cases v1 : validB n
      · simp only [Bool.false_and]
        exact rval_v1 b n d w (decide_eq_false hn) (decide_eq_false hd) sn sd v1
      · cases v2 : validB d
        · simp only [Bool.true_and, Bool.false_and]
          exact rval_v2 b n d w (decide_eq_false hn) (decide_eq_false hd) sn sd v1 v2
        · simp only [Bool.true_and]
          exact rval_g b n d w (decide_eq_false hn) (decide_eq_false hd) sn sd v1 v2
end Go.Proofs.YtpmlihhofmblpaaGreatDoor
