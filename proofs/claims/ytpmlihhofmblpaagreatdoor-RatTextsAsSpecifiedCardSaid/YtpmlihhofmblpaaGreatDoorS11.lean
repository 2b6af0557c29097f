/- The reference: Text. -/
import Derived.Test.YtpmlihhofmblpaaGreatDoorS8
namespace Go.Proofs.YtpmlihhofmblpaaGreatDoor
open Go.RowKit Hm Wm Wn

set_option maxRecDepth 100000 in
set_option maxHeartbeats 800000 in
theorem text5_p (x : Rv) (n d p q T : ByteArray) (w : World) (h21 : decide (q ≠ ⟨#[1]⟩) = false) (h8 : (∀ W, Calls Tryz.prog 31 #[.agg #[.bool x.neg, .string x.n, .string x.d]] W fun e w' => e = .returned (.agg #[.bool false, .string n, .string d]) ∧ Below W.heap.size W w')) (h11 : (∀ W, Calls Tryz.prog 32 #[.agg #[.bool false, .string n, .string d]] W fun e w' => e = .returned (.tuple #[.string p, .string q]) ∧ Below W.heap.size W w')) (h15 : (∀ W, Calls Tryz.prog 33 #[.string p] W fun e w' => e = .returned (.string T) ∧ Below W.heap.size W w')) : Calls Tryz.prog 7 #[.agg #[.bool x.neg, .string x.n, .string x.d]] w fun e w' => e = .returned (.string T) ∧ Below w.heap.size w w' := by
  have HW := Lib.hid ((Below.refl w.heap.size w).alloc (Nat.le_refl _) (.cells #[.bool x.neg, .string x.n, .string x.d] 26))
  have H21 := Lib.hid (fun W => run_neqS q ⟨#[1]⟩ false h21 W)
  have F8 := Lib.hid h8
  have F11 := Lib.hid h11
  have F15 := Lib.hid h15
  clear h21 h8 h11 h15
  go_enter Tryz.func7, Tryz.ntmps7
  go_wp2_with fail
  refine (F8.out _).mono ?_
  rintro e w1 ⟨rfl, hb⟩
  replace HW := Lib.hid (HW.out.trans (hb.mono HW.out.size))
  clear hb
  go_wp2_with (first | (refine wpList_var rfl rfl 26 3 rfl rfl rfl (.tmp 8) rfl [.bool false, .string ByteArray.empty, .string ByteArray.empty] [.bool false, .string n, .string d] zero_api_Rat rfl rfl rfl size_api_Rat (List.forall_mem_cons.2 ⟨rfl, (List.forall_mem_cons.2 ⟨rfl, (List.forall_mem_cons.2 ⟨rfl, fun _ h => nomatch h⟩)⟩)⟩) ?_; intro w2 HA HBw; replace HW := Lib.hid (HW.out.trans (HBw.out.mono HW.out.size)); clear HBw) | (refine wpList_dst 10 rfl ?_; refine wpList_run 10 rfl rfl _ (exec_load 26 (.tmp 3) rfl _ (.agg #[.bool false, .string n, .string d]) rfl (run_load_part _ 26 _ 0 3 _ [.bool false, .string n, .string d] _ HA.out (by simp) Tryz.underlying26 rfl size_api_Rat)) ?_; go_frame))
  refine (F11.out _).mono ?_
  rintro e w3 ⟨rfl, hb⟩
  replace HW := Lib.hid (HW.out.trans (hb.mono HW.out.size))
  replace HA := Lib.hid (HA.out.next hb)
  clear hb
  go_wp2_with fail
  refine (F15.out _).mono ?_
  rintro e w4 ⟨rfl, hb⟩
  replace HW := Lib.hid (HW.out.trans (hb.mono HW.out.size))
  replace HA := Lib.hid (HA.out.next hb)
  clear hb
  go_wp2_with (first | (refine wpList_dst 21 rfl ?_; refine wpList_run 21 rfl rfl _ (exec_bin .neq 9 _ (.tmp 20) (.const (.string ⟨#[1]⟩)) rfl _ _ _ rfl rfl rfl (H21.out _)) ?_; go_frame) | (refine wpList_dst 16 rfl ?_; refine wpList_run 16 rfl rfl _ (exec_fieldAddr 26 (.tmp 3) 0 rfl _ _ rfl (fa_api_Rat_0_0 _ _)) ?_; go_frame) | (refine wpList_dst 17 rfl ?_; refine wpList_run 17 rfl rfl _ (exec_load 4 (.tmp 16) rfl _ (.bool false) rfl (run_load_cell flat_bool (HA.out.cell 0))) ?_; go_frame))
  go_ret
  exact ⟨rfl, HW.out⟩
set_option maxRecDepth 100000 in
set_option maxHeartbeats 800000 in
theorem text5_n (x : Rv) (n d p q T T2 : ByteArray) (w : World) (h21 : decide (q ≠ ⟨#[1]⟩) = false) (h8 : (∀ W, Calls Tryz.prog 31 #[.agg #[.bool x.neg, .string x.n, .string x.d]] W fun e w' => e = .returned (.agg #[.bool true, .string n, .string d]) ∧ Below W.heap.size W w')) (h11 : (∀ W, Calls Tryz.prog 32 #[.agg #[.bool true, .string n, .string d]] W fun e w' => e = .returned (.tuple #[.string p, .string q]) ∧ Below W.heap.size W w')) (h15 : (∀ W, Calls Tryz.prog 33 #[.string p] W fun e w' => e = .returned (.string T) ∧ Below W.heap.size W w')) (h19 : (∀ W, (binOp .add 9 (.string ⟨#[45]⟩) (.string T)).run Tryz.prog W = .ok (.string T2) W)) : Calls Tryz.prog 7 #[.agg #[.bool x.neg, .string x.n, .string x.d]] w fun e w' => e = .returned (.string T2) ∧ Below w.heap.size w w' := by
  have HW := Lib.hid ((Below.refl w.heap.size w).alloc (Nat.le_refl _) (.cells #[.bool x.neg, .string x.n, .string x.d] 26))
  have H21 := Lib.hid (fun W => run_neqS q ⟨#[1]⟩ false h21 W)
  have F8 := Lib.hid h8
  have F11 := Lib.hid h11
  have F15 := Lib.hid h15
  have H19 := Lib.hid h19
  clear h21 h8 h11 h15 h19
  go_enter Tryz.func7, Tryz.ntmps7
  go_wp2_with fail
  refine (F8.out _).mono ?_
  rintro e w1 ⟨rfl, hb⟩
  replace HW := Lib.hid (HW.out.trans (hb.mono HW.out.size))
  clear hb
  go_wp2_with (first | (refine wpList_var rfl rfl 26 3 rfl rfl rfl (.tmp 8) rfl [.bool false, .string ByteArray.empty, .string ByteArray.empty] [.bool true, .string n, .string d] zero_api_Rat rfl rfl rfl size_api_Rat (List.forall_mem_cons.2 ⟨rfl, (List.forall_mem_cons.2 ⟨rfl, (List.forall_mem_cons.2 ⟨rfl, fun _ h => nomatch h⟩)⟩)⟩) ?_; intro w2 HA HBw; replace HW := Lib.hid (HW.out.trans (HBw.out.mono HW.out.size)); clear HBw) | (refine wpList_dst 10 rfl ?_; refine wpList_run 10 rfl rfl _ (exec_load 26 (.tmp 3) rfl _ (.agg #[.bool true, .string n, .string d]) rfl (run_load_part _ 26 _ 0 3 _ [.bool true, .string n, .string d] _ HA.out (by simp) Tryz.underlying26 rfl size_api_Rat)) ?_; go_frame))
  refine (F11.out _).mono ?_
  rintro e w3 ⟨rfl, hb⟩
  replace HW := Lib.hid (HW.out.trans (hb.mono HW.out.size))
  replace HA := Lib.hid (HA.out.next hb)
  clear hb
  go_wp2_with fail
  refine (F15.out _).mono ?_
  rintro e w4 ⟨rfl, hb⟩
  replace HW := Lib.hid (HW.out.trans (hb.mono HW.out.size))
  replace HA := Lib.hid (HA.out.next hb)
  clear hb
  go_wp2_with (first | (refine wpList_dst 21 rfl ?_; refine wpList_run 21 rfl rfl _ (exec_bin .neq 9 _ (.tmp 20) (.const (.string ⟨#[1]⟩)) rfl _ _ _ rfl rfl rfl (H21.out _)) ?_; go_frame) | (refine wpList_dst 19 rfl ?_; refine wpList_run 19 rfl rfl _ (exec_bin .add 9 _ (.const (.string ⟨#[45]⟩)) (.tmp 18) rfl _ _ _ rfl rfl rfl (H19.out _)) ?_; go_frame) | (refine wpList_dst 16 rfl ?_; refine wpList_run 16 rfl rfl _ (exec_fieldAddr 26 (.tmp 3) 0 rfl _ _ rfl (fa_api_Rat_0_0 _ _)) ?_; go_frame) | (refine wpList_dst 17 rfl ?_; refine wpList_run 17 rfl rfl _ (exec_load 4 (.tmp 16) rfl _ (.bool true) rfl (run_load_cell flat_bool (HA.out.cell 0))) ?_; go_frame))
  go_ret
  exact ⟨rfl, HW.out⟩
set_option maxRecDepth 100000 in
set_option maxHeartbeats 800000 in
theorem text5_pd (x : Rv) (n d p q T V D Z : ByteArray) (w : World) (h21 : decide (q ≠ ⟨#[1]⟩) = true) (h8 : (∀ W, Calls Tryz.prog 31 #[.agg #[.bool x.neg, .string x.n, .string x.d]] W fun e w' => e = .returned (.agg #[.bool false, .string n, .string d]) ∧ Below W.heap.size W w')) (h11 : (∀ W, Calls Tryz.prog 32 #[.agg #[.bool false, .string n, .string d]] W fun e w' => e = .returned (.tuple #[.string p, .string q]) ∧ Below W.heap.size W w')) (h15 : (∀ W, Calls Tryz.prog 33 #[.string p] W fun e w' => e = .returned (.string T) ∧ Below W.heap.size W w')) (h23 : (∀ W, (binOp .add 9 (.string T) (.string ⟨#[47]⟩)).run Tryz.prog W = .ok (.string V) W)) (h25 : (∀ W, Calls Tryz.prog 33 #[.string q] W fun e w' => e = .returned (.string D) ∧ Below W.heap.size W w')) (h26 : (∀ W, (binOp .add 9 (.string V) (.string D)).run Tryz.prog W = .ok (.string Z) W)) : Calls Tryz.prog 7 #[.agg #[.bool x.neg, .string x.n, .string x.d]] w fun e w' => e = .returned (.string Z) ∧ Below w.heap.size w w' := by
  have HW := Lib.hid ((Below.refl w.heap.size w).alloc (Nat.le_refl _) (.cells #[.bool x.neg, .string x.n, .string x.d] 26))
  have H21 := Lib.hid (fun W => run_neqS q ⟨#[1]⟩ true h21 W)
  have F8 := Lib.hid h8
  have F11 := Lib.hid h11
  have F15 := Lib.hid h15
  have H23 := Lib.hid h23
  have F25 := Lib.hid h25
  have H26 := Lib.hid h26
  clear h21 h8 h11 h15 h23 h25 h26
  go_enter Tryz.func7, Tryz.ntmps7
  go_wp2_with fail
  refine (F8.out _).mono ?_
  rintro e w1 ⟨rfl, hb⟩
  replace HW := Lib.hid (HW.out.trans (hb.mono HW.out.size))
  clear hb
  go_wp2_with (first | (refine wpList_var rfl rfl 26 3 rfl rfl rfl (.tmp 8) rfl [.bool false, .string ByteArray.empty, .string ByteArray.empty] [.bool false, .string n, .string d] zero_api_Rat rfl rfl rfl size_api_Rat (List.forall_mem_cons.2 ⟨rfl, (List.forall_mem_cons.2 ⟨rfl, (List.forall_mem_cons.2 ⟨rfl, fun _ h => nomatch h⟩)⟩)⟩) ?_; intro w2 HA HBw; replace HW := Lib.hid (HW.out.trans (HBw.out.mono HW.out.size)); clear HBw) | (refine wpList_dst 10 rfl ?_; refine wpList_run 10 rfl rfl _ (exec_load 26 (.tmp 3) rfl _ (.agg #[.bool false, .string n, .string d]) rfl (run_load_part _ 26 _ 0 3 _ [.bool false, .string n, .string d] _ HA.out (by simp) Tryz.underlying26 rfl size_api_Rat)) ?_; go_frame))
  refine (F11.out _).mono ?_
  rintro e w3 ⟨rfl, hb⟩
  replace HW := Lib.hid (HW.out.trans (hb.mono HW.out.size))
  replace HA := Lib.hid (HA.out.next hb)
  clear hb
  go_wp2_with fail
  refine (F15.out _).mono ?_
  rintro e w4 ⟨rfl, hb⟩
  replace HW := Lib.hid (HW.out.trans (hb.mono HW.out.size))
  replace HA := Lib.hid (HA.out.next hb)
  clear hb
  go_wp2_with (first | (refine wpList_dst 21 rfl ?_; refine wpList_run 21 rfl rfl _ (exec_bin .neq 9 _ (.tmp 20) (.const (.string ⟨#[1]⟩)) rfl _ _ _ rfl rfl rfl (H21.out _)) ?_; go_frame) | (refine wpList_dst 23 rfl ?_; refine wpList_run 23 rfl rfl _ (exec_bin .add 9 _ (.tmp 22) (.const (.string ⟨#[47]⟩)) rfl _ _ _ rfl rfl rfl (H23.out _)) ?_; go_frame) | (refine wpList_dst 16 rfl ?_; refine wpList_run 16 rfl rfl _ (exec_fieldAddr 26 (.tmp 3) 0 rfl _ _ rfl (fa_api_Rat_0_0 _ _)) ?_; go_frame) | (refine wpList_dst 17 rfl ?_; refine wpList_run 17 rfl rfl _ (exec_load 4 (.tmp 16) rfl _ (.bool false) rfl (run_load_cell flat_bool (HA.out.cell 0))) ?_; go_frame))
  refine (F25.out _).mono ?_
  rintro e w5 ⟨rfl, hb⟩
  replace HW := Lib.hid (HW.out.trans (hb.mono HW.out.size))
  replace HA := Lib.hid (HA.out.next hb)
  clear hb
  go_wp2_with (first | (refine wpList_dst 26 rfl ?_; refine wpList_run 26 rfl rfl _ (exec_bin .add 9 _ (.tmp 23) (.tmp 25) rfl _ _ _ rfl rfl rfl (H26.out _)) ?_; go_frame))
  go_ret
  exact ⟨rfl, HW.out⟩
set_option maxRecDepth 100000 in
set_option maxHeartbeats 800000 in
theorem text5_nd (x : Rv) (n d p q T T2 V D Z : ByteArray) (w : World) (h21 : decide (q ≠ ⟨#[1]⟩) = true) (h8 : (∀ W, Calls Tryz.prog 31 #[.agg #[.bool x.neg, .string x.n, .string x.d]] W fun e w' => e = .returned (.agg #[.bool true, .string n, .string d]) ∧ Below W.heap.size W w')) (h11 : (∀ W, Calls Tryz.prog 32 #[.agg #[.bool true, .string n, .string d]] W fun e w' => e = .returned (.tuple #[.string p, .string q]) ∧ Below W.heap.size W w')) (h15 : (∀ W, Calls Tryz.prog 33 #[.string p] W fun e w' => e = .returned (.string T) ∧ Below W.heap.size W w')) (h19 : (∀ W, (binOp .add 9 (.string ⟨#[45]⟩) (.string T)).run Tryz.prog W = .ok (.string T2) W)) (h23 : (∀ W, (binOp .add 9 (.string T2) (.string ⟨#[47]⟩)).run Tryz.prog W = .ok (.string V) W)) (h25 : (∀ W, Calls Tryz.prog 33 #[.string q] W fun e w' => e = .returned (.string D) ∧ Below W.heap.size W w')) (h26 : (∀ W, (binOp .add 9 (.string V) (.string D)).run Tryz.prog W = .ok (.string Z) W)) : Calls Tryz.prog 7 #[.agg #[.bool x.neg, .string x.n, .string x.d]] w fun e w' => e = .returned (.string Z) ∧ Below w.heap.size w w' := by
  have HW := Lib.hid ((Below.refl w.heap.size w).alloc (Nat.le_refl _) (.cells #[.bool x.neg, .string x.n, .string x.d] 26))
  have H21 := Lib.hid (fun W => run_neqS q ⟨#[1]⟩ true h21 W)
  have F8 := Lib.hid h8
  have F11 := Lib.hid h11
  have F15 := Lib.hid h15
  have H19 := Lib.hid h19
  have H23 := Lib.hid h23
  have F25 := Lib.hid h25
  have H26 := Lib.hid h26
  clear h21 h8 h11 h15 h19 h23 h25 h26
  go_enter Tryz.func7, Tryz.ntmps7
  go_wp2_with fail
  refine (F8.out _).mono ?_
  rintro e w1 ⟨rfl, hb⟩
  replace HW := Lib.hid (HW.out.trans (hb.mono HW.out.size))
  clear hb
  go_wp2_with (first | (refine wpList_var rfl rfl 26 3 rfl rfl rfl (.tmp 8) rfl [.bool false, .string ByteArray.empty, .string ByteArray.empty] [.bool true, .string n, .string d] zero_api_Rat rfl rfl rfl size_api_Rat (List.forall_mem_cons.2 ⟨rfl, (List.forall_mem_cons.2 ⟨rfl, (List.forall_mem_cons.2 ⟨rfl, fun _ h => nomatch h⟩)⟩)⟩) ?_; intro w2 HA HBw; replace HW := Lib.hid (HW.out.trans (HBw.out.mono HW.out.size)); clear HBw) | (refine wpList_dst 10 rfl ?_; refine wpList_run 10 rfl rfl _ (exec_load 26 (.tmp 3) rfl _ (.agg #[.bool true, .string n, .string d]) rfl (run_load_part _ 26 _ 0 3 _ [.bool true, .string n, .string d] _ HA.out (by simp) Tryz.underlying26 rfl size_api_Rat)) ?_; go_frame))
  refine (F11.out _).mono ?_
  rintro e w3 ⟨rfl, hb⟩
  replace HW := Lib.hid (HW.out.trans (hb.mono HW.out.size))
  replace HA := Lib.hid (HA.out.next hb)
  clear hb
  go_wp2_with fail
  refine (F15.out _).mono ?_
  rintro e w4 ⟨rfl, hb⟩
  replace HW := Lib.hid (HW.out.trans (hb.mono HW.out.size))
  replace HA := Lib.hid (HA.out.next hb)
  clear hb
  go_wp2_with (first | (refine wpList_dst 21 rfl ?_; refine wpList_run 21 rfl rfl _ (exec_bin .neq 9 _ (.tmp 20) (.const (.string ⟨#[1]⟩)) rfl _ _ _ rfl rfl rfl (H21.out _)) ?_; go_frame) | (refine wpList_dst 19 rfl ?_; refine wpList_run 19 rfl rfl _ (exec_bin .add 9 _ (.const (.string ⟨#[45]⟩)) (.tmp 18) rfl _ _ _ rfl rfl rfl (H19.out _)) ?_; go_frame) | (refine wpList_dst 23 rfl ?_; refine wpList_run 23 rfl rfl _ (exec_bin .add 9 _ (.tmp 22) (.const (.string ⟨#[47]⟩)) rfl _ _ _ rfl rfl rfl (H23.out _)) ?_; go_frame) | (refine wpList_dst 16 rfl ?_; refine wpList_run 16 rfl rfl _ (exec_fieldAddr 26 (.tmp 3) 0 rfl _ _ rfl (fa_api_Rat_0_0 _ _)) ?_; go_frame) | (refine wpList_dst 17 rfl ?_; refine wpList_run 17 rfl rfl _ (exec_load 4 (.tmp 16) rfl _ (.bool true) rfl (run_load_cell flat_bool (HA.out.cell 0))) ?_; go_frame))
  refine (F25.out _).mono ?_
  rintro e w5 ⟨rfl, hb⟩
  replace HW := Lib.hid (HW.out.trans (hb.mono HW.out.size))
  replace HA := Lib.hid (HA.out.next hb)
  clear hb
  go_wp2_with (first | (refine wpList_dst 26 rfl ?_; refine wpList_run 26 rfl rfl _ (exec_bin .add 9 _ (.tmp 23) (.tmp 25) rfl _ _ _ rfl rfl rfl (H26.out _)) ?_; go_frame))
  go_ret
  exact ⟨rfl, HW.out⟩
theorem cat5 (s t : List UInt8) (h : s.length + t.length ≤ 1000000) (W : World) : (binOp .add 9 (.string (sb s)) (.string (sb t))).run Tryz.prog W = .ok (.string (sb (s ++ t))) W := by
  have h1 := run_concat W (sb s) (sb t) (by rw [sb_size, sb_size]; exact h)
  rwa [sb_list, sb_list] at h1
theorem rtext5_any (x : Rv) (w : World) (hx : szR 900 x) : Calls Tryz.prog 7 #[rv x] w fun e w' => e = .returned (.string (sb (txtQ (valR x)))) ∧ Below w.heap.size w w' := by
  have sx := Sz_val x 900 (by decide) hx.1 hx.2
  have cx := fun W => rcl_any x W (sz_big hx (by decide))
  generalize valR x = A at sx cx ⊢
  have px := fun W => parts_any A W
  have tn := fun W => rtext_any (cS A.num.natAbs) W (Nat.le_trans sx.1 (by decide))
  have td := fun W => rtext_any (cS A.den) W (Nat.le_trans sx.2 (by decide))
  have ln := dec_short sx.1
  have ld := dec_short sx.2
  rw [nB_cS] at tn td ln ld
  unfold txtQ
  generalize Lib.decDigits A.num.natAbs = P at tn ln ⊢
  generalize Lib.decDigits A.den = Q at td ld ⊢
  by_cases h0 : A.num < 0
  · obtain ⟨n, d, e0⟩ := rt_parts A true (decide_eq_true h0)
    rw [e0] at cx px
    rw [if_pos h0]
    by_cases h1 : A.den = 1
    · rw [if_pos h1, List.append_nil]
      exact text5_n x n d _ _ _ _ w (decide_eq_false fun h => h (by rw [h1, c1])) cx px tn (fun W => cat5 [45] P (by simp; omega) W)
    · rw [if_neg h1, show (47 :: Q) = [47] ++ Q from rfl, ← List.append_assoc]
      exact text5_nd x n d _ _ _ _ _ _ _ w (decide_eq_true fun h => h1 (cS_inj (by rw [h, c1]))) cx px tn (fun W => cat5 [45] P (by simp; omega) W) (fun W => cat5 ([45] ++ P) [47] (by simp; omega) W) td (fun W => cat5 ([45] ++ P ++ [47]) Q (by simp; omega) W)
  · obtain ⟨n, d, e0⟩ := rt_parts A false (decide_eq_false h0)
    rw [e0] at cx px
    rw [if_neg h0, List.nil_append]
    by_cases h1 : A.den = 1
    · rw [if_pos h1, List.append_nil]
      exact text5_p x n d _ _ _ w (decide_eq_false fun h => h (by rw [h1, c1])) cx px tn
    · rw [if_neg h1, show (47 :: Q) = [47] ++ Q from rfl, ← List.append_assoc]
      exact text5_pd x n d _ _ _ _ _ _ w (decide_eq_true fun h => h1 (cS_inj (by rw [h, c1]))) cx px tn (fun W => cat5 P [47] (by simp; omega) W) td (fun W => cat5 (P ++ [47]) Q (by simp; omega) W)
end Go.Proofs.YtpmlihhofmblpaaGreatDoor
