/- The reference: Add, Sub and Mul. -/
import Derived.Test.YtibfmcohodhkbaaGreatDoorS4
namespace Go.Proofs.YtibfmcohodhkbaaGreatDoor
open Go.RowKit Hm Wm Wn

theorem run_eqb5 (b c d : Bool) (h : (b == c) = d) (W : World) : (binOp .eql 4 (.bool b) (.bool c)).run Tryz.prog W = .ok (.bool d) W := by
  subst h
  cases b <;> cases c <;> kernel_rfl
theorem rt_negb (q : Rat) : (rt q).neg = decide (q.num < 0) := by
  unfold rt
  split
  · rename_i h; subst h; rfl
  · rfl
theorem sg_add (n : Bool) (u v : Nat) : sg n u + sg n v = sg n (u + v) := by cases n <;> simp [sg] <;> omega
theorem sg_two (n : Bool) (u v : Nat) (h : v ≤ u) : sg n u + sg (!n) v = sg n (u - v) := by cases n <;> simp [sg] <;> omega
theorem sg_rt (q : Rat) : sg (rt q).neg q.num.natAbs = q.num := by rw [rt_negb]; exact sg_of _
theorem radd5_any (x y : Rv) (w : World) (hx : szR 1000 x) (hy : szR 1000 y) : Calls Tryz.prog 23 #[rv x, rv y] w fun e w' => e = .returned (rv (rt (valR x + valR y))) ∧ Below w.heap.size w w' := by
  have sx := Sz_val x 1000 (by decide) hx.1 hx.2
  have sy := Sz_val y 1000 (by decide) hy.1 hy.2
  have cx := fun W => rcl_any x W (sz_big hx (by decide))
  have cy := fun W => rcl_any y W (sz_big hy (by decide))
  generalize valR x = A at sx cx ⊢
  generalize valR y = B at sy cy ⊢
  have e1 : A.num * (B.den : Int) = sg (rt A).neg (A.num.natAbs * B.den) := by rw [sg_mulS, sg_rt]
  have e2 : B.num * (A.den : Int) = sg (rt B).neg (B.num.natAbs * A.den) := by rw [sg_mulS, sg_rt]
  have z1 : (cS (A.num.natAbs * B.den)).size ≤ 2000 := cS_mulS sx.1 sy.2
  have z2 : (cS (B.num.natAbs * A.den)).size ≤ 2000 := cS_mulS sy.1 sx.2
  have z3 : (cS (A.den * B.den)).size ≤ 2000 := cS_mulS sx.2 sy.2
  have d0 : A.den * B.den ≠ 0 := Nat.mul_ne_zero A.den_nz B.den_nz
  have m1 := fun W => rmul_any (cS A.num.natAbs) (cS B.den) W (Nat.le_trans sx.1 (by decide)) (Nat.le_trans sy.2 (by decide))
  have m2 := fun W => rmul_any (cS B.num.natAbs) (cS A.den) W (Nat.le_trans sy.1 (by decide)) (Nat.le_trans sx.2 (by decide))
  have m3 := fun W => rmul_any (cS A.den) (cS B.den) W (Nat.le_trans sx.2 (by decide)) (Nat.le_trans sy.2 (by decide))
  rw [nB_cS, nB_cS] at m1 m2 m3
  rw [Rat.add_def', e1, e2]
  generalize A.num.natAbs * B.den = u at z1 m1 ⊢
  generalize B.num.natAbs * A.den = v at z2 m2 ⊢
  generalize A.den * B.den = dd at z3 m3 d0 ⊢
  by_cases hn : (rt A).neg = (rt B).neg
  · rw [← hn, sg_add]
    refine add5_same x y (rt A) (rt B) _ _ _ _ _ _ _ _ (cS (u + v)) w (fun W => run_eqb5 _ _ _ (by rw [hn]; exact beq_self_eq_true _) W) cx cy (fun W => parts_any A W) (fun W => parts_any B W) m1 m2 m3 (fun W => ?_) (fun W => low_any _ _ _ W (Nat.le_trans (cS_addS z1 z2) (by decide)) (Nat.le_trans z3 (by decide)) d0)
    have h := radd_any (cS u) (cS v) W (Nat.le_trans z1 (by decide)) (Nat.le_trans z2 (by decide))
    rwa [nB_cS, nB_cS] at h
  · have hb : (rt B).neg = !(rt A).neg := by cases h1 : (rt A).neg <;> cases h2 : (rt B).neg <;> simp_all
    have he : ((rt A).neg == (rt B).neg) = false := by rw [hb]; cases (rt A).neg <;> rfl
    have hc := fun W => (rcmp_any (cS u) (cS v) W (Nat.le_trans z1 (by decide)) (Nat.le_trans z2 (by decide))).mono (fun e w' h => (⟨h.1, by rw [h.2]; exact Below.refl _ _⟩ : e = .returned (.int .i64 (cmpN (nB (cS u)) (nB (cS v)))) ∧ Below W.heap.size W w'))
    rw [nB_cS, nB_cS] at hc
    by_cases hle : v ≤ u
    · rw [hb, sg_two _ _ _ hle]
      refine add5_ge x y (rt A) (rt B) _ _ _ _ _ _ _ _ (cS (u - v)) w (fun W => run_eqb5 _ _ _ he W) (cmpN u v) (by unfold cmpN; rw [if_neg (by omega)]; split <;> rfl) cx cy (fun W => parts_any A W) (fun W => parts_any B W) m1 m2 m3 hc (fun W => ?_) (fun W => low_any _ _ _ W (Nat.le_trans (cS_le (Nat.sub_le u v) z1) (by decide)) (Nat.le_trans z3 (by decide)) d0)
      have h := rsub_any (cS u) (cS v) W (Nat.le_trans z1 (by decide)) (Nat.le_trans z2 (by decide)) (by rw [nB_cS, nB_cS]; exact hle)
      rw [nB_cS, nB_cS] at h
      exact h
    · have hq : sg (rt A).neg u + sg (rt B).neg v = sg (rt B).neg (v - u) := by
        have h := sg_two (rt B).neg v u (by omega)
        rw [show (!(rt B).neg) = (rt A).neg by rw [hb, Bool.not_not]] at h
        rw [Int.add_comm]; exact h
      rw [hq]
      refine add5_lt x y (rt A) (rt B) _ _ _ _ _ _ _ _ (cS (v - u)) w (fun W => run_eqb5 _ _ _ he W) (cmpN u v) (by unfold cmpN; rw [if_pos (by omega)]; rfl) cx cy (fun W => parts_any A W) (fun W => parts_any B W) m1 m2 m3 hc (fun W => ?_) (fun W => low_any _ _ _ W (Nat.le_trans (cS_le (Nat.sub_le v u) z2) (by decide)) (Nat.le_trans z3 (by decide)) d0)
      have h := rsub_any (cS v) (cS u) W (Nat.le_trans z2 (by decide)) (Nat.le_trans z1 (by decide)) (by rw [nB_cS, nB_cS]; omega)
      rw [nB_cS, nB_cS] at h
      exact h
set_option maxRecDepth 100000 in
set_option maxHeartbeats 800000 in
theorem sub5_raw (x y b R : Rv) (w : World) (h7 : (∀ W, Calls Tryz.prog 21 #[rv y] W fun e w' => e = .returned (rv b) ∧ Below W.heap.size W w')) (h8 : (∀ W, Calls Tryz.prog 23 #[rv x, rv b] W fun e w' => e = .returned (rv R) ∧ Below W.heap.size W w')) : Calls Tryz.prog 25 #[.agg #[.bool x.neg, .string x.n, .string x.d], .agg #[.bool y.neg, .string y.n, .string y.d]] w fun e w' => e = .returned (.agg #[.bool R.neg, .string R.n, .string R.d]) ∧ Below w.heap.size w w' := by
  obtain ⟨W0, hW0, kx, ky, kz, kw⟩ := three_vars w 23 23 23 [.bool x.neg, .string x.n, .string x.d] [.bool y.neg, .string y.n, .string y.d] [.bool false, .string ⟨#[]⟩, .string ⟨#[]⟩]
  have HX := Lib.hid kx
  have HY := Lib.hid ky
  have HZ := Lib.hid kz
  have HW := Lib.hid kw
  have F7 := Lib.hid h7
  have F8 := Lib.hid h8
  clear kx ky kz kw h7 h8
  go_enter Tryz.func25, Tryz.ntmps25
  go_wp2_with fail
  rw [← hW0]
  clear hW0
  refine late_begin (S := fun _ W => Blk W w.heap.size 23 [.bool x.neg, .string x.n, .string x.d] ∧ Blk W (w.heap.size + 1) 23 [.bool y.neg, .string y.n, .string y.d]) (by kernel_rfl) ?_
  have hX0 := HX.out.drew
  have hY0 := HY.out.drew
  have hZ0 := HZ.out.drew
  have hW0 := HW.out.drew
  generalize W0.drew = u0 at hX0 hY0 hZ0 hW0 ⊢
  clear HX HY HZ HW
  refine late_take [] (i := 0) (some 5) rfl rfl (by first | rfl | kernel_rfl) (by kernel_rfl) (by kernel_rfl) (by kernel_rfl) (by kernel_rfl) (by kernel_rfl) (fun Ls W h => h) (rv x) (fun _ _ _ h => h) (fun Ls W hl0 hW => exec_load 23 (.tmp 2) rfl _ (rv x) rfl (run_load_part W 23 _ 0 3 _ [.bool x.neg, .string x.n, .string x.d] _ hW.1 (by simp) Tryz.underlying23 rfl size_api_Rat)) ⟨hX0, hY0⟩ ⟨hX0, hY0⟩ ?_
  go_frame
  refine late_take [] (i := 1) (some 6) rfl rfl (by first | rfl | kernel_rfl) (by kernel_rfl) (by kernel_rfl) (by kernel_rfl) (by kernel_rfl) (by kernel_rfl) (fun Ls W h => h) (rv y) (fun _ _ _ h => h) (fun Ls W hl0 hW => exec_load 23 (.tmp 3) rfl _ (rv y) rfl (run_load_part W 23 _ 0 3 _ [.bool y.neg, .string y.n, .string y.d] _ hW.2 (by simp) Tryz.underlying23 rfl size_api_Rat)) ⟨hX0, hY0⟩ ⟨hX0, hY0⟩ ?_
  go_frame
  refine late_one (i := 2) (by kernel_rfl) (op_callG (some 7) rfl rfl (by first | rfl | kernel_rfl) rfl Tryz.func21 (by kernel_rfl) (by kernel_rfl) #[rv y] rfl (F7.out u0) ?_)
  rintro e u1 ⟨rfl, hb⟩
  have hX1 := hX0.next hb
  have hY1 := hY0.next hb
  have hZ1 := hZ0.next hb
  have hW1 := hW0.trans (hb.mono hW0.size)
  refine ⟨_, rfl, ⟨hX1, hY1⟩, ?_⟩
  go_frame
  clear hX0 hY0 hZ0 hW0 hb
  refine late_one (i := 3) (by kernel_rfl) (op_callG (some 8) rfl rfl (by first | rfl | kernel_rfl) rfl Tryz.func23 (by kernel_rfl) (by kernel_rfl) #[rv x, rv b] rfl (F8.out u1) ?_)
  rintro e u2 ⟨rfl, hb⟩
  have hX2 := hX1.next hb
  have hY2 := hY1.next hb
  have hZ2 := hZ1.next hb
  have hW2 := hW1.trans (hb.mono hW1.size)
  refine ⟨_, rfl, ⟨hX2, hY2⟩, ?_⟩
  go_frame
  clear hX1 hY1 hZ1 hW1 hb
  refine late_one (i := 4) (by kernel_rfl) (op_store_all rfl rfl rfl 23 (.tmp 4) (.tmp 8) rfl (w.heap.size + 1 + 1) _ [.bool false, .string ⟨#[]⟩, .string ⟨#[]⟩] [.bool R.neg, .string R.n, .string R.d] rfl rfl hZ2 rfl qr_size (List.forall_mem_cons.2 ⟨rfl, (List.forall_mem_cons.2 ⟨rfl, (List.forall_mem_cons.2 ⟨rfl, fun _ h => nomatch h⟩)⟩)⟩) ?_)
  intro w9 hk9 ho9
  have hX3 := ho9.blk hX2 (by omega)
  have hY3 := ho9.blk hY2 (by omega)
  have hZ3 := hk9
  have hW3 := hW2.trans (ho9.below (by omega))
  refine ⟨⟨hX3, hY3⟩, ?_⟩
  refine late_done (by kernel_rfl) ?_ _
  go_frame
  clear hX2 hY2 hZ2 hW2 hk9 ho9
  have HX := Lib.hid hX3
  have HY := Lib.hid hY3
  have HZ := Lib.hid hZ3
  have HW := Lib.hid hW3
  clear hX3 hY3 hZ3 hW3
  go_wp2_with fail
  exact bodyPost_ret (results_blk rfl _ _ (w.heap.size + 1 + 1) _ [.bool R.neg, .string R.n, .string R.d] _ rfl HZ.out Tryz.underlying23 rfl qr_size) rfl ⟨rfl, HW.out⟩
theorem rsub5_any (x y : Rv) (w : World) (hx : szR 1000 x) (hy : szR 900 y) : Calls Tryz.prog 25 #[rv x, rv y] w fun e w' => e = .returned (rv (rt (valR x - valR y))) ∧ Below w.heap.size w w' := by
  have sy := Sz_val y 900 (by decide) hy.1 hy.2
  refine sub5_raw x y (rt (-valR y)) _ w (fun W => rneg_any y W (sz_big hy (by decide))) (fun W => ?_)
  have h := radd5_any x (rt (-valR y)) W hx (sz_big (sz_rt (Sz_neg sy)) (by decide))
  rwa [val_rt, ← Rat.sub_eq_add_neg] at h
set_option maxRecDepth 100000 in
set_option maxHeartbeats 2000000 in
theorem mul5_raw (x y a b R : Rv) (p q r s N D : ByteArray) (e : Bool) (w : World) (h29 : (a.neg != b.neg) = e) (h12 : (∀ W, Calls Tryz.prog 50 #[.agg #[.bool x.neg, .string x.n, .string x.d]] W fun e w' => e = .returned (.agg #[.bool a.neg, .string a.n, .string a.d]) ∧ Below W.heap.size W w')) (h14 : (∀ W, Calls Tryz.prog 50 #[.agg #[.bool y.neg, .string y.n, .string y.d]] W fun e w' => e = .returned (.agg #[.bool b.neg, .string b.n, .string b.d]) ∧ Below W.heap.size W w')) (h17 : (∀ W, Calls Tryz.prog 52 #[.agg #[.bool a.neg, .string a.n, .string a.d]] W fun e w' => e = .returned (.tuple #[.string p, .string q]) ∧ Below W.heap.size W w')) (h22 : (∀ W, Calls Tryz.prog 52 #[.agg #[.bool b.neg, .string b.n, .string b.d]] W fun e w' => e = .returned (.tuple #[.string r, .string s]) ∧ Below W.heap.size W w')) (h32 : (∀ W, Calls Tryz.prog 65 #[.string p, .string r] W fun e w' => e = .returned (.string N) ∧ Below W.heap.size W w')) (h35 : (∀ W, Calls Tryz.prog 65 #[.string q, .string s] W fun e w' => e = .returned (.string D) ∧ Below W.heap.size W w')) (h36 : (∀ W, Calls Tryz.prog 44 #[.bool e, .string N, .string D] W fun e w' => e = .returned (rv R) ∧ Below W.heap.size W w')) : Calls Tryz.prog 27 #[.agg #[.bool x.neg, .string x.n, .string x.d], .agg #[.bool y.neg, .string y.n, .string y.d]] w fun e w' => e = .returned (.agg #[.bool R.neg, .string R.n, .string R.d]) ∧ Below w.heap.size w w' := by
  obtain ⟨W0, hW0, kx, ky, kz, kw⟩ := three_vars w 23 23 23 [.bool x.neg, .string x.n, .string x.d] [.bool y.neg, .string y.n, .string y.d] [.bool false, .string ⟨#[]⟩, .string ⟨#[]⟩]
  have HX := Lib.hid kx
  have HY := Lib.hid ky
  have HZ := Lib.hid kz
  have HW := Lib.hid kw
  have H29 := Lib.hid (fun W => run_neqb a.neg b.neg e h29 W)
  have F12 := Lib.hid h12
  have F14 := Lib.hid h14
  have F17 := Lib.hid h17
  have F22 := Lib.hid h22
  have F32 := Lib.hid h32
  have F35 := Lib.hid h35
  have F36 := Lib.hid h36
  clear kx ky kz kw h29 h12 h14 h17 h22 h32 h35 h36
  go_enter Tryz.func27, Tryz.ntmps27
  go_wp2_with fail
  rw [← hW0]
  clear hW0
  refine (F12.out _).mono ?_
  rintro e w1 ⟨rfl, hb⟩
  replace HX := Lib.hid (HX.out.next hb)
  replace HY := Lib.hid (HY.out.next hb)
  replace HZ := Lib.hid (HZ.out.next hb)
  replace HW := Lib.hid (HW.out.trans (hb.mono HW.out.size))
  clear hb
  clear HX
  have hgA : w.heap.size + 1 + 1 < w1.heap.size := HZ.out.lt
  have HGA := Lib.hid hgA
  clear hgA
  go_wp2_with (first | (refine wpList_var rfl rfl 23 5 rfl rfl rfl (.tmp 12) rfl [.bool false, .string ByteArray.empty, .string ByteArray.empty] [.bool a.neg, .string a.n, .string a.d] zero_api_Rat rfl rfl rfl size_api_Rat (List.forall_mem_cons.2 ⟨rfl, (List.forall_mem_cons.2 ⟨rfl, (List.forall_mem_cons.2 ⟨rfl, fun _ h => nomatch h⟩)⟩)⟩) ?_; intro w2 HA HBw; replace HY := Lib.hid (HY.out.next HBw.out); replace HZ := Lib.hid (HZ.out.next HBw.out); replace HW := Lib.hid (HW.out.trans (HBw.out.mono HW.out.size)); clear HBw) | (refine wpList_dst 13 rfl ?_; refine wpList_run 13 rfl rfl _ (exec_load 23 (.tmp 3) rfl _ (.agg #[.bool y.neg, .string y.n, .string y.d]) rfl (run_load_part _ 23 _ 0 3 _ [.bool y.neg, .string y.n, .string y.d] _ HY.out (by simp) Tryz.underlying23 rfl size_api_Rat)) ?_; go_frame))
  obtain ⟨gA, hgA⟩ : ∃ q, q = w1.heap.size := ⟨_, rfl⟩
  rw [← hgA] at HA HGA ⊢
  clear hgA
  refine (F14.out _).mono ?_
  rintro e w3 ⟨rfl, hb⟩
  replace HY := Lib.hid (HY.out.next hb)
  replace HZ := Lib.hid (HZ.out.next hb)
  replace HW := Lib.hid (HW.out.trans (hb.mono HW.out.size))
  replace HA := Lib.hid (HA.out.next hb)
  clear hb
  clear HY
  have hgB : w.heap.size + 1 + 1 < w3.heap.size := HZ.out.lt
  have HGB := Lib.hid hgB
  clear hgB
  go_wp2_with (first | (refine wpList_var rfl rfl 23 6 rfl rfl rfl (.tmp 14) rfl [.bool false, .string ByteArray.empty, .string ByteArray.empty] [.bool b.neg, .string b.n, .string b.d] zero_api_Rat rfl rfl rfl size_api_Rat (List.forall_mem_cons.2 ⟨rfl, (List.forall_mem_cons.2 ⟨rfl, (List.forall_mem_cons.2 ⟨rfl, fun _ h => nomatch h⟩)⟩)⟩) ?_; intro w4 HB HBw; replace HZ := Lib.hid (HZ.out.next HBw.out); replace HW := Lib.hid (HW.out.trans (HBw.out.mono HW.out.size)); replace HA := Lib.hid (HA.out.next HBw.out); clear HBw) | (refine wpList_dst 16 rfl ?_; refine wpList_run 16 rfl rfl _ (exec_load 23 (.tmp 5) rfl _ (.agg #[.bool a.neg, .string a.n, .string a.d]) rfl (run_load_part _ 23 _ 0 3 _ [.bool a.neg, .string a.n, .string a.d] _ HA.out (by simp) Tryz.underlying23 rfl size_api_Rat)) ?_; go_frame))
  obtain ⟨gB, hgB⟩ : ∃ q, q = w3.heap.size := ⟨_, rfl⟩
  rw [← hgB] at HB HGB ⊢
  clear hgB
  refine (F17.out _).mono ?_
  rintro e w5 ⟨rfl, hb⟩
  replace HZ := Lib.hid (HZ.out.next hb)
  replace HW := Lib.hid (HW.out.trans (hb.mono HW.out.size))
  replace HA := Lib.hid (HA.out.next hb)
  replace HB := Lib.hid (HB.out.next hb)
  clear hb
  go_wp2_with (first | (refine wpList_dst 21 rfl ?_; refine wpList_run 21 rfl rfl _ (exec_load 23 (.tmp 6) rfl _ (.agg #[.bool b.neg, .string b.n, .string b.d]) rfl (run_load_part _ 23 _ 0 3 _ [.bool b.neg, .string b.n, .string b.d] _ HB.out (by simp) Tryz.underlying23 rfl size_api_Rat)) ?_; go_frame))
  refine (F22.out _).mono ?_
  rintro e w6 ⟨rfl, hb⟩
  replace HZ := Lib.hid (HZ.out.next hb)
  replace HW := Lib.hid (HW.out.trans (hb.mono HW.out.size))
  replace HA := Lib.hid (HA.out.next hb)
  replace HB := Lib.hid (HB.out.next hb)
  clear hb
  go_wp2_with fail
  refine late_begin (S := fun _ W => Blk W gA 23 [.bool a.neg, .string a.n, .string a.d] ∧ Blk W gB 23 [.bool b.neg, .string b.n, .string b.d]) (by kernel_rfl) ?_
  have hZ0 := HZ.out.drew
  have hW0 := HW.out.drew
  have hA0 := HA.out.drew
  have hB0 := HB.out.drew
  generalize w6.drew = u0 at hZ0 hW0 hA0 hB0 ⊢
  clear HZ HW HA HB
  refine late_take [] (i := 0) (some 25) rfl rfl (by first | rfl | kernel_rfl) (by kernel_rfl) (by kernel_rfl) (by kernel_rfl) (by kernel_rfl) (by kernel_rfl) (fun Ls W h => h) (.pointer (some ⟨gA, 0, none⟩)) (fun _ _ _ h => h) (fun Ls W hl0 hW => exec_fieldAddr 23 (.tmp 5) 0 rfl _ _ rfl (fa_api_Rat_0_0 _ _)) ⟨hA0, hB0⟩ ⟨hA0, hB0⟩ ?_
  go_frame
  refine late_take [] (i := 1) (some 26) rfl rfl (by first | rfl | kernel_rfl) (by kernel_rfl) (by kernel_rfl) (by kernel_rfl) (by kernel_rfl) (by kernel_rfl) (fun Ls W h => h) (.bool a.neg) (fun _ _ _ h => h) (fun Ls W hl0 hW => exec_load 4 (.tmp 25) rfl _ _ rfl (run_load_cell flat_bool (hW.1.cell 0))) ⟨hA0, hB0⟩ ⟨hA0, hB0⟩ ?_
  go_frame
  refine late_take [] (i := 2) (some 27) rfl rfl (by first | rfl | kernel_rfl) (by kernel_rfl) (by kernel_rfl) (by kernel_rfl) (by kernel_rfl) (by kernel_rfl) (fun Ls W h => h) (.pointer (some ⟨gB, 0, none⟩)) (fun _ _ _ h => h) (fun Ls W hl0 hW => exec_fieldAddr 23 (.tmp 6) 0 rfl _ _ rfl (fa_api_Rat_0_0 _ _)) ⟨hA0, hB0⟩ ⟨hA0, hB0⟩ ?_
  go_frame
  refine late_take [] (i := 3) (some 28) rfl rfl (by first | rfl | kernel_rfl) (by kernel_rfl) (by kernel_rfl) (by kernel_rfl) (by kernel_rfl) (by kernel_rfl) (fun Ls W h => h) (.bool b.neg) (fun _ _ _ h => h) (fun Ls W hl0 hW => exec_load 4 (.tmp 27) rfl _ _ rfl (run_load_cell flat_bool (hW.2.cell 0))) ⟨hA0, hB0⟩ ⟨hA0, hB0⟩ ?_
  go_frame
  refine late_take [] (i := 4) (some 29) rfl rfl (by first | rfl | kernel_rfl) (by kernel_rfl) (by kernel_rfl) (by kernel_rfl) (by kernel_rfl) (by kernel_rfl) (fun Ls W h => h) (.bool e) (fun _ _ _ h => h) (fun Ls W hl0 hW => exec_bin .neq 4 _ (.tmp 26) (.tmp 28) rfl _ _ _ rfl rfl rfl (H29.out _)) ⟨hA0, hB0⟩ ⟨hA0, hB0⟩ ?_
  go_frame
  refine late_take [] (i := 5) (some 30) rfl rfl (by first | rfl | kernel_rfl) (by kernel_rfl) (by kernel_rfl) (by kernel_rfl) (by kernel_rfl) (by kernel_rfl) (fun Ls W h => h) (.string p) (fun _ _ _ h => h) (fun Ls W hl0 hW => exec_move (.tmp 7) rfl _ rfl) ⟨hA0, hB0⟩ ⟨hA0, hB0⟩ ?_
  go_frame
  refine late_take [] (i := 6) (some 31) rfl rfl (by first | rfl | kernel_rfl) (by kernel_rfl) (by kernel_rfl) (by kernel_rfl) (by kernel_rfl) (by kernel_rfl) (fun Ls W h => h) (.string r) (fun _ _ _ h => h) (fun Ls W hl0 hW => exec_move (.tmp 9) rfl _ rfl) ⟨hA0, hB0⟩ ⟨hA0, hB0⟩ ?_
  go_frame
  refine late_take [] (i := 8) (some 33) rfl rfl (by first | rfl | kernel_rfl) (by kernel_rfl) (by kernel_rfl) (by kernel_rfl) (by kernel_rfl) (by kernel_rfl) (fun Ls W h => h) (.string q) (fun _ _ _ h => h) (fun Ls W hl0 hW => exec_move (.tmp 8) rfl _ rfl) ⟨hA0, hB0⟩ ⟨hA0, hB0⟩ ?_
  go_frame
  refine late_take [] (i := 9) (some 34) rfl rfl (by first | rfl | kernel_rfl) (by kernel_rfl) (by kernel_rfl) (by kernel_rfl) (by kernel_rfl) (by kernel_rfl) (fun Ls W h => h) (.string s) (fun _ _ _ h => h) (fun Ls W hl0 hW => exec_move (.tmp 10) rfl _ rfl) ⟨hA0, hB0⟩ ⟨hA0, hB0⟩ ?_
  go_frame
  refine late_one (i := 7) (by kernel_rfl) (op_callG (some 32) rfl rfl (by first | rfl | kernel_rfl) rfl Tryz.func65 (by kernel_rfl) (by kernel_rfl) #[.string p, .string r] rfl (F32.out u0) ?_)
  rintro e u1 ⟨rfl, hb⟩
  have hZ1 := hZ0.next hb
  have hW1 := hW0.trans (hb.mono hW0.size)
  have hA1 := hA0.next hb
  have hB1 := hB0.next hb
  refine ⟨_, rfl, ⟨hA1, hB1⟩, ?_⟩
  go_frame
  clear hZ0 hW0 hA0 hB0 hb
  refine late_one (i := 10) (by kernel_rfl) (op_callG (some 35) rfl rfl (by first | rfl | kernel_rfl) rfl Tryz.func65 (by kernel_rfl) (by kernel_rfl) #[.string q, .string s] rfl (F35.out u1) ?_)
  rintro e u2 ⟨rfl, hb⟩
  have hZ2 := hZ1.next hb
  have hW2 := hW1.trans (hb.mono hW1.size)
  have hA2 := hA1.next hb
  have hB2 := hB1.next hb
  refine ⟨_, rfl, ⟨hA2, hB2⟩, ?_⟩
  go_frame
  clear hZ1 hW1 hA1 hB1 hb
  refine late_one (i := 11) (by kernel_rfl) (op_callG (some 36) rfl rfl (by first | rfl | kernel_rfl) rfl Tryz.func44 (by kernel_rfl) (by kernel_rfl) #[.bool e, .string N, .string D] rfl (F36.out u2) ?_)
  rintro e u3 ⟨rfl, hb⟩
  have hZ3 := hZ2.next hb
  have hW3 := hW2.trans (hb.mono hW2.size)
  have hA3 := hA2.next hb
  have hB3 := hB2.next hb
  refine ⟨_, rfl, ⟨hA3, hB3⟩, ?_⟩
  go_frame
  clear hZ2 hW2 hA2 hB2 hb
  refine late_one (i := 12) (by kernel_rfl) (op_store_all rfl rfl rfl 23 (.tmp 4) (.tmp 36) rfl (w.heap.size + 1 + 1) _ [.bool false, .string ⟨#[]⟩, .string ⟨#[]⟩] [.bool R.neg, .string R.n, .string R.d] rfl rfl hZ3 rfl qr_size (List.forall_mem_cons.2 ⟨rfl, (List.forall_mem_cons.2 ⟨rfl, (List.forall_mem_cons.2 ⟨rfl, fun _ h => nomatch h⟩)⟩)⟩) ?_)
  intro w9 hk9 ho9
  have hZ4 := hk9
  have hW4 := hW3.trans (ho9.below (by omega))
  have hA4 := ho9.blk hA3 (by have := HGA.out; omega)
  have hB4 := ho9.blk hB3 (by have := HGB.out; omega)
  refine ⟨⟨hA4, hB4⟩, ?_⟩
  refine late_done (by kernel_rfl) ?_ _
  go_frame
  clear hZ3 hW3 hA3 hB3 hk9 ho9
  have HZ := Lib.hid hZ4
  have HW := Lib.hid hW4
  have HA := Lib.hid hA4
  have HB := Lib.hid hB4
  clear hZ4 hW4 hA4 hB4
  go_wp2_with fail
  exact bodyPost_ret (results_blk rfl _ _ (w.heap.size + 1 + 1) _ [.bool R.neg, .string R.n, .string R.d] _ rfl HZ.out Tryz.underlying23 rfl qr_size) rfl ⟨rfl, HW.out⟩
theorem sg_mul2 (b c : Bool) (i j : Nat) : sg (b != c) (i * j) = sg b i * sg c j := by cases b <;> cases c <;> simp [sg, Int.mul_neg, Int.neg_mul]
theorem rmul5_any (x y : Rv) (w : World) (hx : szR 1000 x) (hy : szR 1000 y) : Calls Tryz.prog 27 #[rv x, rv y] w fun e w' => e = .returned (rv (rt (valR x * valR y))) ∧ Below w.heap.size w w' := by
  have sx := Sz_val x 1000 (by decide) hx.1 hx.2
  have sy := Sz_val y 1000 (by decide) hy.1 hy.2
  have cx := fun W => rcl_any x W (sz_big hx (by decide))
  have cy := fun W => rcl_any y W (sz_big hy (by decide))
  generalize valR x = A at sx cx ⊢
  generalize valR y = B at sy cy ⊢
  have m1 := fun W => rmul_any (cS A.num.natAbs) (cS B.num.natAbs) W (Nat.le_trans sx.1 (by decide)) (Nat.le_trans sy.1 (by decide))
  have m2 := fun W => rmul_any (cS A.den) (cS B.den) W (Nat.le_trans sx.2 (by decide)) (Nat.le_trans sy.2 (by decide))
  rw [nB_cS, nB_cS] at m1 m2
  have e1 : A.num * B.num = sg ((rt A).neg != (rt B).neg) (A.num.natAbs * B.num.natAbs) := by rw [sg_mul2, sg_rt, sg_rt]
  rw [Rat.mul_def', e1]
  exact mul5_raw x y (rt A) (rt B) _ _ _ _ _ _ _ _ w rfl cx cy (fun W => parts_any A W) (fun W => parts_any B W) m1 m2 (fun W => low_any _ _ _ W (Nat.le_trans (cS_mulS sx.1 sy.1) (by decide)) (Nat.le_trans (cS_mulS sx.2 sy.2) (by decide)) (Nat.mul_ne_zero A.den_nz B.den_nz))
end Go.Proofs.YtibfmcohodhkbaaGreatDoor
