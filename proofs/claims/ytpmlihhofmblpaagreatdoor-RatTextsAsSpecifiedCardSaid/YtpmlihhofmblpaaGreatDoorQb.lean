/- Neg and inRange. -/
import Derived.Test.YtpmlihhofmblpaaGreatDoorQa
namespace Go.Proofs.YtpmlihhofmblpaaGreatDoor
open Go.RowKit Hm Wm Wn

end Go.Proofs.YtpmlihhofmblpaaGreatDoor

/- Cmp. -/
namespace Go.Proofs.YtpmlihhofmblpaaGreatDoor
open Go.RowKit Hm Wm Wn

set_option maxRecDepth 100000 in
set_option maxHeartbeats 2000000 in
theorem Cmp_same (b : Bool) (x y : ByteArray) (w : World) : Calls Tryz.prog 20 #[.agg #[.bool b, .string x, .string y], .agg #[.bool b, .string x, .string y]] w fun e w' => e = .returned (.int .i64 0) ∧ Below w.heap.size w w' := by
  have HK := Lib.hid (two_vars w 26 26 (q3 b x y) (q3 b x y))
  have h7 := fun W => run_eqR b b x y x y W
  simp only [and_self, decide_true] at h7
  have H7 := Lib.hid h7
  clear h7
  go_enter Tryz.func20, Tryz.ntmps20
  go_wp2_with (first | (refine wpList_dst 7 rfl ?_; refine wpList_run 7 rfl rfl _ (exec_bin .eql 26 _ (.tmp 5) (.tmp 6) rfl _ _ _ rfl rfl (rat_guard _ _ _ _ _) (H7.out _)) ?_))
  go_ret
  exact ⟨rfl, HK.out.2.2⟩
set_option maxRecDepth 100000 in
set_option maxHeartbeats 2000000 in
theorem Cmp_other (b c : Bool) (x y z v : ByteArray) (f g : Rv) (k : Int) (w : World) (hne : ¬ (b = c ∧ x = z ∧ y = v)) (h9 : ∀ W, Calls Tryz.prog 26 #[.agg #[.bool b, .string x, .string y]] W fun e w' => e = .returned (rv f) ∧ Below W.heap.size W w') (h11 : ∀ W, Calls Tryz.prog 26 #[.agg #[.bool c, .string z, .string v]] W fun e w' => e = .returned (rv g) ∧ Below W.heap.size W w')
    (h12 : ∀ W, Calls Tryz.prog 49 #[rv f, rv g] W fun e w' => e = .returned (.int .i64 k) ∧ Below W.heap.size W w') :
    Calls Tryz.prog 20 #[.agg #[.bool b, .string x, .string y], .agg #[.bool c, .string z, .string v]] w fun e w' => e = .returned (.int .i64 k) ∧ Below w.heap.size w w' := by
  obtain ⟨W0, hW0⟩ : ∃ W, W = ((w.alloc (.cells (q3 b x y).toArray 26)).alloc (.cells (q3 c z v).toArray 26)) := ⟨_, rfl⟩
  have HK := two_vars w 26 26 (q3 b x y) (q3 c z v)
  rw [← hW0] at HK
  have HX := Lib.hid HK.1
  have HY := Lib.hid HK.2.1
  have HZ := Lib.hid HK.1
  have HW := Lib.hid HK.2.2
  have h7 := fun W => run_eqR b c x y z v W
  rw [decide_eq_false hne] at h7
  have H7 := Lib.hid h7
  have F9 := Lib.hid h9
  have F11 := Lib.hid h11
  have F12 := Lib.hid h12
  clear HK h7 h9 h11 h12 hne
  go_enter Tryz.func20, Tryz.ntmps20
  go_wp2_with (first | (refine wpList_dst 7 rfl ?_; refine wpList_run 7 rfl rfl _ (exec_bin .eql 26 _ (.tmp 5) (.tmp 6) rfl _ _ _ rfl rfl (rat_guard _ _ _ _ _) (H7.out _)) ?_))
  rw [← hW0]
  clear hW0
  refine late_begin (S := fun _ W => Blk W w.heap.size 26 (q3 b x y) ∧ Blk W (w.heap.size + 1) 26 (q3 c z v)) (by kernel_rfl) ?_
  have hX0 := HX.out.drew
  have hY0 := HY.out.drew
  have hZ0 := HZ.out.drew
  have hW0 := HW.out.drew
  generalize W0.drew = u0 at hX0 hY0 hZ0 hW0 ⊢
  clear HX HY HZ HW
  refine late_take [] (i := 0) (some 8) rfl rfl rfl (by kernel_rfl) (by kernel_rfl) (by kernel_rfl) (by kernel_rfl) (by kernel_rfl) (fun Ls W h => h) (.agg #[.bool b, .string x, .string y]) (fun _ _ _ h => h) (fun Ls W hl0 hW => exec_load 26 (.tmp 2) rfl _ _ rfl (run_load_part W 26 w.heap.size 0 3 26 (q3 b x y) _ hW.1 (by simp) Tryz.underlying26 rfl qr_size)) ⟨hX0, hY0⟩ ⟨hX0, hY0⟩ ?_
  go_frame
  refine late_take [] (i := 2) (some 10) rfl rfl rfl (by kernel_rfl) (by kernel_rfl) (by kernel_rfl) (by kernel_rfl) (by kernel_rfl) (fun Ls W h => h) (.agg #[.bool c, .string z, .string v]) (fun _ _ _ h => h) (fun Ls W hl0 hW => exec_load 26 (.tmp 3) rfl _ _ rfl (run_load_part W 26 (w.heap.size + 1) 0 3 26 (q3 c z v) _ hW.2 (by simp) Tryz.underlying26 rfl qr_size)) ⟨hX0, hY0⟩ ⟨hX0, hY0⟩ ?_
  go_frame
  refine late_one (i := 1) (by kernel_rfl) (op_call (some 9) rfl rfl rfl rfl Tryz.func26 (by kernel_rfl) (by kernel_rfl) #[.agg #[.bool b, .string x, .string y]] rfl (F9.out u0) ?_)
  rintro e u1 ⟨rfl, hb1⟩
  have hX1 := hX0.next hb1
  have hY1 := hY0.next hb1
  have hZ1 := hZ0.next hb1
  have hW1 := hW0.trans (hb1.mono hW0.size)
  refine ⟨_, rfl, ⟨hX1, hY1⟩, ?_⟩
  go_frame
  clear hX0 hY0 hZ0 hW0 hb1
  refine late_one (i := 3) (by kernel_rfl) (op_call (some 11) rfl rfl rfl rfl Tryz.func26 (by kernel_rfl) (by kernel_rfl) #[.agg #[.bool c, .string z, .string v]] rfl (F11.out u1) ?_)
  rintro e u2 ⟨rfl, hb2⟩
  have hX2 := hX1.next hb2
  have hY2 := hY1.next hb2
  have hZ2 := hZ1.next hb2
  have hW2 := hW1.trans (hb2.mono hW1.size)
  refine ⟨_, rfl, ⟨hX2, hY2⟩, ?_⟩
  go_frame
  clear hX1 hY1 hZ1 hW1 hb2
  refine late_one (i := 4) (by kernel_rfl) (op_call (some 12) rfl rfl rfl rfl Tryz.func49 (by kernel_rfl) (by kernel_rfl) #[rv f, rv g] rfl (F12.out u2) ?_)
  rintro e u3 ⟨rfl, hb3⟩
  have hX3 := hX2.next hb3
  have hY3 := hY2.next hb3
  have hZ3 := hZ2.next hb3
  have hW3 := hW2.trans (hb3.mono hW2.size)
  refine ⟨_, rfl, ⟨hX3, hY3⟩, ?_⟩
  go_frame
  clear hX2 hY2 hZ2 hW2 hb3
  refine late_one (i := 5) (by kernel_rfl) (op_value (some 4) rfl rfl rfl (.int .i64 k) (exec_assign (.tmp 12) rfl _ rfl) ⟨⟨hX3, hY3⟩, late_done (by kernel_rfl) ?_ _⟩)
  go_frame
  have HX := Lib.hid hX3
  have HY := Lib.hid hY3
  have HZ := Lib.hid hZ3
  have HW := Lib.hid hW3
  clear hX3 hY3 hZ3 hW3
  go_wp2
  go_ret
  exact ⟨rfl, HW.out⟩
theorem Sz_val (x : Rv) (k : Nat) (hk : 1 ≤ k) (sx : x.n.size ≤ k) (sy : x.d.size ≤ k) : Sz k (valR x) := by
  by_cases h : okQ x
  · obtain ⟨h1, h2⟩ := val_ok h
    unfold Sz
    rw [h1, h2, sg_abs, h.2.2.1, h.2.2.2.1]
    exact ⟨sx, sy⟩
  · rw [val_no h]
    unfold Sz
    rw [show (0 : Rat).num.natAbs = 0 from rfl, show (0 : Rat).den = 1 from rfl, c0, c1]
    exact ⟨Nat.zero_le _, hk⟩
theorem Cmp_any (x y : Rv) (w : World) (sx : x.n.size ≤ 10000) (tx : x.d.size ≤ 10000) (sy : y.n.size ≤ 10000) (ty : y.d.size ≤ 10000) : Calls Tryz.prog 20 #[rv x, rv y] w fun e w' => e = .returned (.int .i64 (cmpQ (valR x) (valR y))) ∧ Below w.heap.size w w' := by
  by_cases h : x = y
  · subst h
    rw [show cmpQ (valR x) (valR x) = 0 by unfold cmpQ; rw [if_neg Rat.lt_irrefl, if_pos rfl]]
    exact Cmp_same _ _ _ w
  · refine Cmp_other _ _ _ _ _ _ (fr (valR x)) (fr (valR y)) _ w (fun e => h ?_) (fun W => read_q x W sx tx) (fun W => read_q y W sy ty) (fun W => qcmp_any _ _ W (Sz_val x 10000 (by decide) sx tx) (Sz_val y 10000 (by decide) sy ty))
    cases x
    cases y
    simp only [Rv.mk.injEq]
    exact e
end Go.Proofs.YtpmlihhofmblpaaGreatDoor

/- pick, Min and Max. -/
namespace Go.Proofs.YtpmlihhofmblpaaGreatDoor
open Go.RowKit Hm Wm Wn

set_option maxRecDepth 100000 in
set_option maxHeartbeats 2000000 in
theorem pick_yes (o k : Int) (b c : Bool) (x y z v : ByteArray) (R : Rv) (w : World) (hk : (k == o) = true) (h9 : ∀ W, Calls Tryz.prog 49 #[.agg #[.bool b, .string x, .string y], .agg #[.bool c, .string z, .string v]] W fun e w' => e = .returned (.int .i64 k) ∧ Below W.heap.size W w')
    (h13 : ∀ W, Calls Tryz.prog 37 #[.agg #[.bool b, .string x, .string y]] W fun e w' => e = .returned (rv R) ∧ Below W.heap.size W w') :
    Calls Tryz.prog 50 #[.int .i64 o, .agg #[.bool b, .string x, .string y], .agg #[.bool c, .string z, .string v]] w fun e w' => e = .returned (rv R) ∧ Below w.heap.size w w' := by
  obtain ⟨W0, hW0, kx, ky, kz, kw⟩ := three_vars w 47 47 26 (q3 b x y) (q3 c z v) qZ
  subst hW0
  have HX := Lib.hid kx
  have HY := Lib.hid ky
  have HZ := Lib.hid kz
  have HW := Lib.hid kw
  have F9 := Lib.hid h9
  have F13 := Lib.hid h13
  clear kx ky kz kw h9 h13
  go_enter Tryz.func50, Tryz.ntmps50
  go_wp2_with fail
  refine (F9.out _).mono ?_
  rintro e w1 ⟨rfl, hb⟩
  replace HX := Lib.hid (HX.out.next hb)
  replace HY := Lib.hid (HY.out.next hb)
  replace HZ := Lib.hid (HZ.out.next hb)
  replace HW := Lib.hid (HW.out.trans (hb.mono HW.out.size))
  clear hb
  go_wp2_with (first | (refine wpList_load_all rfl 47 (.tmp 4) rfl w.heap.size _ (q3 b x y) _ rfl HX.out Tryz.underlying47 rfl qf_size ?_))
  refine (F13.out _).mono ?_
  rintro e w2 ⟨rfl, hb⟩
  replace HZ := Lib.hid (HZ.out.next hb)
  replace HW := Lib.hid (HW.out.trans (hb.mono HW.out.size))
  clear hb HX HY
  go_wp2_with (first | (refine wpList_store_all rfl 26 (.tmp 6) (.tmp 13) rfl (w.heap.size + 1 + 1) _ qZ (q3 R.neg R.n R.d) rfl rfl HZ.out rfl qr_size (q_one _ _ _) ?_; intro w9 HK9 ho9; have HO9 := Lib.hid ho9; clear ho9))
  exact bodyPost_ret (results_blk rfl _ _ (w.heap.size + 1 + 1) _ (q3 R.neg R.n R.d) _ rfl HK9.out Tryz.underlying26 rfl qr_size) rfl ⟨rfl, HW.out.trans (HO9.out.below (by omega))⟩
set_option maxRecDepth 100000 in
set_option maxHeartbeats 2000000 in
theorem pick_no (o k : Int) (b c : Bool) (x y z v : ByteArray) (R : Rv) (w : World) (hk : (k == o) = false) (h9 : ∀ W, Calls Tryz.prog 49 #[.agg #[.bool b, .string x, .string y], .agg #[.bool c, .string z, .string v]] W fun e w' => e = .returned (.int .i64 k) ∧ Below W.heap.size W w')
    (h13 : ∀ W, Calls Tryz.prog 37 #[.agg #[.bool c, .string z, .string v]] W fun e w' => e = .returned (rv R) ∧ Below W.heap.size W w') :
    Calls Tryz.prog 50 #[.int .i64 o, .agg #[.bool b, .string x, .string y], .agg #[.bool c, .string z, .string v]] w fun e w' => e = .returned (rv R) ∧ Below w.heap.size w w' := by
  obtain ⟨W0, hW0, kx, ky, kz, kw⟩ := three_vars w 47 47 26 (q3 b x y) (q3 c z v) qZ
  subst hW0
  have HX := Lib.hid kx
  have HY := Lib.hid ky
  have HZ := Lib.hid kz
  have HW := Lib.hid kw
  have F9 := Lib.hid h9
  have F13 := Lib.hid h13
  clear kx ky kz kw h9 h13
  go_enter Tryz.func50, Tryz.ntmps50
  go_wp2_with fail
  refine (F9.out _).mono ?_
  rintro e w1 ⟨rfl, hb⟩
  replace HX := Lib.hid (HX.out.next hb)
  replace HY := Lib.hid (HY.out.next hb)
  replace HZ := Lib.hid (HZ.out.next hb)
  replace HW := Lib.hid (HW.out.trans (hb.mono HW.out.size))
  clear hb
  go_wp2_with (first | (refine wpList_load_all rfl 47 (.tmp 5) rfl (w.heap.size + 1) _ (q3 c z v) _ rfl HY.out Tryz.underlying47 rfl qf_size ?_))
  refine (F13.out _).mono ?_
  rintro e w2 ⟨rfl, hb⟩
  replace HZ := Lib.hid (HZ.out.next hb)
  replace HW := Lib.hid (HW.out.trans (hb.mono HW.out.size))
  clear hb HX HY
  go_wp2_with (first | (refine wpList_store_all rfl 26 (.tmp 6) (.tmp 15) rfl (w.heap.size + 1 + 1) _ qZ (q3 R.neg R.n R.d) rfl rfl HZ.out rfl qr_size (q_one _ _ _) ?_; intro w9 HK9 ho9; have HO9 := Lib.hid ho9; clear ho9))
  exact bodyPost_ret (results_blk rfl _ _ (w.heap.size + 1 + 1) _ (q3 R.neg R.n R.d) _ rfl HK9.out Tryz.underlying26 rfl qr_size) rfl ⟨rfl, HW.out.trans (HO9.out.below (by omega))⟩
theorem pick_any (o : Int) (p q : Rat) (w : World) (hp : Sz 10000 p) (hq : Sz 10000 q) : Calls Tryz.prog 50 #[.int .i64 o, rv (fr p), rv (fr q)] w fun e w' => e = .returned (rv (rt (if cmpQ p q = o then p else q))) ∧ Below w.heap.size w w' := by
  by_cases h : cmpQ p q = o
  · rw [if_pos h]
    exact pick_yes o (cmpQ p q) _ _ _ _ _ _ _ w (by rw [h]; exact beq_self_eq_true _) (fun W => qcmp_any p q W hp hq) (fun W => qratv_any p W)
  · rw [if_neg h]
    exact pick_no o (cmpQ p q) _ _ _ _ _ _ _ w (beq_eq_false_iff_ne.2 h) (fun W => qcmp_any p q W hp hq) (fun W => qratv_any q W)
end Go.Proofs.YtpmlihhofmblpaaGreatDoor

/- Min, Max, Mul. -/
namespace Go.Proofs.YtpmlihhofmblpaaGreatDoor
open Go.RowKit Hm Wm Wn

set_option maxRecDepth 100000 in
set_option maxHeartbeats 2000000 in
theorem Min_raw (b c : Bool) (x y z v : ByteArray) (f g R : Rv) (w : World) (h6 : (∀ W, Calls Tryz.prog 26 #[.agg #[.bool b, .string x, .string y]] W fun e w' => e = .returned (rv f) ∧ Below W.heap.size W w')) (h8 : (∀ W, Calls Tryz.prog 26 #[.agg #[.bool c, .string z, .string v]] W fun e w' => e = .returned (rv g) ∧ Below W.heap.size W w')) (h9 : (∀ W, Calls Tryz.prog 50 #[.int .i64 (-1), rv f, rv g] W fun e w' => e = .returned (rv R) ∧ Below W.heap.size W w')) :
    Calls Tryz.prog 21 #[.agg #[.bool b, .string x, .string y], .agg #[.bool c, .string z, .string v]] w fun e w' => e = .returned (rv R) ∧ Below w.heap.size w w' := by
  obtain ⟨W0, hW0, kx, ky, kz, kw⟩ := three_vars w 26 26 26 (q3 b x y) (q3 c z v) qZ
  have HX := Lib.hid kx
  have HY := Lib.hid ky
  have HZ := Lib.hid kz
  have HW := Lib.hid kw
  have F6 := Lib.hid h6
  have F8 := Lib.hid h8
  have F9 := Lib.hid h9
  clear kx ky kz kw h6 h8 h9
  go_enter Tryz.func21, Tryz.ntmps21
  go_wp2_with fail
  rw [← hW0]
  clear hW0
  refine late_begin (S := fun _ W => Blk W w.heap.size 26 (q3 b x y) ∧ Blk W (w.heap.size + 1) 26 (q3 c z v)) (by kernel_rfl) ?_
  have hX0 := HX.out.drew
  have hY0 := HY.out.drew
  have hZ0 := HZ.out.drew
  have hW0 := HW.out.drew
  generalize W0.drew = u0 at hX0 hY0 hZ0 hW0 ⊢
  clear HX HY HZ HW
  refine late_take [] (i := 0) (some 5) rfl rfl rfl (by kernel_rfl) (by kernel_rfl) (by kernel_rfl) (by kernel_rfl) (by kernel_rfl) (fun Ls W h => h) (.agg #[.bool b, .string x, .string y]) (fun _ _ _ h => h) (fun Ls W hl0 hW => exec_load 26 (.tmp 2) rfl _ _ rfl (run_load_part W 26 w.heap.size 0 3 26 (q3 b x y) _ hW.1 (by simp) Tryz.underlying26 rfl qr_size)) ⟨hX0, hY0⟩ ⟨hX0, hY0⟩ ?_
  go_frame
  refine late_take [] (i := 2) (some 7) rfl rfl rfl (by kernel_rfl) (by kernel_rfl) (by kernel_rfl) (by kernel_rfl) (by kernel_rfl) (fun Ls W h => h) (.agg #[.bool c, .string z, .string v]) (fun _ _ _ h => h) (fun Ls W hl0 hW => exec_load 26 (.tmp 3) rfl _ _ rfl (run_load_part W 26 (w.heap.size + 1) 0 3 26 (q3 c z v) _ hW.2 (by simp) Tryz.underlying26 rfl qr_size)) ⟨hX0, hY0⟩ ⟨hX0, hY0⟩ ?_
  go_frame
  refine late_one (i := 1) (by kernel_rfl) (op_call (some 6) rfl rfl rfl rfl Tryz.func26 (by kernel_rfl) (by kernel_rfl) #[.agg #[.bool b, .string x, .string y]] rfl (F6.out u0) ?_)
  rintro e u1 ⟨rfl, hb1⟩
  have hX1 := hX0.next hb1
  have hY1 := hY0.next hb1
  have hZ1 := hZ0.next hb1
  have hW1 := hW0.trans (hb1.mono hW0.size)
  refine ⟨_, rfl, ⟨hX1, hY1⟩, ?_⟩
  go_frame
  clear hX0 hY0 hZ0 hW0 hb1
  refine late_one (i := 3) (by kernel_rfl) (op_call (some 8) rfl rfl rfl rfl Tryz.func26 (by kernel_rfl) (by kernel_rfl) #[.agg #[.bool c, .string z, .string v]] rfl (F8.out u1) ?_)
  rintro e u2 ⟨rfl, hb2⟩
  have hX2 := hX1.next hb2
  have hY2 := hY1.next hb2
  have hZ2 := hZ1.next hb2
  have hW2 := hW1.trans (hb2.mono hW1.size)
  refine ⟨_, rfl, ⟨hX2, hY2⟩, ?_⟩
  go_frame
  clear hX1 hY1 hZ1 hW1 hb2
  refine late_one (i := 4) (by kernel_rfl) (op_call (some 9) rfl rfl rfl rfl Tryz.func50 (by kernel_rfl) (by kernel_rfl) #[.int .i64 (-1), rv f, rv g] rfl (F9.out u2) ?_)
  rintro e u3 ⟨rfl, hb3⟩
  have hX3 := hX2.next hb3
  have hY3 := hY2.next hb3
  have hZ3 := hZ2.next hb3
  have hW3 := hW2.trans (hb3.mono hW2.size)
  refine ⟨_, rfl, ⟨hX3, hY3⟩, ?_⟩
  go_frame
  clear hX2 hY2 hZ2 hW2 hb3
  refine late_one (i := 5) (by kernel_rfl) (op_store_all rfl rfl rfl 26 (.tmp 4) (.tmp 9) rfl (w.heap.size + 1 + 1) _ qZ (q3 R.neg R.n R.d) rfl rfl hZ3 rfl qr_size (q_one _ _ _) ?_)
  intro w9 hk9 ho9
  refine ⟨⟨ho9.blk hX3 (by omega), ho9.blk hY3 (by omega)⟩, late_done (by kernel_rfl) ?_ _⟩
  go_frame
  have HK9 := Lib.hid hk9
  have HO9 := Lib.hid ho9
  have HW := Lib.hid hW3
  clear hX3 hY3 hZ3 hW3 hk9 ho9
  go_wp2_with fail
  exact bodyPost_ret (results_blk rfl _ _ (w.heap.size + 1 + 1) _ (q3 R.neg R.n R.d) _ rfl HK9.out Tryz.underlying26 rfl qr_size) rfl ⟨rfl, HW.out.trans (HO9.out.below (by omega))⟩
set_option maxRecDepth 100000 in
set_option maxHeartbeats 2000000 in
theorem Max_raw (b c : Bool) (x y z v : ByteArray) (f g R : Rv) (w : World) (h6 : (∀ W, Calls Tryz.prog 26 #[.agg #[.bool b, .string x, .string y]] W fun e w' => e = .returned (rv f) ∧ Below W.heap.size W w')) (h8 : (∀ W, Calls Tryz.prog 26 #[.agg #[.bool c, .string z, .string v]] W fun e w' => e = .returned (rv g) ∧ Below W.heap.size W w')) (h9 : (∀ W, Calls Tryz.prog 50 #[.int .i64 1, rv f, rv g] W fun e w' => e = .returned (rv R) ∧ Below W.heap.size W w')) :
    Calls Tryz.prog 22 #[.agg #[.bool b, .string x, .string y], .agg #[.bool c, .string z, .string v]] w fun e w' => e = .returned (rv R) ∧ Below w.heap.size w w' := by
  obtain ⟨W0, hW0, kx, ky, kz, kw⟩ := three_vars w 26 26 26 (q3 b x y) (q3 c z v) qZ
  have HX := Lib.hid kx
  have HY := Lib.hid ky
  have HZ := Lib.hid kz
  have HW := Lib.hid kw
  have F6 := Lib.hid h6
  have F8 := Lib.hid h8
  have F9 := Lib.hid h9
  clear kx ky kz kw h6 h8 h9
  go_enter Tryz.func22, Tryz.ntmps22
  go_wp2_with fail
  rw [← hW0]
  clear hW0
  refine late_begin (S := fun _ W => Blk W w.heap.size 26 (q3 b x y) ∧ Blk W (w.heap.size + 1) 26 (q3 c z v)) (by kernel_rfl) ?_
  have hX0 := HX.out.drew
  have hY0 := HY.out.drew
  have hZ0 := HZ.out.drew
  have hW0 := HW.out.drew
  generalize W0.drew = u0 at hX0 hY0 hZ0 hW0 ⊢
  clear HX HY HZ HW
  refine late_take [] (i := 0) (some 5) rfl rfl rfl (by kernel_rfl) (by kernel_rfl) (by kernel_rfl) (by kernel_rfl) (by kernel_rfl) (fun Ls W h => h) (.agg #[.bool b, .string x, .string y]) (fun _ _ _ h => h) (fun Ls W hl0 hW => exec_load 26 (.tmp 2) rfl _ _ rfl (run_load_part W 26 w.heap.size 0 3 26 (q3 b x y) _ hW.1 (by simp) Tryz.underlying26 rfl qr_size)) ⟨hX0, hY0⟩ ⟨hX0, hY0⟩ ?_
  go_frame
  refine late_take [] (i := 2) (some 7) rfl rfl rfl (by kernel_rfl) (by kernel_rfl) (by kernel_rfl) (by kernel_rfl) (by kernel_rfl) (fun Ls W h => h) (.agg #[.bool c, .string z, .string v]) (fun _ _ _ h => h) (fun Ls W hl0 hW => exec_load 26 (.tmp 3) rfl _ _ rfl (run_load_part W 26 (w.heap.size + 1) 0 3 26 (q3 c z v) _ hW.2 (by simp) Tryz.underlying26 rfl qr_size)) ⟨hX0, hY0⟩ ⟨hX0, hY0⟩ ?_
  go_frame
  refine late_one (i := 1) (by kernel_rfl) (op_call (some 6) rfl rfl rfl rfl Tryz.func26 (by kernel_rfl) (by kernel_rfl) #[.agg #[.bool b, .string x, .string y]] rfl (F6.out u0) ?_)
  rintro e u1 ⟨rfl, hb1⟩
  have hX1 := hX0.next hb1
  have hY1 := hY0.next hb1
  have hZ1 := hZ0.next hb1
  have hW1 := hW0.trans (hb1.mono hW0.size)
  refine ⟨_, rfl, ⟨hX1, hY1⟩, ?_⟩
  go_frame
  clear hX0 hY0 hZ0 hW0 hb1
  refine late_one (i := 3) (by kernel_rfl) (op_call (some 8) rfl rfl rfl rfl Tryz.func26 (by kernel_rfl) (by kernel_rfl) #[.agg #[.bool c, .string z, .string v]] rfl (F8.out u1) ?_)
  rintro e u2 ⟨rfl, hb2⟩
  have hX2 := hX1.next hb2
  have hY2 := hY1.next hb2
  have hZ2 := hZ1.next hb2
  have hW2 := hW1.trans (hb2.mono hW1.size)
  refine ⟨_, rfl, ⟨hX2, hY2⟩, ?_⟩
  go_frame
  clear hX1 hY1 hZ1 hW1 hb2
  refine late_one (i := 4) (by kernel_rfl) (op_call (some 9) rfl rfl rfl rfl Tryz.func50 (by kernel_rfl) (by kernel_rfl) #[.int .i64 1, rv f, rv g] rfl (F9.out u2) ?_)
  rintro e u3 ⟨rfl, hb3⟩
  have hX3 := hX2.next hb3
  have hY3 := hY2.next hb3
  have hZ3 := hZ2.next hb3
  have hW3 := hW2.trans (hb3.mono hW2.size)
  refine ⟨_, rfl, ⟨hX3, hY3⟩, ?_⟩
  go_frame
  clear hX2 hY2 hZ2 hW2 hb3
  refine late_one (i := 5) (by kernel_rfl) (op_store_all rfl rfl rfl 26 (.tmp 4) (.tmp 9) rfl (w.heap.size + 1 + 1) _ qZ (q3 R.neg R.n R.d) rfl rfl hZ3 rfl qr_size (q_one _ _ _) ?_)
  intro w9 hk9 ho9
  refine ⟨⟨ho9.blk hX3 (by omega), ho9.blk hY3 (by omega)⟩, late_done (by kernel_rfl) ?_ _⟩
  go_frame
  have HK9 := Lib.hid hk9
  have HO9 := Lib.hid ho9
  have HW := Lib.hid hW3
  clear hX3 hY3 hZ3 hW3 hk9 ho9
  go_wp2_with fail
  exact bodyPost_ret (results_blk rfl _ _ (w.heap.size + 1 + 1) _ (q3 R.neg R.n R.d) _ rfl HK9.out Tryz.underlying26 rfl qr_size) rfl ⟨rfl, HW.out.trans (HO9.out.below (by omega))⟩
theorem Min_any (x y : Rv) (w : World) (sx : x.n.size ≤ 10000) (tx : x.d.size ≤ 10000) (sy : y.n.size ≤ 10000) (ty : y.d.size ≤ 10000) : Calls Tryz.prog 21 #[rv x, rv y] w fun e w' => e = .returned (rv (rt (if cmpQ (valR x) (valR y) = -1 then valR x else valR y))) ∧ Below w.heap.size w w' :=
  Min_raw _ _ _ _ _ _ _ _ _ w (fun W => read_q x W sx tx) (fun W => read_q y W sy ty) (fun W => pick_any (-1) _ _ W (Sz_val x 10000 (by decide) sx tx) (Sz_val y 10000 (by decide) sy ty))
theorem Max_any (x y : Rv) (w : World) (sx : x.n.size ≤ 10000) (tx : x.d.size ≤ 10000) (sy : y.n.size ≤ 10000) (ty : y.d.size ≤ 10000) : Calls Tryz.prog 22 #[rv x, rv y] w fun e w' => e = .returned (rv (rt (if cmpQ (valR x) (valR y) = 1 then valR x else valR y))) ∧ Below w.heap.size w w' :=
  Max_raw _ _ _ _ _ _ _ _ _ w (fun W => read_q x W sx tx) (fun W => read_q y W sy ty) (fun W => pick_any 1 _ _ W (Sz_val x 10000 (by decide) sx tx) (Sz_val y 10000 (by decide) sy ty))
end Go.Proofs.YtpmlihhofmblpaaGreatDoor

/- floor. -/
namespace Go.Proofs.YtpmlihhofmblpaaGreatDoor
open Go.RowKit Hm Wm Wn

set_option maxRecDepth 100000 in
theorem inRange_any (n : Int) (w : World) : Calls Tryz.prog 43 #[.int .i64 n] w fun e w' => e = .returned (.bool (decide (-999999999999999 ≤ n ∧ n ≤ 999999999999999))) ∧ Below w.heap.size w w' := by
  by_cases h1 : -999999999999999 ≤ n
  · have c1 : decide ((-999999999999999 : Int) ≤ n) = true := decide_eq_true h1
    by_cases h2 : n ≤ 999999999999999
    · have c2 : decide (n ≤ (999999999999999 : Int)) = true := decide_eq_true h2
      rw [decide_eq_true (p := -999999999999999 ≤ n ∧ n ≤ 999999999999999) ⟨h1, h2⟩]
      go_enter Tryz.func43, Tryz.ntmps43
      go_wp2
      go_ret
      exact ⟨rfl, Below.refl _ _⟩
    · have c2 : decide (n ≤ (999999999999999 : Int)) = false := decide_eq_false h2
      rw [decide_eq_false (p := -999999999999999 ≤ n ∧ n ≤ 999999999999999) (fun h => h2 h.2)]
      go_enter Tryz.func43, Tryz.ntmps43
      go_wp2
      go_ret
      exact ⟨rfl, Below.refl _ _⟩
  · have c1 : decide ((-999999999999999 : Int) ≤ n) = false := decide_eq_false h1
    rw [decide_eq_false (p := -999999999999999 ≤ n ∧ n ≤ 999999999999999) (fun h => h1 h.1)]
    go_enter Tryz.func43, Tryz.ntmps43
    go_wp2
    go_ret
    exact ⟨rfl, Below.refl _ _⟩
theorem exec_negZ {oi : Oper} {a : Act} {w : World} (x : Operand) (ho : oi.op = .unOp .neg 3 x) (n : Int) (hb : -9000000000000000000 ≤ n ∧ n ≤ 9000000000000000000) (hx : a.eval x = .int .i64 n) : (execOp a.eval oi).run Tryz.prog w = .ok (.value (.int .i64 (-n))) w := by
  have e : IntKind.i64.wrap (-n) = -n := by simp [IntKind.wrap, IntKind.bits, IntKind.signed]; omega
  unfold execOp
  simp only [ho, hx]
  simp [go_sem, e]
set_option maxRecDepth 100000 in
set_option maxHeartbeats 1000000 in
theorem floor_p_big (x y wh rs : ByteArray) (n : Int) (w : World) (h14 : (∀ W, Calls Tryz.prog 79 #[.string x, .string y] W fun e w' => e = .returned (.tuple #[.string wh, .string rs, .int .i64 0]) ∧ Below W.heap.size W w')) (h28 : (∀ W, Calls Tryz.prog 81 #[.string wh] W fun e w' => e = .returned (.tuple #[.int .i64 n, .int .i64 3]) ∧ Below W.heap.size W w')) :
    Calls Tryz.prog 47 #[.agg #[.bool false, .string x, .string y]] w fun e w' => e = .returned (.tuple #[.int .i64 0, .int .i64 3]) ∧ Below w.heap.size w w' := by
  have HX := Lib.hid (Blk.new w 47 (q3 false x y))
  have HW := Lib.hid ((Below.refl w.heap.size w).alloc (Nat.le_refl _) (.cells (q3 false x y).toArray 47))
  have F14 := Lib.hid h14
  have F28 := Lib.hid h28
  clear h14 h28
  go_enter Tryz.func47, Tryz.ntmps47
  go_wp2_with fail
  refine (F14.out _).mono ?_
  rintro e w1 ⟨rfl, hb⟩
  replace HX := Lib.hid (HX.out.next hb)
  replace HW := Lib.hid (HW.out.trans (hb.mono HW.out.size))
  clear hb
  go_wp2_with (first | (refine wpList_dst 18 rfl ?_; refine wpList_run 18 rfl rfl _ (exec_fieldAddr 47 (.tmp 1) 0 rfl _ _ rfl (qf_f0 _ _)) ?_; go_frame) | (refine wpList_dst 19 rfl ?_; refine wpList_run 19 rfl rfl _ (exec_loadQ 4 qbool_flat (.tmp 18) rfl (.bool false) rfl (HX.out.cell 0)) ?_; go_frame))
  refine (F28.out _).mono ?_
  rintro e w3 ⟨rfl, hb⟩
  replace HX := Lib.hid (HX.out.next hb)
  replace HW := Lib.hid (HW.out.trans (hb.mono HW.out.size))
  clear hb
  go_wp2
  go_ret2
  exact ⟨rfl, HW.out⟩
set_option maxRecDepth 100000 in
set_option maxHeartbeats 1000000 in
theorem floor_p_far (x y wh rs : ByteArray) (n : Int) (w : World) (h14 : (∀ W, Calls Tryz.prog 79 #[.string x, .string y] W fun e w' => e = .returned (.tuple #[.string wh, .string rs, .int .i64 0]) ∧ Below W.heap.size W w')) (h28 : (∀ W, Calls Tryz.prog 81 #[.string wh] W fun e w' => e = .returned (.tuple #[.int .i64 n, .int .i64 0]) ∧ Below W.heap.size W w')) (h35 : (∀ W, Calls Tryz.prog 43 #[.int .i64 n] W fun e w' => e = .returned (.bool false) ∧ Below W.heap.size W w')) :
    Calls Tryz.prog 47 #[.agg #[.bool false, .string x, .string y]] w fun e w' => e = .returned (.tuple #[.int .i64 0, .int .i64 3]) ∧ Below w.heap.size w w' := by
  have HX := Lib.hid (Blk.new w 47 (q3 false x y))
  have HW := Lib.hid ((Below.refl w.heap.size w).alloc (Nat.le_refl _) (.cells (q3 false x y).toArray 47))
  have F14 := Lib.hid h14
  have F28 := Lib.hid h28
  have F35 := Lib.hid h35
  clear h14 h28 h35
  go_enter Tryz.func47, Tryz.ntmps47
  go_wp2_with fail
  refine (F14.out _).mono ?_
  rintro e w1 ⟨rfl, hb⟩
  replace HX := Lib.hid (HX.out.next hb)
  replace HW := Lib.hid (HW.out.trans (hb.mono HW.out.size))
  clear hb
  go_wp2_with (first | (refine wpList_dst 18 rfl ?_; refine wpList_run 18 rfl rfl _ (exec_fieldAddr 47 (.tmp 1) 0 rfl _ _ rfl (qf_f0 _ _)) ?_; go_frame) | (refine wpList_dst 19 rfl ?_; refine wpList_run 19 rfl rfl _ (exec_loadQ 4 qbool_flat (.tmp 18) rfl (.bool false) rfl (HX.out.cell 0)) ?_; go_frame))
  refine (F28.out _).mono ?_
  rintro e w3 ⟨rfl, hb⟩
  replace HX := Lib.hid (HX.out.next hb)
  replace HW := Lib.hid (HW.out.trans (hb.mono HW.out.size))
  clear hb
  go_wp2_with fail
  refine (F35.out _).mono ?_
  rintro e w4 ⟨rfl, hb⟩
  replace HX := Lib.hid (HX.out.next hb)
  replace HW := Lib.hid (HW.out.trans (hb.mono HW.out.size))
  clear hb
  go_wp2
  go_ret2
  exact ⟨rfl, HW.out⟩
set_option maxRecDepth 100000 in
set_option maxHeartbeats 1000000 in
theorem floor_p_ok (x y wh rs : ByteArray) (n : Int) (w : World) (h14 : (∀ W, Calls Tryz.prog 79 #[.string x, .string y] W fun e w' => e = .returned (.tuple #[.string wh, .string rs, .int .i64 0]) ∧ Below W.heap.size W w')) (h28 : (∀ W, Calls Tryz.prog 81 #[.string wh] W fun e w' => e = .returned (.tuple #[.int .i64 n, .int .i64 0]) ∧ Below W.heap.size W w')) (h35 : (∀ W, Calls Tryz.prog 43 #[.int .i64 n] W fun e w' => e = .returned (.bool true) ∧ Below W.heap.size W w')) :
    Calls Tryz.prog 47 #[.agg #[.bool false, .string x, .string y]] w fun e w' => e = .returned (.tuple #[.int .i64 n, .int .i64 0]) ∧ Below w.heap.size w w' := by
  have HX := Lib.hid (Blk.new w 47 (q3 false x y))
  have HW := Lib.hid ((Below.refl w.heap.size w).alloc (Nat.le_refl _) (.cells (q3 false x y).toArray 47))
  have F14 := Lib.hid h14
  have F28 := Lib.hid h28
  have F35 := Lib.hid h35
  clear h14 h28 h35
  go_enter Tryz.func47, Tryz.ntmps47
  go_wp2_with fail
  refine (F14.out _).mono ?_
  rintro e w1 ⟨rfl, hb⟩
  replace HX := Lib.hid (HX.out.next hb)
  replace HW := Lib.hid (HW.out.trans (hb.mono HW.out.size))
  clear hb
  go_wp2_with (first | (refine wpList_dst 18 rfl ?_; refine wpList_run 18 rfl rfl _ (exec_fieldAddr 47 (.tmp 1) 0 rfl _ _ rfl (qf_f0 _ _)) ?_; go_frame) | (refine wpList_dst 19 rfl ?_; refine wpList_run 19 rfl rfl _ (exec_loadQ 4 qbool_flat (.tmp 18) rfl (.bool false) rfl (HX.out.cell 0)) ?_; go_frame))
  refine (F28.out _).mono ?_
  rintro e w3 ⟨rfl, hb⟩
  replace HX := Lib.hid (HX.out.next hb)
  replace HW := Lib.hid (HW.out.trans (hb.mono HW.out.size))
  clear hb
  go_wp2_with fail
  refine (F35.out _).mono ?_
  rintro e w4 ⟨rfl, hb⟩
  replace HX := Lib.hid (HX.out.next hb)
  replace HW := Lib.hid (HW.out.trans (hb.mono HW.out.size))
  clear hb
  go_wp2_with (first | (refine wpList_dst 38 rfl ?_; refine wpList_run 38 rfl rfl _ (exec_fieldAddr 47 (.tmp 1) 0 rfl _ _ rfl (qf_f0 _ _)) ?_; go_frame) | (refine wpList_dst 39 rfl ?_; refine wpList_run 39 rfl rfl _ (exec_loadQ 4 qbool_flat (.tmp 38) rfl (.bool false) rfl (HX.out.cell 0)) ?_; go_frame))
  go_ret2
  exact ⟨rfl, HW.out⟩
set_option maxRecDepth 100000 in
set_option maxHeartbeats 1000000 in
theorem floor_n_big (x y wh rs : ByteArray) (n : Int) (w : World) (hr : decide (rs ≠ ⟨#[]⟩) = false) (h14 : (∀ W, Calls Tryz.prog 79 #[.string x, .string y] W fun e w' => e = .returned (.tuple #[.string wh, .string rs, .int .i64 0]) ∧ Below W.heap.size W w')) (h28 : (∀ W, Calls Tryz.prog 81 #[.string wh] W fun e w' => e = .returned (.tuple #[.int .i64 n, .int .i64 3]) ∧ Below W.heap.size W w')) :
    Calls Tryz.prog 47 #[.agg #[.bool true, .string x, .string y]] w fun e w' => e = .returned (.tuple #[.int .i64 0, .int .i64 3]) ∧ Below w.heap.size w w' := by
  have HX := Lib.hid (Blk.new w 47 (q3 true x y))
  have HW := Lib.hid ((Below.refl w.heap.size w).alloc (Nat.le_refl _) (.cells (q3 true x y).toArray 47))
  have F14 := Lib.hid h14
  have F28 := Lib.hid h28
  have H22 := Lib.hid (fun W => run_neqQ rs ⟨#[]⟩ false hr W)
  clear h14 h28 hr
  go_enter Tryz.func47, Tryz.ntmps47
  go_wp2_with fail
  refine (F14.out _).mono ?_
  rintro e w1 ⟨rfl, hb⟩
  replace HX := Lib.hid (HX.out.next hb)
  replace HW := Lib.hid (HW.out.trans (hb.mono HW.out.size))
  clear hb
  go_wp2_with (first | (refine wpList_dst 18 rfl ?_; refine wpList_run 18 rfl rfl _ (exec_fieldAddr 47 (.tmp 1) 0 rfl _ _ rfl (qf_f0 _ _)) ?_; go_frame) | (refine wpList_dst 19 rfl ?_; refine wpList_run 19 rfl rfl _ (exec_loadQ 4 qbool_flat (.tmp 18) rfl (.bool true) rfl (HX.out.cell 0)) ?_; go_frame) | (refine wpList_dst 22 rfl ?_; refine wpList_runG 22 rfl rfl _ (exec_bin .neq 9 _ (.tmp 21) (.const (.string ⟨#[]⟩)) rfl _ _ _ rfl rfl rfl (H22.out _)) ?_))
  refine (F28.out _).mono ?_
  rintro e w3 ⟨rfl, hb⟩
  replace HX := Lib.hid (HX.out.next hb)
  replace HW := Lib.hid (HW.out.trans (hb.mono HW.out.size))
  clear hb
  go_wp2
  go_ret2
  exact ⟨rfl, HW.out⟩
set_option maxRecDepth 100000 in
set_option maxHeartbeats 1000000 in
theorem floor_n_far (x y wh rs : ByteArray) (n : Int) (w : World) (hr : decide (rs ≠ ⟨#[]⟩) = false) (h14 : (∀ W, Calls Tryz.prog 79 #[.string x, .string y] W fun e w' => e = .returned (.tuple #[.string wh, .string rs, .int .i64 0]) ∧ Below W.heap.size W w')) (h28 : (∀ W, Calls Tryz.prog 81 #[.string wh] W fun e w' => e = .returned (.tuple #[.int .i64 n, .int .i64 0]) ∧ Below W.heap.size W w')) (h35 : (∀ W, Calls Tryz.prog 43 #[.int .i64 n] W fun e w' => e = .returned (.bool false) ∧ Below W.heap.size W w')) :
    Calls Tryz.prog 47 #[.agg #[.bool true, .string x, .string y]] w fun e w' => e = .returned (.tuple #[.int .i64 0, .int .i64 3]) ∧ Below w.heap.size w w' := by
  have HX := Lib.hid (Blk.new w 47 (q3 true x y))
  have HW := Lib.hid ((Below.refl w.heap.size w).alloc (Nat.le_refl _) (.cells (q3 true x y).toArray 47))
  have F14 := Lib.hid h14
  have F28 := Lib.hid h28
  have F35 := Lib.hid h35
  have H22 := Lib.hid (fun W => run_neqQ rs ⟨#[]⟩ false hr W)
  clear h14 h28 h35 hr
  go_enter Tryz.func47, Tryz.ntmps47
  go_wp2_with fail
  refine (F14.out _).mono ?_
  rintro e w1 ⟨rfl, hb⟩
  replace HX := Lib.hid (HX.out.next hb)
  replace HW := Lib.hid (HW.out.trans (hb.mono HW.out.size))
  clear hb
  go_wp2_with (first | (refine wpList_dst 18 rfl ?_; refine wpList_run 18 rfl rfl _ (exec_fieldAddr 47 (.tmp 1) 0 rfl _ _ rfl (qf_f0 _ _)) ?_; go_frame) | (refine wpList_dst 19 rfl ?_; refine wpList_run 19 rfl rfl _ (exec_loadQ 4 qbool_flat (.tmp 18) rfl (.bool true) rfl (HX.out.cell 0)) ?_; go_frame) | (refine wpList_dst 22 rfl ?_; refine wpList_runG 22 rfl rfl _ (exec_bin .neq 9 _ (.tmp 21) (.const (.string ⟨#[]⟩)) rfl _ _ _ rfl rfl rfl (H22.out _)) ?_))
  refine (F28.out _).mono ?_
  rintro e w3 ⟨rfl, hb⟩
  replace HX := Lib.hid (HX.out.next hb)
  replace HW := Lib.hid (HW.out.trans (hb.mono HW.out.size))
  clear hb
  go_wp2_with fail
  refine (F35.out _).mono ?_
  rintro e w4 ⟨rfl, hb⟩
  replace HX := Lib.hid (HX.out.next hb)
  replace HW := Lib.hid (HW.out.trans (hb.mono HW.out.size))
  clear hb
  go_wp2
  go_ret2
  exact ⟨rfl, HW.out⟩
set_option maxRecDepth 100000 in
set_option maxHeartbeats 1000000 in
theorem floor_n_ok (x y wh rs : ByteArray) (n : Int) (w : World) (hr : decide (rs ≠ ⟨#[]⟩) = false) (hn : -9000000000000000000 ≤ n ∧ n ≤ 9000000000000000000) (h14 : (∀ W, Calls Tryz.prog 79 #[.string x, .string y] W fun e w' => e = .returned (.tuple #[.string wh, .string rs, .int .i64 0]) ∧ Below W.heap.size W w')) (h28 : (∀ W, Calls Tryz.prog 81 #[.string wh] W fun e w' => e = .returned (.tuple #[.int .i64 n, .int .i64 0]) ∧ Below W.heap.size W w')) (h35 : (∀ W, Calls Tryz.prog 43 #[.int .i64 n] W fun e w' => e = .returned (.bool true) ∧ Below W.heap.size W w')) :
    Calls Tryz.prog 47 #[.agg #[.bool true, .string x, .string y]] w fun e w' => e = .returned (.tuple #[.int .i64 (-n), .int .i64 0]) ∧ Below w.heap.size w w' := by
  have HX := Lib.hid (Blk.new w 47 (q3 true x y))
  have HW := Lib.hid ((Below.refl w.heap.size w).alloc (Nat.le_refl _) (.cells (q3 true x y).toArray 47))
  have F14 := Lib.hid h14
  have F28 := Lib.hid h28
  have F35 := Lib.hid h35
  have H22 := Lib.hid (fun W => run_neqQ rs ⟨#[]⟩ false hr W)
  have HN := Lib.hid hn
  clear h14 h28 h35 hr hn
  go_enter Tryz.func47, Tryz.ntmps47
  go_wp2_with fail
  refine (F14.out _).mono ?_
  rintro e w1 ⟨rfl, hb⟩
  replace HX := Lib.hid (HX.out.next hb)
  replace HW := Lib.hid (HW.out.trans (hb.mono HW.out.size))
  clear hb
  go_wp2_with (first | (refine wpList_dst 18 rfl ?_; refine wpList_run 18 rfl rfl _ (exec_fieldAddr 47 (.tmp 1) 0 rfl _ _ rfl (qf_f0 _ _)) ?_; go_frame) | (refine wpList_dst 19 rfl ?_; refine wpList_run 19 rfl rfl _ (exec_loadQ 4 qbool_flat (.tmp 18) rfl (.bool true) rfl (HX.out.cell 0)) ?_; go_frame) | (refine wpList_dst 22 rfl ?_; refine wpList_runG 22 rfl rfl _ (exec_bin .neq 9 _ (.tmp 21) (.const (.string ⟨#[]⟩)) rfl _ _ _ rfl rfl rfl (H22.out _)) ?_))
  refine (F28.out _).mono ?_
  rintro e w3 ⟨rfl, hb⟩
  replace HX := Lib.hid (HX.out.next hb)
  replace HW := Lib.hid (HW.out.trans (hb.mono HW.out.size))
  clear hb
  go_wp2_with fail
  refine (F35.out _).mono ?_
  rintro e w4 ⟨rfl, hb⟩
  replace HX := Lib.hid (HX.out.next hb)
  replace HW := Lib.hid (HW.out.trans (hb.mono HW.out.size))
  clear hb
  go_wp2_with (first | (refine wpList_dst 38 rfl ?_; refine wpList_run 38 rfl rfl _ (exec_fieldAddr 47 (.tmp 1) 0 rfl _ _ rfl (qf_f0 _ _)) ?_; go_frame) | (refine wpList_dst 39 rfl ?_; refine wpList_run 39 rfl rfl _ (exec_loadQ 4 qbool_flat (.tmp 38) rfl (.bool true) rfl (HX.out.cell 0)) ?_; go_frame) | (refine wpList_dst 41 rfl ?_; refine wpList_run 41 rfl rfl _ (exec_negZ (.tmp 40) rfl n HN.out rfl) ?_))
  go_ret2
  exact ⟨rfl, HW.out⟩
set_option maxRecDepth 100000 in
set_option maxHeartbeats 1000000 in
theorem floor_nr_big (x y wh rs wh2 : ByteArray) (n : Int) (w : World) (hr : decide (rs ≠ ⟨#[]⟩) = true) (h14 : (∀ W, Calls Tryz.prog 79 #[.string x, .string y] W fun e w' => e = .returned (.tuple #[.string wh, .string rs, .int .i64 0]) ∧ Below W.heap.size W w')) (h25 : (∀ W, Calls Tryz.prog 80 #[.string wh, .string ⟨#[1]⟩] W fun e w' => e = .returned (.string wh2) ∧ Below W.heap.size W w')) (h28 : (∀ W, Calls Tryz.prog 81 #[.string wh2] W fun e w' => e = .returned (.tuple #[.int .i64 n, .int .i64 3]) ∧ Below W.heap.size W w')) :
    Calls Tryz.prog 47 #[.agg #[.bool true, .string x, .string y]] w fun e w' => e = .returned (.tuple #[.int .i64 0, .int .i64 3]) ∧ Below w.heap.size w w' := by
  have HX := Lib.hid (Blk.new w 47 (q3 true x y))
  have HW := Lib.hid ((Below.refl w.heap.size w).alloc (Nat.le_refl _) (.cells (q3 true x y).toArray 47))
  have F14 := Lib.hid h14
  have F25 := Lib.hid h25
  have F28 := Lib.hid h28
  have H22 := Lib.hid (fun W => run_neqQ rs ⟨#[]⟩ true hr W)
  clear h14 h25 h28 hr
  go_enter Tryz.func47, Tryz.ntmps47
  go_wp2_with fail
  refine (F14.out _).mono ?_
  rintro e w1 ⟨rfl, hb⟩
  replace HX := Lib.hid (HX.out.next hb)
  replace HW := Lib.hid (HW.out.trans (hb.mono HW.out.size))
  clear hb
  go_wp2_with (first | (refine wpList_dst 18 rfl ?_; refine wpList_run 18 rfl rfl _ (exec_fieldAddr 47 (.tmp 1) 0 rfl _ _ rfl (qf_f0 _ _)) ?_; go_frame) | (refine wpList_dst 19 rfl ?_; refine wpList_run 19 rfl rfl _ (exec_loadQ 4 qbool_flat (.tmp 18) rfl (.bool true) rfl (HX.out.cell 0)) ?_; go_frame) | (refine wpList_dst 22 rfl ?_; refine wpList_runG 22 rfl rfl _ (exec_bin .neq 9 _ (.tmp 21) (.const (.string ⟨#[]⟩)) rfl _ _ _ rfl rfl rfl (H22.out _)) ?_))
  refine (F25.out _).mono ?_
  rintro e w2 ⟨rfl, hb⟩
  replace HX := Lib.hid (HX.out.next hb)
  replace HW := Lib.hid (HW.out.trans (hb.mono HW.out.size))
  clear hb
  go_wp2_with fail
  refine (F28.out _).mono ?_
  rintro e w3 ⟨rfl, hb⟩
  replace HX := Lib.hid (HX.out.next hb)
  replace HW := Lib.hid (HW.out.trans (hb.mono HW.out.size))
  clear hb
  go_wp2
  go_ret2
  exact ⟨rfl, HW.out⟩
set_option maxRecDepth 100000 in
set_option maxHeartbeats 1000000 in
theorem floor_nr_far (x y wh rs wh2 : ByteArray) (n : Int) (w : World) (hr : decide (rs ≠ ⟨#[]⟩) = true) (h14 : (∀ W, Calls Tryz.prog 79 #[.string x, .string y] W fun e w' => e = .returned (.tuple #[.string wh, .string rs, .int .i64 0]) ∧ Below W.heap.size W w')) (h25 : (∀ W, Calls Tryz.prog 80 #[.string wh, .string ⟨#[1]⟩] W fun e w' => e = .returned (.string wh2) ∧ Below W.heap.size W w')) (h28 : (∀ W, Calls Tryz.prog 81 #[.string wh2] W fun e w' => e = .returned (.tuple #[.int .i64 n, .int .i64 0]) ∧ Below W.heap.size W w')) (h35 : (∀ W, Calls Tryz.prog 43 #[.int .i64 n] W fun e w' => e = .returned (.bool false) ∧ Below W.heap.size W w')) :
    Calls Tryz.prog 47 #[.agg #[.bool true, .string x, .string y]] w fun e w' => e = .returned (.tuple #[.int .i64 0, .int .i64 3]) ∧ Below w.heap.size w w' := by
  have HX := Lib.hid (Blk.new w 47 (q3 true x y))
  have HW := Lib.hid ((Below.refl w.heap.size w).alloc (Nat.le_refl _) (.cells (q3 true x y).toArray 47))
  have F14 := Lib.hid h14
  have F25 := Lib.hid h25
  have F28 := Lib.hid h28
  have F35 := Lib.hid h35
  have H22 := Lib.hid (fun W => run_neqQ rs ⟨#[]⟩ true hr W)
  clear h14 h25 h28 h35 hr
  go_enter Tryz.func47, Tryz.ntmps47
  go_wp2_with fail
  refine (F14.out _).mono ?_
  rintro e w1 ⟨rfl, hb⟩
  replace HX := Lib.hid (HX.out.next hb)
  replace HW := Lib.hid (HW.out.trans (hb.mono HW.out.size))
  clear hb
  go_wp2_with (first | (refine wpList_dst 18 rfl ?_; refine wpList_run 18 rfl rfl _ (exec_fieldAddr 47 (.tmp 1) 0 rfl _ _ rfl (qf_f0 _ _)) ?_; go_frame) | (refine wpList_dst 19 rfl ?_; refine wpList_run 19 rfl rfl _ (exec_loadQ 4 qbool_flat (.tmp 18) rfl (.bool true) rfl (HX.out.cell 0)) ?_; go_frame) | (refine wpList_dst 22 rfl ?_; refine wpList_runG 22 rfl rfl _ (exec_bin .neq 9 _ (.tmp 21) (.const (.string ⟨#[]⟩)) rfl _ _ _ rfl rfl rfl (H22.out _)) ?_))
  refine (F25.out _).mono ?_
  rintro e w2 ⟨rfl, hb⟩
  replace HX := Lib.hid (HX.out.next hb)
  replace HW := Lib.hid (HW.out.trans (hb.mono HW.out.size))
  clear hb
  go_wp2_with fail
  refine (F28.out _).mono ?_
  rintro e w3 ⟨rfl, hb⟩
  replace HX := Lib.hid (HX.out.next hb)
  replace HW := Lib.hid (HW.out.trans (hb.mono HW.out.size))
  clear hb
  go_wp2_with fail
  refine (F35.out _).mono ?_
  rintro e w4 ⟨rfl, hb⟩
  replace HX := Lib.hid (HX.out.next hb)
  replace HW := Lib.hid (HW.out.trans (hb.mono HW.out.size))
  clear hb
  go_wp2
  go_ret2
  exact ⟨rfl, HW.out⟩
set_option maxRecDepth 100000 in
set_option maxHeartbeats 1000000 in
theorem floor_nr_ok (x y wh rs wh2 : ByteArray) (n : Int) (w : World) (hr : decide (rs ≠ ⟨#[]⟩) = true) (hn : -9000000000000000000 ≤ n ∧ n ≤ 9000000000000000000) (h14 : (∀ W, Calls Tryz.prog 79 #[.string x, .string y] W fun e w' => e = .returned (.tuple #[.string wh, .string rs, .int .i64 0]) ∧ Below W.heap.size W w')) (h25 : (∀ W, Calls Tryz.prog 80 #[.string wh, .string ⟨#[1]⟩] W fun e w' => e = .returned (.string wh2) ∧ Below W.heap.size W w')) (h28 : (∀ W, Calls Tryz.prog 81 #[.string wh2] W fun e w' => e = .returned (.tuple #[.int .i64 n, .int .i64 0]) ∧ Below W.heap.size W w')) (h35 : (∀ W, Calls Tryz.prog 43 #[.int .i64 n] W fun e w' => e = .returned (.bool true) ∧ Below W.heap.size W w')) :
    Calls Tryz.prog 47 #[.agg #[.bool true, .string x, .string y]] w fun e w' => e = .returned (.tuple #[.int .i64 (-n), .int .i64 0]) ∧ Below w.heap.size w w' := by
  have HX := Lib.hid (Blk.new w 47 (q3 true x y))
  have HW := Lib.hid ((Below.refl w.heap.size w).alloc (Nat.le_refl _) (.cells (q3 true x y).toArray 47))
  have F14 := Lib.hid h14
  have F25 := Lib.hid h25
  have F28 := Lib.hid h28
  have F35 := Lib.hid h35
  have H22 := Lib.hid (fun W => run_neqQ rs ⟨#[]⟩ true hr W)
  have HN := Lib.hid hn
  clear h14 h25 h28 h35 hr hn
  go_enter Tryz.func47, Tryz.ntmps47
  go_wp2_with fail
  refine (F14.out _).mono ?_
  rintro e w1 ⟨rfl, hb⟩
  replace HX := Lib.hid (HX.out.next hb)
  replace HW := Lib.hid (HW.out.trans (hb.mono HW.out.size))
  clear hb
  go_wp2_with (first | (refine wpList_dst 18 rfl ?_; refine wpList_run 18 rfl rfl _ (exec_fieldAddr 47 (.tmp 1) 0 rfl _ _ rfl (qf_f0 _ _)) ?_; go_frame) | (refine wpList_dst 19 rfl ?_; refine wpList_run 19 rfl rfl _ (exec_loadQ 4 qbool_flat (.tmp 18) rfl (.bool true) rfl (HX.out.cell 0)) ?_; go_frame) | (refine wpList_dst 22 rfl ?_; refine wpList_runG 22 rfl rfl _ (exec_bin .neq 9 _ (.tmp 21) (.const (.string ⟨#[]⟩)) rfl _ _ _ rfl rfl rfl (H22.out _)) ?_))
  refine (F25.out _).mono ?_
  rintro e w2 ⟨rfl, hb⟩
  replace HX := Lib.hid (HX.out.next hb)
  replace HW := Lib.hid (HW.out.trans (hb.mono HW.out.size))
  clear hb
  go_wp2_with fail
  refine (F28.out _).mono ?_
  rintro e w3 ⟨rfl, hb⟩
  replace HX := Lib.hid (HX.out.next hb)
  replace HW := Lib.hid (HW.out.trans (hb.mono HW.out.size))
  clear hb
  go_wp2_with fail
  refine (F35.out _).mono ?_
  rintro e w4 ⟨rfl, hb⟩
  replace HX := Lib.hid (HX.out.next hb)
  replace HW := Lib.hid (HW.out.trans (hb.mono HW.out.size))
  clear hb
  go_wp2_with (first | (refine wpList_dst 38 rfl ?_; refine wpList_run 38 rfl rfl _ (exec_fieldAddr 47 (.tmp 1) 0 rfl _ _ rfl (qf_f0 _ _)) ?_; go_frame) | (refine wpList_dst 39 rfl ?_; refine wpList_run 39 rfl rfl _ (exec_loadQ 4 qbool_flat (.tmp 38) rfl (.bool true) rfl (HX.out.cell 0)) ?_; go_frame) | (refine wpList_dst 41 rfl ?_; refine wpList_run 41 rfl rfl _ (exec_negZ (.tmp 40) rfl n HN.out rfl) ?_))
  go_ret2
  exact ⟨rfl, HW.out⟩
/-- What floor returns. -/
def floorV (q : Rat) : Value := if -999999999999999 ≤ q.floor ∧ q.floor ≤ 999999999999999 then .tuple #[.int .i64 q.floor, .int .i64 0] else .tuple #[.int .i64 0, .int .i64 3]
theorem floorV_out {q : Rat} (h : ¬ (-999999999999999 ≤ q.floor ∧ q.floor ≤ 999999999999999)) : floorV q = .tuple #[.int .i64 0, .int .i64 3] := by unfold floorV; rw [if_neg h]
theorem floorV_in {q : Rat} (h : -999999999999999 ≤ q.floor ∧ q.floor ≤ 999999999999999) : floorV q = .tuple #[.int .i64 q.floor, .int .i64 0] := by unfold floorV; rw [if_pos h]
theorem floor_pos {q : Rat} (h : 0 ≤ q.num) : q.floor = ((q.num.natAbs / q.den : Nat) : Int) := by
  rw [Rat.floor_def, Int.natCast_ediv, Int.natAbs_of_nonneg h]
theorem floor_negZ {q : Rat} (h : q.num < 0) (hr : q.num.natAbs % q.den = 0) : q.floor = -((q.num.natAbs / q.den : Nat) : Int) := by
  obtain ⟨m, hm⟩ : ∃ m, q.num.natAbs = m := ⟨_, rfl⟩
  have hq : q.num = -(m : Int) := by omega
  rw [Rat.floor_def, hq, Int.natAbs_neg, Int.natAbs_natCast]
  rw [hm] at hr
  obtain ⟨k, rfl⟩ := Nat.dvd_of_mod_eq_zero hr
  have hd : (q.den : Int) ≠ 0 := Int.natCast_ne_zero.2 q.den_nz
  rw [Nat.mul_div_cancel_left _ q.den_pos, Int.natCast_mul, ← Int.mul_neg, Int.mul_ediv_cancel_left _ hd]
theorem floor_negR {q : Rat} (h : q.num < 0) (hr : q.num.natAbs % q.den ≠ 0) : q.floor = -((q.num.natAbs / q.den + 1 : Nat) : Int) := by
  obtain ⟨m, hm⟩ : ∃ m, q.num.natAbs = m := ⟨_, rfl⟩
  have hq : q.num = -(m : Int) := by omega
  rw [Rat.floor_def, hq, Int.natAbs_neg, Int.natAbs_natCast]
  rw [hm] at hr
  have hp := q.den_pos
  generalize q.den = d at hr hp
  have h1 := Nat.div_add_mod m d
  have h2 := Nat.mod_lt m hp
  generalize m / d = a at *
  generalize m % d = r at *
  have e : -(m : Int) = ((d - r : Nat) : Int) + (d : Int) * (-((a + 1 : Nat) : Int)) := by
    rw [Int.mul_neg, ← Int.natCast_mul, Nat.mul_add, Nat.mul_one]
    omega
  rw [e, Int.add_mul_ediv_left _ _ (show (d : Int) ≠ 0 by omega), ← Int.natCast_ediv, Nat.div_eq_of_lt (by omega)]
  simp
set_option maxRecDepth 100000 in
theorem floor_q (q : Rat) (w : World) (hq : Sz 10000 q) : Calls Tryz.prog 47 #[rv (fr q)] w fun e w' => e = .returned (floorV q) ∧ Below w.heap.size w w' := by
  have l1 := hq.1
  have l2 := hq.2
  have hD := fun W => divC (cS q.num.natAbs) (cS q.den) (cS (q.num.natAbs / q.den)) (cS (q.num.natAbs % q.den)) W (by omega) (by omega) (by rw [nB_cS]; exact q.den_nz) (by rw [nB_cS, nB_cS]) (by rw [nB_cS, nB_cS])
  have hV := fun (m : Nat) (hm : (cS m).size ≤ 40000) (h : m ≤ 9223372036854775807) W => (by have h3 := value_any (cS m) W hm (by rw [nB_cS]; exact h); rw [nB_cS] at h3; exact h3 : Calls Tryz.prog 81 #[.string (cS m)] W fun e w' => e = .returned (.tuple #[.int .i64 m, .int .i64 0]) ∧ Below W.heap.size W w')
  have hB := fun (m : Nat) (hm : (cS m).size ≤ 40000) (h : 9223372036854775807 < m) W => value_big (cS m) W hm (by rw [nB_cS]; exact h)
  have hs : (cS (q.num.natAbs / q.den)).size ≤ 10000 := cS_le (Nat.div_le_self _ _) l1
  have hI := fun (n : Int) (r : Bool) (h : decide (-999999999999999 ≤ n ∧ n ≤ 999999999999999) = r) W => (by have h3 := inRange_any n W; rw [h] at h3; exact h3 : Calls Tryz.prog 43 #[.int .i64 n] W fun e w' => e = .returned (.bool r) ∧ Below W.heap.size W w')
  by_cases hn : q.num < 0
  · unfold rv fr
    rw [decide_eq_true hn]
    by_cases hr : q.num.natAbs % q.den = 0
    · have hf := floor_negZ hn hr
      have hrs : decide (cS (q.num.natAbs % q.den) ≠ ⟨#[]⟩) = false := decide_eq_false (fun h => h (by rw [hr]; exact c0))
      generalize q.num.natAbs / q.den = m at *
      by_cases h1 : m ≤ 9223372036854775807
      · by_cases h2 : m ≤ 999999999999999
        · rw [floorV_in (by omega), hf]
          exact floor_n_ok _ _ _ _ _ w hrs (by omega) hD (hV m (by omega) h1) (hI _ _ (decide_eq_true (by omega)))
        · rw [floorV_out (by omega)]
          exact floor_n_far _ _ _ _ _ w hrs hD (hV m (by omega) h1) (hI _ _ (decide_eq_false (by omega)))
      · rw [floorV_out (by omega)]
        exact floor_n_big _ _ _ _ _ w hrs hD (hB m (by omega) (by omega))
    · have hf := floor_negR hn hr
      have hrs : decide (cS (q.num.natAbs % q.den) ≠ ⟨#[]⟩) = true := decide_eq_true (fun h => hr (cS_inj (by rw [h, c0])))
      have hA := fun W => addC (cS (q.num.natAbs / q.den)) ⟨#[1]⟩ (cS (q.num.natAbs / q.den + 1)) W (by omega) (by decide) (by rw [nB_cS, one_cS, nB_cS])
      have hs2 : (cS (q.num.natAbs / q.den + 1)).size ≤ 10001 := cS_addS hs (by rw [c1]; decide)
      generalize q.num.natAbs / q.den = m at *
      by_cases h1 : m + 1 ≤ 9223372036854775807
      · by_cases h2 : m + 1 ≤ 999999999999999
        · rw [floorV_in (by omega), hf]
          exact floor_nr_ok _ _ _ _ _ _ w hrs (by omega) hD hA (hV (m + 1) (by omega) h1) (hI _ _ (decide_eq_true (by omega)))
        · rw [floorV_out (by omega)]
          exact floor_nr_far _ _ _ _ _ _ w hrs hD hA (hV (m + 1) (by omega) h1) (hI _ _ (decide_eq_false (by omega)))
      · rw [floorV_out (by omega)]
        exact floor_nr_big _ _ _ _ _ _ w hrs hD hA (hB (m + 1) (by omega) (by omega))
  · unfold rv fr
    rw [decide_eq_false hn]
    have hf := floor_pos (q := q) (by omega)
    generalize q.num.natAbs / q.den = m at *
    by_cases h1 : m ≤ 9223372036854775807
    · by_cases h2 : m ≤ 999999999999999
      · rw [floorV_in (by omega), hf]
        exact floor_p_ok _ _ _ _ _ w hD (hV m (by omega) h1) (hI _ _ (decide_eq_true (by omega)))
      · rw [floorV_out (by omega)]
        exact floor_p_far _ _ _ _ _ w hD (hV m (by omega) h1) (hI _ _ (decide_eq_false (by omega)))
    · rw [floorV_out (by omega)]
      exact floor_p_big _ _ _ _ _ w hD (hB m (by omega) (by omega))
end Go.Proofs.YtpmlihhofmblpaaGreatDoor

/- Floor and Ceil. -/
namespace Go.Proofs.YtpmlihhofmblpaaGreatDoor
open Go.RowKit Hm Wm Wn

theorem floorV_form (q : Rat) : ∃ n k, floorV q = .tuple #[.int .i64 n, .int .i64 k] ∧ -999999999999999 ≤ n ∧ n ≤ 999999999999999 := by
  by_cases h : -999999999999999 ≤ q.floor ∧ q.floor ≤ 999999999999999
  · exact ⟨_, _, floorV_in h, h⟩
  · exact ⟨_, _, floorV_out h, by omega, by omega⟩
theorem Sz_neg {k : Nat} {q : Rat} (h : Sz k q) : Sz k (-q) := by
  unfold Sz at h ⊢
  rw [Rat.neg_num, Rat.neg_den, Int.natAbs_neg]
  exact h
set_option maxRecDepth 100000 in
set_option maxHeartbeats 1000000 in
theorem Floor_raw (b : Bool) (x y : ByteArray) (f : Rv) (n k : Int) (w : World) (h5 : (∀ W, Calls Tryz.prog 26 #[.agg #[.bool b, .string x, .string y]] W fun e w' => e = .returned (rv f) ∧ Below W.heap.size W w')) (h6 : (∀ W, Calls Tryz.prog 47 #[rv f] W fun e w' => e = .returned (.tuple #[.int .i64 n, .int .i64 k]) ∧ Below W.heap.size W w')) : Calls Tryz.prog 15 #[.agg #[.bool b, .string x, .string y]] w fun e w' => e = .returned (.tuple #[.int .i64 n, .int .i64 k]) ∧ Below w.heap.size w w' := by
  have HW := Lib.hid ((Below.refl w.heap.size w).alloc (Nat.le_refl _) (.cells (q3 b x y).toArray 26))
  have F5 := Lib.hid h5
  have F6 := Lib.hid h6
  clear h5 h6
  go_enter Tryz.func15, Tryz.ntmps15
  go_wp2_with fail
  refine (F5.out _).mono ?_
  rintro e w0 ⟨rfl, hb⟩
  replace HW := Lib.hid (HW.out.trans (hb.mono HW.out.size))
  clear hb
  go_wp2_with fail
  refine (F6.out _).mono ?_
  rintro e w1 ⟨rfl, hb⟩
  replace HW := Lib.hid (HW.out.trans (hb.mono HW.out.size))
  clear hb
  go_wp2
  go_ret2
  exact ⟨rfl, HW.out⟩
set_option maxRecDepth 100000 in
set_option maxHeartbeats 1000000 in
theorem Ceil_raw (b : Bool) (x y : ByteArray) (f g : Rv) (n k : Int) (w : World) (hn : -9000000000000000000 ≤ n ∧ n ≤ 9000000000000000000) (h8 : (∀ W, Calls Tryz.prog 26 #[.agg #[.bool b, .string x, .string y]] W fun e w' => e = .returned (rv f) ∧ Below W.heap.size W w')) (h9 : (∀ W, Calls Tryz.prog 48 #[rv f] W fun e w' => e = .returned (rv g) ∧ Below W.heap.size W w')) (h10 : (∀ W, Calls Tryz.prog 47 #[rv g] W fun e w' => e = .returned (.tuple #[.int .i64 n, .int .i64 k]) ∧ Below W.heap.size W w')) : Calls Tryz.prog 16 #[.agg #[.bool b, .string x, .string y]] w fun e w' => e = .returned (.tuple #[.int .i64 (-n), .int .i64 k]) ∧ Below w.heap.size w w' := by
  have HW := Lib.hid ((Below.refl w.heap.size w).alloc (Nat.le_refl _) (.cells (q3 b x y).toArray 26))
  have F8 := Lib.hid h8
  have F9 := Lib.hid h9
  have F10 := Lib.hid h10
  have HN := Lib.hid hn
  clear h8 h9 h10 hn
  go_enter Tryz.func16, Tryz.ntmps16
  go_wp2_with fail
  refine (F8.out _).mono ?_
  rintro e w0 ⟨rfl, hb⟩
  replace HW := Lib.hid (HW.out.trans (hb.mono HW.out.size))
  clear hb
  go_wp2_with fail
  refine (F9.out _).mono ?_
  rintro e w1 ⟨rfl, hb⟩
  replace HW := Lib.hid (HW.out.trans (hb.mono HW.out.size))
  clear hb
  go_wp2_with fail
  refine (F10.out _).mono ?_
  rintro e w2 ⟨rfl, hb⟩
  replace HW := Lib.hid (HW.out.trans (hb.mono HW.out.size))
  clear hb
  go_wp2_with (first | (refine wpList_dst 14 rfl ?_; refine wpList_run 14 rfl rfl _ (exec_negZ (.tmp 13) rfl n HN.out rfl) ?_))
  go_ret2
  exact ⟨rfl, HW.out⟩
theorem Floor_any (x : Rv) (w : World) (sx : x.n.size ≤ 10000) (tx : x.d.size ≤ 10000) : Calls Tryz.prog 15 #[rv x] w fun e w' => e = .returned (floorV (valR x)) ∧ Below w.heap.size w w' := by
  obtain ⟨n, k, h, h1, h2⟩ := floorV_form (valR x)
  have hf := fun W => floor_q (valR x) W (Sz_val x 10000 (by decide) sx tx)
  rw [h] at hf ⊢
  exact Floor_raw _ _ _ _ n k w (fun W => read_q x W sx tx) hf
/-- What Ceil returns. -/
def ceilV (q : Rat) : Value := match floorV (-q) with | .tuple #[.int .i64 n, e] => .tuple #[.int .i64 (-n), e] | v => v
theorem Ceil_any (x : Rv) (w : World) (sx : x.n.size ≤ 10000) (tx : x.d.size ≤ 10000) : Calls Tryz.prog 16 #[rv x] w fun e w' => e = .returned (ceilV (valR x)) ∧ Below w.heap.size w w' := by
  obtain ⟨n, k, h, h1, h2⟩ := floorV_form (-valR x)
  have hf := fun W => floor_q (-valR x) W (Sz_neg (Sz_val x 10000 (by decide) sx tx))
  unfold ceilV
  rw [h] at hf ⊢
  exact Ceil_raw _ _ _ _ _ n k w (by omega) (fun W => read_q x W sx tx) (fun W => qneg_any (valR x) W) hf
end Go.Proofs.YtpmlihhofmblpaaGreatDoor

/- Int. -/
namespace Go.Proofs.YtpmlihhofmblpaaGreatDoor
open Go.RowKit Hm Wm Wn

set_option maxRecDepth 100000 in
set_option maxHeartbeats 1000000 in
theorem Int_out (n : Int) (w : World) (h6 : (∀ W, Calls Tryz.prog 43 #[.int .i64 n] W fun e w' => e = .returned (.bool false) ∧ Below W.heap.size W w')) : Calls Tryz.prog 25 #[.int .i64 n] w fun e w' => e = .returned (rv zR) ∧ Below w.heap.size w w' := by
  have HZ := Lib.hid (Blk.new w 26 qZ)
  have HW := Lib.hid ((Below.refl w.heap.size w).alloc (Nat.le_refl _) (.cells qZ.toArray 26))
  have F6 := Lib.hid h6
  clear h6
  go_enter Tryz.func25, Tryz.ntmps25
  go_wp2_with fail
  refine (F6.out _).mono ?_
  rintro e w1 ⟨rfl, hb⟩
  replace HZ := Lib.hid (HZ.out.next hb)
  replace HW := Lib.hid (HW.out.trans (hb.mono HW.out.size))
  clear hb
  go_wp2_with (first | (refine wpList_dst 8 rfl ?_; refine wpList_run 8 rfl rfl _ (exec_build0 26 rfl _ (qr_nil _)) ?_) | (refine wpList_store_all rfl 26 (.tmp 2) (.tmp 8) rfl w.heap.size _ qZ qZ rfl rfl HZ.out rfl qr_size (q_one _ _ _) ?_; intro w9 HK9 ho9; have HO9 := Lib.hid ho9; clear ho9))
  exact bodyPost_ret (results_blk rfl _ _ w.heap.size _ qZ _ rfl HK9.out Tryz.underlying26 rfl qr_size) rfl ⟨rfl, HW.out.trans (HO9.out.below (Nat.le_refl _))⟩
set_option maxRecDepth 100000 in
set_option maxHeartbeats 1000000 in
theorem Int_in (n : Int) (b : Bool) (m : Nat) (N : ByteArray) (R : Rv) (w : World) (c1 : decide (n < 0) = b) (hm : max n (-n) = (m : Int)) (hn : -9000000000000000000 ≤ n ∧ n ≤ 9000000000000000000) (h6 : (∀ W, Calls Tryz.prog 43 #[.int .i64 n] W fun e w' => e = .returned (.bool true) ∧ Below W.heap.size W w')) (h14 : (∀ W, Calls Tryz.prog 53 #[.int .i64 (m : Int)] W fun e w' => e = .returned (.tuple #[.string N, .int .i64 0]) ∧ Below W.heap.size W w')) (h21 : (∀ W, Calls Tryz.prog 37 #[.agg #[.bool b, .string N, .string ⟨#[1]⟩]] W fun e w' => e = .returned (rv R) ∧ Below W.heap.size W w')) : Calls Tryz.prog 25 #[.int .i64 n] w fun e w' => e = .returned (rv R) ∧ Below w.heap.size w w' := by
  have HZ := Lib.hid (Blk.new w 26 qZ)
  have HW := Lib.hid ((Below.refl w.heap.size w).alloc (Nat.le_refl _) (.cells qZ.toArray 26))
  have F6 := Lib.hid h6
  have F14 := Lib.hid h14
  have F21 := Lib.hid h21
  have HN := Lib.hid hn
  have HM := Lib.hid hm
  clear h6 h14 h21 hn hm
  go_enter Tryz.func25, Tryz.ntmps25
  go_wp2_with fail
  refine (F6.out _).mono ?_
  rintro e w1 ⟨rfl, hb⟩
  replace HZ := Lib.hid (HZ.out.next hb)
  replace HW := Lib.hid (HW.out.trans (hb.mono HW.out.size))
  clear hb
  go_wp2_with (first | (refine wpList_dst 12 rfl ?_; refine wpList_run 12 rfl rfl _ (exec_negZ (.tmp 11) rfl n HN.out rfl) ?_))
  rw [HM.out]
  refine (F14.out _).mono ?_
  rintro e w2 ⟨rfl, hb⟩
  replace HZ := Lib.hid (HZ.out.next hb)
  replace HW := Lib.hid (HW.out.trans (hb.mono HW.out.size))
  clear hb
  go_wp2_with fail
  refine (F21.out _).mono ?_
  rintro e w3 ⟨rfl, hb⟩
  replace HZ := Lib.hid (HZ.out.next hb)
  replace HW := Lib.hid (HW.out.trans (hb.mono HW.out.size))
  clear hb
  go_wp2_with (first | (refine wpList_store_all rfl 26 (.tmp 2) (.tmp 21) rfl w.heap.size _ qZ (q3 R.neg R.n R.d) rfl rfl HZ.out rfl qr_size (q_one _ _ _) ?_; intro w9 HK9 ho9; have HO9 := Lib.hid ho9; clear ho9))
  exact bodyPost_ret (results_blk rfl _ _ w.heap.size _ (q3 R.neg R.n R.d) _ rfl HK9.out Tryz.underlying26 rfl qr_size) rfl ⟨rfl, HW.out.trans (HO9.out.below (Nat.le_refl _))⟩
theorem fr_int (n : Int) : fr (n : Rat) = ⟨decide (n < 0), cS n.natAbs, ⟨#[1]⟩⟩ := by
  unfold fr
  rw [Rat.num_intCast, Rat.den_intCast, c1]
theorem Int_any (n : Int) (w : World) (h : -999999999999999 ≤ n ∧ n ≤ 999999999999999) : Calls Tryz.prog 25 #[.int .i64 n] w fun e w' => e = .returned (rv (rt (n : Rat))) ∧ Below w.heap.size w w' := by
  refine Int_in n _ n.natAbs (cS n.natAbs) _ w rfl (by omega) (by omega) (fun W => ?_) (fun W => int_any n.natAbs W (by omega)) (fun W => ?_)
  · have h1 := inRange_any n W
    rw [decide_eq_true h] at h1
    exact h1
  · have h1 := qratv_any (n : Rat) W
    rw [fr_int] at h1
    exact h1
theorem Int_far (n : Int) (w : World) (h : ¬ (-999999999999999 ≤ n ∧ n ≤ 999999999999999)) : Calls Tryz.prog 25 #[.int .i64 n] w fun e w' => e = .returned (rv (rt 0)) ∧ Below w.heap.size w w' := by
  rw [rt_zero]
  refine Int_out n w fun W => ?_
  have h1 := inRange_any n W
  rw [decide_eq_false h] at h1
  exact h1
end Go.Proofs.YtpmlihhofmblpaaGreatDoor

/- apply: a method value is called. -/
namespace Go.Proofs.YtpmlihhofmblpaaGreatDoor
open Go.RowKit Hm Wm Wn

section
variable {P : Program} {ops : Array Oper} {Q : Exit → Act → World → Prop} {oi : Oper} {a : Act} {w : World}
/-- A method value is called: the receiver comes first. -/
theorem wp_call_bound {K : Act → World → Prop} {F : FuncId} {r : Value} (x : Operand) {xs : Array Operand} {ts : Array TypeId} (ho : oi.op = .call { callee := .value x, args := xs, argTypes := ts }) (hx : a.eval x = .func (.func F) #[r] #[]) {fn : Func} (hf : P.funcs[F]? = some fn) (hn : (fn.name == "runtime.NumGoroutine") = false) (hb : fn.body.isNone = false) (vs : Array Value) (hvs : r :: xs.toList.map a.eval = vs.toList)
    {R : Ending → World → Prop} (hc : Calls P F vs w R) (h : ∀ e w', R e w' → ∃ v, e = .returned v ∧ K (a.put oi.dst v) w') : oi.wp P a w K Q := by
  obtain rfl : #[r] ++ xs.map a.eval = vs := by apply Array.toList_inj.1; simpa using hvs
  have hrun : (execOp a.eval oi).run P w = .ok (.enter F (#[r] ++ xs.map a.eval)) w := by
    simp [execOp, ho, resolve, invoke, Deferred.ofValue, hx, callFunc_enter hf hn hb]
  unfold Oper.wp
  rw [hrun]
  refine Calls.mono hc fun e w' hR => ?_
  obtain ⟨v, rfl, hk⟩ := h e w' hR
  exact hk
theorem wpList_call_bound {rest : List Oper} (hgd : oi.guard = none) {F : FuncId} {r : Value} (x : Operand) {xs : Array Operand} {ts : Array TypeId} (ho : oi.op = .call { callee := .value x, args := xs, argTypes := ts }) (hx : a.eval x = .func (.func F) #[r] #[]) {fn : Func} (hf : P.funcs[F]? = some fn) (hn : (fn.name == "runtime.NumGoroutine") = false) (hb : fn.body.isNone = false) (vs : Array Value) (hvs : r :: xs.toList.map a.eval = vs.toList)
    {R : Ending → World → Prop} (hc : Calls P F vs w R) (h : ∀ e w', R e w' → ∃ v, e = .returned v ∧ wpList P ops Q rest (a.put oi.dst v) w') : wpList P ops Q (oi :: rest) a w :=
  wpList_plain hgd fun _ hK => wp_call_bound x ho hx hf hn hb vs hvs hc fun e w' hR => by
    obtain ⟨v, rfl, hk⟩ := h e w' hR
    exact ⟨v, rfl, hK _ _ hk⟩
end
set_option maxRecDepth 100000 in
set_option maxHeartbeats 1000000 in
theorem apply_raw (f g R : Rv) (c : Bool) (z v : ByteArray) (w : World) (h7 : (∀ W, Calls Tryz.prog 45 #[rv f, .agg #[.bool c, .string z, .string v]] W fun e w' => e = .returned (rv g) ∧ Below W.heap.size W w')) (h8 : (∀ W, Calls Tryz.prog 37 #[rv g] W fun e w' => e = .returned (rv R) ∧ Below W.heap.size W w')) :
    Calls Tryz.prog 44 #[.func (.func 45) #[rv f] #[], .agg #[.bool c, .string z, .string v]] w fun e w' => e = .returned (rv R) ∧ Below w.heap.size w w' := by
  have HK := two_vars w 47 26 (q3 c z v) qZ
  have HZ := Lib.hid HK.2.1
  have HW := Lib.hid HK.2.2
  have F7 := Lib.hid h7
  have F8 := Lib.hid h8
  clear HK h7 h8
  go_enter Tryz.func44, Tryz.ntmps44
  go_wp2_with (first | (refine wpList_dst 7 rfl ?_; refine wpList_call_bound rfl (.tmp 5) rfl rfl Tryz.func45 (by kernel_rfl) (by kernel_rfl) #[rv f, .agg #[.bool c, .string z, .string v]] rfl (F7.out _) ?_; rintro e w1 ⟨rfl, hb⟩; refine ⟨_, rfl, ?_⟩; replace HZ := Lib.hid (HZ.out.next hb); replace HW := Lib.hid (HW.out.trans (hb.mono HW.out.size)); clear hb))
  refine (F8.out _).mono ?_
  rintro e w2 ⟨rfl, hb⟩
  replace HZ := Lib.hid (HZ.out.next hb)
  replace HW := Lib.hid (HW.out.trans (hb.mono HW.out.size))
  clear hb
  go_wp2_with (first | (refine wpList_store_all rfl 26 (.tmp 4) (.tmp 8) rfl (w.heap.size + 1) _ qZ (q3 R.neg R.n R.d) rfl rfl HZ.out rfl qr_size (q_one _ _ _) ?_; intro w9 HK9 ho9; have HO9 := Lib.hid ho9; clear ho9))
  exact bodyPost_ret (results_blk rfl _ _ (w.heap.size + 1) _ (q3 R.neg R.n R.d) _ rfl HK9.out Tryz.underlying26 rfl qr_size) rfl ⟨rfl, HW.out.trans (HO9.out.below (by omega))⟩
end Go.Proofs.YtpmlihhofmblpaaGreatDoor

/- Mul. -/
namespace Go.Proofs.YtpmlihhofmblpaaGreatDoor
open Go.RowKit Hm Wm Wn

theorem exec_makeF {P : Program} {oi : Oper} {a : Act} {w : World} {F : FuncId} (x : Operand) (ho : oi.op = .makeFunc (.func F) #[x] #[]) (r : Value) (hx : a.eval x = r) : (execOp a.eval oi).run P w = .ok (.value (.func (.func F) #[r] #[])) w := by
  subst hx
  simp [execOp, ho, Instr.makeFunc]
set_option maxRecDepth 100000 in
set_option maxHeartbeats 2000000 in
theorem Mul_raw (b c : Bool) (x y z v : ByteArray) (f g R : Rv) (w : World) (h6 : (∀ W, Calls Tryz.prog 26 #[.agg #[.bool b, .string x, .string y]] W fun e w' => e = .returned (rv f) ∧ Below W.heap.size W w')) (h9 : (∀ W, Calls Tryz.prog 26 #[.agg #[.bool c, .string z, .string v]] W fun e w' => e = .returned (rv g) ∧ Below W.heap.size W w')) (h10 : (∀ W, Calls Tryz.prog 44 #[.func (.func 45) #[rv f] #[], rv g] W fun e w' => e = .returned (rv R) ∧ Below W.heap.size W w')) :
    Calls Tryz.prog 19 #[.agg #[.bool b, .string x, .string y], .agg #[.bool c, .string z, .string v]] w fun e w' => e = .returned (rv R) ∧ Below w.heap.size w w' := by
  obtain ⟨W0, hW0, kx, ky, kz, kw⟩ := three_vars w 26 26 26 (q3 b x y) (q3 c z v) qZ
  have HX := Lib.hid kx
  have HY := Lib.hid ky
  have HZ := Lib.hid kz
  have HW := Lib.hid kw
  have F6 := Lib.hid h6
  have F9 := Lib.hid h9
  have F10 := Lib.hid h10
  clear kx ky kz kw h6 h9 h10
  go_enter Tryz.func19, Tryz.ntmps19
  go_wp2_with fail
  rw [← hW0]
  clear hW0
  refine late_begin (S := fun _ W => Blk W w.heap.size 26 (q3 b x y) ∧ Blk W (w.heap.size + 1) 26 (q3 c z v)) (by kernel_rfl) ?_
  have hX0 := HX.out.drew
  have hY0 := HY.out.drew
  have hZ0 := HZ.out.drew
  have hW0 := HW.out.drew
  generalize W0.drew = u0 at hX0 hY0 hZ0 hW0 ⊢
  clear HX HY HZ HW
  refine late_take [] (i := 0) (some 5) rfl rfl rfl (by kernel_rfl) (by kernel_rfl) (by kernel_rfl) (by kernel_rfl) (by kernel_rfl) (fun Ls W h => h) (.agg #[.bool b, .string x, .string y]) (fun _ _ _ h => h) (fun Ls W hl0 hW => exec_load 26 (.tmp 2) rfl _ _ rfl (run_load_part W 26 w.heap.size 0 3 26 (q3 b x y) _ hW.1 (by simp) Tryz.underlying26 rfl qr_size)) ⟨hX0, hY0⟩ ⟨hX0, hY0⟩ ?_
  go_frame
  refine late_take [] (i := 3) (some 8) rfl rfl rfl (by kernel_rfl) (by kernel_rfl) (by kernel_rfl) (by kernel_rfl) (by kernel_rfl) (fun Ls W h => h) (.agg #[.bool c, .string z, .string v]) (fun _ _ _ h => h) (fun Ls W hl0 hW => exec_load 26 (.tmp 3) rfl _ _ rfl (run_load_part W 26 (w.heap.size + 1) 0 3 26 (q3 c z v) _ hW.2 (by simp) Tryz.underlying26 rfl qr_size)) ⟨hX0, hY0⟩ ⟨hX0, hY0⟩ ?_
  go_frame
  refine late_one (i := 1) (by kernel_rfl) (op_call (some 6) rfl rfl rfl rfl Tryz.func26 (by kernel_rfl) (by kernel_rfl) #[.agg #[.bool b, .string x, .string y]] rfl (F6.out u0) ?_)
  rintro e u1 ⟨rfl, hb1⟩
  have hX1 := hX0.next hb1
  have hY1 := hY0.next hb1
  have hZ1 := hZ0.next hb1
  have hW1 := hW0.trans (hb1.mono hW0.size)
  refine ⟨_, rfl, ⟨hX1, hY1⟩, ?_⟩
  go_frame
  clear hX0 hY0 hZ0 hW0 hb1
  refine late_take [] (i := 2) (some 7) rfl rfl rfl (by kernel_rfl) (by kernel_rfl) (by kernel_rfl) (by kernel_rfl) (by kernel_rfl) (fun Ls W h => h) (.func (.func 45) #[rv f] #[]) (fun _ _ _ h => h) (fun Ls W hl0 hW => exec_makeF (.tmp 6) rfl _ rfl) ⟨hX1, hY1⟩ ⟨hX1, hY1⟩ ?_
  go_frame
  refine late_one (i := 4) (by kernel_rfl) (op_call (some 9) rfl rfl rfl rfl Tryz.func26 (by kernel_rfl) (by kernel_rfl) #[.agg #[.bool c, .string z, .string v]] rfl (F9.out u1) ?_)
  rintro e u2 ⟨rfl, hb2⟩
  have hX2 := hX1.next hb2
  have hY2 := hY1.next hb2
  have hZ2 := hZ1.next hb2
  have hW2 := hW1.trans (hb2.mono hW1.size)
  refine ⟨_, rfl, ⟨hX2, hY2⟩, ?_⟩
  go_frame
  clear hX1 hY1 hZ1 hW1 hb2
  refine late_one (i := 5) (by kernel_rfl) (op_call (some 10) rfl rfl rfl rfl Tryz.func44 (by kernel_rfl) (by kernel_rfl) #[.func (.func 45) #[rv f] #[], rv g] rfl (F10.out u2) ?_)
  rintro e u3 ⟨rfl, hb3⟩
  have hX3 := hX2.next hb3
  have hY3 := hY2.next hb3
  have hZ3 := hZ2.next hb3
  have hW3 := hW2.trans (hb3.mono hW2.size)
  refine ⟨_, rfl, ⟨hX3, hY3⟩, ?_⟩
  go_frame
  clear hX2 hY2 hZ2 hW2 hb3
  refine late_one (i := 6) (by kernel_rfl) (op_store_all rfl rfl rfl 26 (.tmp 4) (.tmp 10) rfl (w.heap.size + 1 + 1) _ qZ (q3 R.neg R.n R.d) rfl rfl hZ3 rfl qr_size (q_one _ _ _) ?_)
  intro w9 hk9 ho9
  refine ⟨⟨ho9.blk hX3 (by omega), ho9.blk hY3 (by omega)⟩, late_done (by kernel_rfl) ?_ _⟩
  go_frame
  have HK9 := Lib.hid hk9
  have HO9 := Lib.hid ho9
  have HW := Lib.hid hW3
  clear hX3 hY3 hZ3 hW3 hk9 ho9
  go_wp2_with fail
  exact bodyPost_ret (results_blk rfl _ _ (w.heap.size + 1 + 1) _ (q3 R.neg R.n R.d) _ rfl HK9.out Tryz.underlying26 rfl qr_size) rfl ⟨rfl, HW.out.trans (HO9.out.below (by omega))⟩
theorem qapply_any (p q : Rat) (w : World) (hp : Sz 10000 p) (hq : Sz 10000 q) : Calls Tryz.prog 44 #[.func (.func 45) #[rv (fr p)] #[], rv (fr q)] w fun e w' => e = .returned (rv (rt (p * q))) ∧ Below w.heap.size w w' :=
  apply_raw (fr p) (fr (p * q)) (rt (p * q)) _ _ _ w (fun W => qtimes_any p q W hp hq) (fun W => qratv_any (p * q) W)
theorem Mul_any (x y : Rv) (w : World) (sx : x.n.size ≤ 10000) (tx : x.d.size ≤ 10000) (sy : y.n.size ≤ 10000) (ty : y.d.size ≤ 10000) : Calls Tryz.prog 19 #[rv x, rv y] w fun e w' => e = .returned (rv (rt (valR x * valR y))) ∧ Below w.heap.size w w' :=
  Mul_raw _ _ _ _ _ _ (fr (valR x)) (fr (valR y)) (rt (valR x * valR y)) w (fun W => read_q x W sx tx) (fun W => read_q y W sy ty) (fun W => qapply_any _ _ W (Sz_val x 10000 (by decide) sx tx) (Sz_val y 10000 (by decide) sy ty))
end Go.Proofs.YtpmlihhofmblpaaGreatDoor
