/- The reference's split; slices of lists by hand. -/
import Derived.Test.YtfbemmeonkceiaaDoorKRp2
namespace Go.Proofs.YtfbemmeonkceiaaDoor
open Go.RowKit Hm Wm

/-- What stands in the loop over the powers. -/
def SpR (n : Nat) (v : Value) : Prop := ∃ k e : Nat, v = .int .i64 k ∧ Hid (k = 2 ^ e) ∧ 1 ≤ k ∧ k < n

set_option maxRecDepth 100000 in
set_option maxHeartbeats 1000000 in
theorem split_any (n : Nat) (w : World) (h2 : 2 ≤ n) (hn : n ≤ 1099511627776) :
    Calls Tryd.prog 39 #[.int .i64 n] w fun e w' => e = .returned (.int .i64 (hf n : Nat)) ∧ w' = w := by
  obtain ⟨h, hh⟩ : ∃ h, hf n = h := ⟨_, rfl⟩
  rw [hh]
  have HH := Lib.hid hh
  clear hh
  go_enter Tryd.func39, Tryd.ntmps39
  go_wp2
  go_loop [3] (SpR n) (fun v => n - (intOf v).toNat)
  case atStart => exact ⟨1, 0, rfl, rfl, Nat.le_refl _, by omega⟩
  case round =>
    obtain ⟨k, e, rfl, HK, h1, hk⟩ := hrel
    have k0 : (0 : Int) ≤ (k : Int) := by omega
    have k1 : (k : Int) ≤ 1099511627776 := by omega
    by_cases hlt : 2 * k < n
    · have d1 : decide (2 * (k : Int) < (n : Int)) = true := decide_eq_true (by omega)
      go_wp2
      go_round
      case rel => exact ⟨2 * k, e + 1, by go_num, Lib.hid (by rw [HK.out, Nat.pow_succ, Nat.mul_comm]), by omega, hlt⟩
      case measure => simp [intOf]; omega
    · have d1 : decide (2 * (k : Int) < (n : Int)) = false := decide_eq_false (by omega)
      have hq : k = h := by
        rw [← HH.out, HK.out]
        exact (hf_only (by rw [← HK.out]; exact hk) (by rw [← HK.out]; omega)).symm
      subst hq
      go_wp2
      go_ret
      exact ⟨rfl, rfl⟩
theorem run_loD (A : Option Addr) (n c k : Nat) (hk : k < n) (hn : n ≤ c) (W : World) :
    (Instr.sliceAt 22 (.slice A n c) (some (.int .i64 k)) none none).run Tryd.prog W = .ok (.slice (dA A n k) (n - k : Nat) (c - k : Nat)) W := by
  have hu : Tryd.prog.underlying 22 = some (.slice 31) := Tryd.underlying22
  have hne : n ≠ k := by omega
  have hne2 : c ≠ k := by omega
  unfold dA
  rw [if_neg hne]
  simp [Instr.sliceAt, Instr.slice, run_underlying hu, Instr.sliceBounds, run_sliceBound, (by omega : (k : Int) ≤ n), hne2]
theorem exec_loD {oi : Oper} {a : Act} {w : World} (x y : Operand) (ho : oi.op = .slice 22 x (some y) none none) (A : Option Addr) (n c k : Nat) (hk : k < n) (hn : n ≤ c) (hx : a.eval x = .slice A n c) (hy : a.eval y = .int .i64 k) : (execOp a.eval oi).run Tryd.prog w = .ok (.value (.slice (dA A n k) (n - k : Nat) (c - k : Nat))) w := by
  have hl := run_loD A n c k hk hn w
  rw [← hx, ← hy] at hl
  simp [execOp, ho, hl]

set_option maxRecDepth 100000 in
set_option maxHeartbeats 400000 in
theorem rroot_none (A : Option Addr) (c : Nat) (w : World) (hg : RTab w) :
    Calls Tryd.prog 16 #[.slice A 0 c] w fun e w' => e = .returned (dv (rootD [])) ∧ Below w.heap.size w w' := by
  have hb := (Below.refl w.heap.size w).alloc (Nat.le_refl _) (.cells (zb 16).toArray 31)
  have HB := Lib.hid (Blk.new w 31 (zb 16))
  have HG := Lib.hid (hg.next hb)
  have HBW := Lib.hid hb
  clear hb hg
  rw [rootD_nil]
  go_enter Tryd.func16, Tryd.ntmps16
  go_wp2_with (first | (refine wpList_alloc_zero rfl 31 rfl (zb 16) dg_zero ?_))
  refine (rempty_any _ HG.out).mono ?_
  rintro e w2 ⟨rfl, hb2⟩
  have K2 := Lib.hid (HB.out.next hb2)
  have B2 := Lib.hid (HBW.out.trans (hb2.mono HBW.out.size))
  clear hb2
  go_wp2_with (refine wpList_store_all rfl _ (.tmp 2) (.tmp 7) rfl w.heap.size _ (zb 16) (dc emptyD) rfl rfl K2.out (dd_len _) (dd_size _) (dc_one _) ?_; intro w7 HB7 ho7)
  exact bodyPost_ret (results_blk rfl _ _ w.heap.size _ (dc emptyD) _ rfl HB7.out dg_under rfl (dd_size _)) rfl ⟨rfl, B2.out.trans (ho7.below (Nat.le_refl _))⟩

set_option maxRecDepth 100000 in
set_option maxHeartbeats 400000 in
theorem rroot_one (A : Option Addr) (c : Nat) (d : Dg) (w : World) (hr : RdD w A [d]) :
    Calls Tryd.prog 16 #[.slice A 1 c] w fun e w' => e = .returned (dv (rootD [d])) ∧ Below w.heap.size w w' := by
  have hb := (Below.refl w.heap.size w).alloc (Nat.le_refl _) (.cells (zb 16).toArray 31)
  have HB := Lib.hid (Blk.new w 31 (zb 16))
  obtain ⟨b, off, rfl, hc⟩ := (hr.below hb).range (k := 0) (by simp)
  rw [Nat.zero_mul, Nat.add_zero] at hc
  have HC : Hid (World.rangeAt (w.alloc (.cells (zb 16).toArray 31)) b off (dc d)) := hc
  have HBW := Lib.hid hb
  clear hb hr hc
  rw [rootD_one]
  go_enter Tryd.func16, Tryd.ntmps16
  go_wp2_with (first | (refine wpList_alloc_zero rfl 31 rfl (zb 16) dg_zero ?_) | (refine wpList_loadD rfl (.tmp 12) rfl b off rfl d HC.out ?_) | (refine wpList_store_all rfl _ (.tmp 2) (.tmp 13) rfl w.heap.size _ (zb 16) (dc d) rfl rfl HB.out (dd_len _) (dd_size _) (dc_one _) ?_; intro w7 HB7 ho7))
  exact bodyPost_ret (results_blk rfl _ _ w.heap.size _ (dc d) _ rfl HB7.out dg_under rfl (dd_size _)) rfl ⟨rfl, HBW.out.trans (ho7.below (Nat.le_refl _))⟩

set_option maxRecDepth 100000 in
set_option maxHeartbeats 1000000 in
theorem rroot_any (k : Nat) : ∀ (l : List Dg) (A : Option Addr) (c : Nat) (w : World), l.length ≤ k → l.length ≤ c → l.length ≤ 1099511627776 → RTab w → RdD w A l →
    Calls Tryd.prog 16 #[.slice A l.length c] w fun e w' => e = .returned (dv (rootD l)) ∧ Below w.heap.size w w' := by
  induction k with
  | zero =>
    intro l A c w hk _ _ hg _
    obtain rfl : l = [] := List.eq_nil_of_length_eq_zero (by omega)
    exact rroot_none A c w hg
  | succ k ih =>
    intro l A c w hk hc hn hg hr
    rcases Nat.lt_or_ge l.length 2 with h2 | h2
    · rcases l with _ | ⟨d, r⟩
      · exact rroot_none A c w hg
      · obtain rfl : r = [] := List.eq_nil_of_length_eq_zero (by simp at h2; omega)
        exact rroot_one A c d w hr
    · have hb := (Below.refl w.heap.size w).alloc (Nat.le_refl _) (.cells (zb 16).toArray 31)
      have HB := Lib.hid (Blk.new w 31 (zb 16))
      have hlt := hf_lt h2
      have hp := hf_pos l.length
      have e1 : (l.take (hf l.length)).length = hf l.length := by rw [List.length_take]; omega
      have e2 : (l.drop (hf l.length)).length = l.length - hf l.length := List.length_drop
      have hroot := rootD_two h2
      have c1 := fun (w' : World) (hg' : RTab w') (hr' : RdD w' A (l.take (hf l.length))) => ih (l.take (hf l.length)) A c w' (by omega) (by omega) (by omega) hg' hr'
      have c2 := fun (w' : World) (hg' : RTab w') (hr' : RdD w' (dA A l.length (hf l.length)) (l.drop (hf l.length))) => ih (l.drop (hf l.length)) (dA A l.length (hf l.length)) (c - hf l.length) w' (by omega) (by omega) (by omega) hg' hr'
      rw [e1] at c1
      rw [e2] at c2
      have r1 := hr.take (hf l.length)
      have r2 := hr.drop (hf l.length)
      have HP := Lib.hid (fun w' => split_any l.length w' h2 hn)
      obtain ⟨h, hh⟩ : ∃ h, hf l.length = h := ⟨_, rfl⟩
      rw [hh] at c1 c2 r1 r2 hroot HP hlt hp
      have HC1 := Lib.hid c1
      have HC2 := Lib.hid c2
      have HR1 := Lib.hid r1
      have HR2 := Lib.hid r2
      have HX := Lib.hid hroot
      have HG := Lib.hid hg
      have HBW := Lib.hid hb
      have n0 : (l.length == 0) = false := by rw [beq_eq_false_iff_ne]; omega
      have n1 : (l.length == 1) = false := by rw [beq_eq_false_iff_ne]; omega
      have m0 : ((l.length : Int) == 0) = false := by rw [beq_eq_false_iff_ne]; omega
      have m1 : ((l.length : Int) == 1) = false := by rw [beq_eq_false_iff_ne]; omega
      clear c1 c2 r1 r2 hroot hg hb ih hr hp e1 e2 hh
      go_enter Tryd.func16, Tryd.ntmps16
      go_wp2_with (first | (refine wpList_alloc_zero rfl 31 rfl (zb 16) dg_zero ?_))
      refine (HP.out _).mono ?_
      rintro e w1 ⟨rfl, rfl⟩
      go_wp2_with fail
      generalize w.alloc (.cells (zb 16).toArray 31) = w1 at HB HBW ⊢
      refine wp_region_held_drew (S := fun _ => True) (by kernel_rfl) trivial (fun _ => ?_)
      have hD := HBW.out.drew
      have hK : Blk w1.drew w.heap.size 31 (zb 16) := HB.out
      generalize w1.drew = w4 at hD hK ⊢
      refine reg_takeG (i := 0) (some 17) rfl rfl rfl (by kernel_rfl) (by kernel_rfl) (by kernel_rfl) (.slice A l.length c) (fun _ _ _ h => h) (fun W hW => exec_move (.tmp 0) rfl _ rfl) trivial ?_
      go_frame
      refine reg_takeG (i := 1) (some 18) rfl rfl rfl (by kernel_rfl) (by kernel_rfl) (by kernel_rfl) (.int .i64 h) (fun _ _ _ h => h) (fun W hW => exec_move (.tmp 3) rfl _ rfl) trivial ?_
      go_frame
      refine reg_takeG (i := 2) (some 19) rfl rfl rfl (by kernel_rfl) (by kernel_rfl) (by kernel_rfl) (.slice A h c) (fun _ _ _ h => h) (fun W hW => exec_hiD (.tmp 17) (.tmp 18) rfl A l.length c h (by omega) hc rfl rfl) trivial ?_
      go_frame
      refine reg_takeG (i := 4) (some 21) rfl rfl rfl (by kernel_rfl) (by kernel_rfl) (by kernel_rfl) (.slice A l.length c) (fun _ _ _ h => h) (fun W hW => exec_move (.tmp 0) rfl _ rfl) trivial ?_
      go_frame
      refine reg_takeG (i := 5) (some 22) rfl rfl rfl (by kernel_rfl) (by kernel_rfl) (by kernel_rfl) (.int .i64 h) (fun _ _ _ h => h) (fun W hW => exec_move (.tmp 3) rfl _ rfl) trivial ?_
      go_frame
      refine reg_takeG (i := 6) (some 23) rfl rfl rfl (by kernel_rfl) (by kernel_rfl) (by kernel_rfl) (.slice (dA A l.length h) (l.length - h : Nat) (c - h : Nat)) (fun _ _ _ h => h) (fun W hW => exec_loD (.tmp 21) (.tmp 22) rfl A l.length c h hlt hc rfl rfl) trivial ?_
      go_frame
      refine reg_callG (i := 3) (some 20) rfl rfl rfl (by kernel_rfl) rfl Tryd.func16 (by kernel_rfl) (by kernel_rfl) #[.slice A h c] rfl (HC1.out w4 (HG.out.next hD) (HR1.out.below hD)) ?_
      rintro e w5 ⟨rfl, hb5⟩
      have hD5 := hD.trans (hb5.mono hD.size)
      have hK5 := hK.next hb5
      refine ⟨_, rfl, trivial, ?_⟩
      go_frame
      refine reg_callG (i := 7) (some 24) rfl rfl rfl (by kernel_rfl) rfl Tryd.func16 (by kernel_rfl) (by kernel_rfl) #[.slice (dA A l.length h) (l.length - h : Nat) (c - h : Nat)] rfl (HC2.out w5 (HG.out.next hD5) (HR2.out.below hD5)) ?_
      rintro e w6 ⟨rfl, hb6⟩
      have hD6 := hD5.trans (hb6.mono hD5.size)
      have hK6 := hK5.next hb6
      refine ⟨_, rfl, trivial, ?_⟩
      go_frame
      refine reg_callG (i := 8) (some 25) rfl rfl rfl (by kernel_rfl) rfl Tryd.func20 (by kernel_rfl) (by kernel_rfl) #[dv (rootD (l.take h)), dv (rootD (l.drop h))] rfl (rnode_any _ _ w6 (HG.out.next hD6)) ?_
      rintro e w7 ⟨rfl, hb7⟩
      have hD7 := hD6.trans (hb7.mono hD6.size)
      have hK7 := hK6.next hb7
      rw [← HX.out]
      obtain ⟨d, hd⟩ : ∃ d, rootD l = d := ⟨_, rfl⟩
      rw [hd]
      have HD := Lib.hid hd
      refine ⟨_, rfl, trivial, ?_⟩
      go_frame
      refine reg_store_all (i := 9) rfl rfl rfl (by kernel_rfl) 31 (.tmp 2) (.tmp 25) rfl w.heap.size _ (zb 16) (dc d) rfl rfl hK7 (dd_len _) (dd_size _) (dc_one _) ?_
      intro w8 hk8 ho8
      refine ⟨trivial, wpAnyH_done (by kernel_rfl) ?_ _⟩
      go_frame
      have HK8 := Lib.hid hk8
      have HB8 := Lib.hid (hD7.trans (ho8.below (Nat.le_refl _)))
      clear hd hD hK hb5 hD5 hK5 hb6 hD6 hK6 hb7 hD7 hK7 hk8 ho8
      go_wp2
      exact bodyPost_ret (results_blk rfl _ _ w.heap.size _ (dc d) _ rfl HK8.out dg_under rfl (dd_size _)) rfl ⟨by rw [HD.out]; rfl, HB8.out⟩
end Go.Proofs.YtfbemmeonkceiaaDoor
