/- The reference: the digits of numbers. -/
import Derived.Test.YtggjgikpiljoiaaDoorL29
namespace Go.Proofs.YtggjgikpiljoiaaDoor
open Go.RowKit Hm Wm Lx

theorem quo10 (n : Nat) (h : n ≤ 9223372036854775807) (W : World) : (binOp .quo 3 (.int .i64 n) (.int .i64 10)).run Tryd.prog W = .ok (.int .i64 ((n / 10 : Nat) : Int)) W := by
  simp [binOp, go_sem]
  simp [IntKind.wrap, IntKind.bits, IntKind.signed]; omega
theorem rem10 (n : Nat) (W : World) : (binOp .rem 3 (.int .i64 n) (.int .i64 10)).run Tryd.prog W = .ok (.int .i64 ((n % 10 : Nat) : Int)) W := by
  simp [binOp, go_sem]
  rw [Int.tmod_eq_emod_of_nonneg (by omega)]
theorem quo10N (n : Nat) (h : n ≤ 9223372036854775808) (W : World) : (binOp .quo 3 (.int .i64 (-(n : Int))) (.int .i64 10)).run Tryd.prog W = .ok (.int .i64 (-((n / 10 : Nat) : Int))) W := by
  simp [binOp, go_sem]
  simp [IntKind.wrap, IntKind.bits, IntKind.signed]; omega
theorem rem10N (n : Nat) (W : World) : (binOp .rem 3 (.int .i64 (-(n : Int))) (.int .i64 10)).run Tryd.prog W = .ok (.int .i64 (-((n % 10 : Nat) : Int))) W := by
  simp [binOp, go_sem]
  rw [Int.tmod_eq_emod_of_nonneg (by omega)]
theorem neg_any (n : Nat) (h : n ≤ 9223372036854775807) (W : World) : (Op.unary .neg (.int .i64 (-(n : Int)))).run Tryd.prog W = .ok (.int .i64 (n : Int)) W := by
  have hw : IntKind.i64.wrap (n : Int) = (n : Int) := by simp [IntKind.wrap, IntKind.bits, IntKind.signed]; omega
  simp [Op.unary, go_sem, hw]
theorem exec_negN {oi : Oper} {a : Act} {w : World} (x : Operand) (ho : oi.op = .unOp .neg 3 x) (n : Nat) (h : n ≤ 9223372036854775807) (hx : a.eval x = .int .i64 (-(n : Int))) : (execOp a.eval oi).run Tryd.prog w = .ok (.value (.int .i64 (n : Int))) w := by
  have hr := neg_any n h w
  simp [execOp, ho, hx, hr]
theorem conv_dig (n : Nat) (h : n < 10) (W : World) : (convert 3 5 (.int .i64 (((48 + n : Nat)) : Int))).run Tryd.prog W = .ok (.int .u8 ((UInt8.ofNat (48 + n)).toNat : Int)) W := by
  have hm : (UInt8.ofNat (48 + n)).toNat = 48 + n := by rw [UInt8.toNat_ofNat']; omega
  rw [hm]
  rw [run_convert_int W 3 5 .i64 _ (by kernel_rfl) (by kernel_rfl)]
  rw [show Tryd.prog.intKind 5 = .u8 from by kernel_rfl]
  congr 2
  simp [IntKind.wrap, IntKind.bits, IntKind.signed]; omega
/-- A list of one byte is built. -/
theorem wpList_buildB {w : World} {ops : Array Oper} {rest : List Oper} {o : Oper} {a : Act} {Q : Exit → Act → World → Prop} (d : Tmp) (hd : o.dst = some d) (hgd : o.guard = none) (x : Operand) (ho : o.op = .buildSlice 39 1 #[(0, x)]) (v : UInt8) (hx : a.eval x = .int .u8 (v.toNat : Int))
    (h : ∀ w', Below w.heap.size w w' → OwnB w' w.heap.size (.slice (some ⟨w.heap.size, 0, none⟩) 1 1) [v] → wpList Tryd.prog ops Q rest (a.put (some d) (.slice (some ⟨w.heap.size, 0, none⟩) 1 1)) w') : wpList Tryd.prog ops Q (o :: rest) a w := by
  have hk := h _ ((Below.refl _ _).alloc (Nat.le_refl _) _) (OwnB.one w w.heap.size v (Nat.le_refl _))
  have hrun : (execOp a.eval o).run Tryd.prog w = .ok (.value (.slice (some ⟨w.heap.size, 0, none⟩) 1 1)) (w.alloc (.cells #[.int .u8 (v.toNat : Int)] 5)) :=
    exec_buildS 39 1 _ ho #[(0, .int .u8 (v.toNat : Int))] (by simp [hx]) _ (by kernel_rfl)
  refine wpList_plain hgd fun K hK => ?_
  unfold Oper.wp
  rw [hrun]
  have := hK _ _ hk
  rw [← hd] at this
  exact this
set_option maxRecDepth 100000 in
set_option maxHeartbeats 800000 in
theorem dec_small9 (n : Nat) (h : n < 10) (W : World) : Calls Tryd.prog 22 #[.int .i64 ((n : Nat) : Int)] W fun e w' => e = .returned (.string (sb (Lib.itoa ((n : Nat) : Int)))) ∧ Below W.heap.size W w' := by
  have hd := itoa_nat n
  rw [dec_small h] at hd
  have HD := Lib.hid hd
  have HW := Lib.hid (Below.refl W.heap.size W)
  have t1 : decide ((n : Int) ≤ -10) = false := decide_eq_false (by omega)
  have t2 : decide ((n : Int) < 0) = false := decide_eq_false (by omega)
  have t3 : decide ((n : Int) < 10) = true := decide_eq_true (by omega)
  have t3n : decide (n < 10) = true := decide_eq_true h
  have HA := Lib.hid (show IntKind.i64.wrap ((48 : Int) + (n : Int)) = ((48 + n : Nat) : Int) from wrap_add 48 n (by omega))
  have HCV := Lib.hid (conv_dig n h)
  clear hd
  go_enter Tryd.func22, Tryd.ntmps22
  go_wp2_with (first | (refine wpList_dst 22 rfl ?_; refine wpList_run 22 rfl rfl _ (exec_addI _ _ (.tmp 21) _ rfl _ _ _ rfl rfl HA.out) ?_; go_frame) | (refine wpList_dst 23 rfl ?_; refine wpList_run 23 rfl rfl _ (exec_convert 3 5 (.tmp 22) rfl _ (.int .u8 ((UInt8.ofNat (48 + n)).toNat : Int)) rfl (HCV.out _)) ?_; go_frame) | (refine wpList_buildB 24 rfl rfl (.tmp 23) rfl (UInt8.ofNat (48 + n)) rfl ?_; intro w4 hb ho; have HO := Lib.hid ho; replace HW := Lib.hid (HW.out.trans (hb.mono HW.out.size)); clear hb ho; go_frame) | (refine wpList_dst 25 rfl ?_; refine wpList_run 25 rfl rfl _ (exec_convert 39 9 (.tmp 24) rfl _ (.string (sb [UInt8.ofNat (48 + n)])) rfl (run_str (OwnB.rd HO.out) 1)) ?_; go_frame))
  go_ret
  exact ⟨by rw [HD.out]; rfl, HW.out⟩
set_option maxRecDepth 100000 in
set_option maxHeartbeats 800000 in
theorem dec_step (n : Nat) (h0 : 10 ≤ n) (h : n ≤ 9223372036854775807) (h1 : ∀ W, Calls Tryd.prog 22 #[.int .i64 (((n / 10 : Nat) : Int))] W fun e w' => e = .returned (.string (sb (Lib.itoa (((n / 10 : Nat) : Int))))) ∧ Below W.heap.size W w') (W : World) : Calls Tryd.prog 22 #[.int .i64 ((n : Nat) : Int)] W fun e w' => e = .returned (.string (sb (Lib.itoa ((n : Nat) : Int)))) ∧ Below W.heap.size W w' := by
  have HD := Lib.hid (itoa_ten h0)
  have HW := Lib.hid (Below.refl W.heap.size W)
  have t1 : decide ((n : Int) ≤ -10) = false := decide_eq_false (by omega)
  have t2 : decide ((n : Int) < 0) = false := decide_eq_false (by omega)
  have t3 : decide ((n : Int) < 10) = false := decide_eq_false (by omega)
  have t3n : decide (n < 10) = false := decide_eq_false (by omega)
  have HQ := Lib.hid (quo10 n h)
  have HR := Lib.hid (rem10 n)
  have H1 := Lib.hid h1
  have H2 := Lib.hid (dec_small9 (n % 10) (Nat.mod_lt _ (by decide)))
  have HC := Lib.hid (cat_any (Lib.itoa ((n / 10 : Nat) : Int)) (Lib.itoa ((n % 10 : Nat) : Int)) (by have e1 := itoa_len (n / 10) (by omega); have e2 := itoa_len (n % 10) (by omega); omega))
  clear h1
  generalize hqq : n / 10 = q at HQ H1 HC HD
  generalize hrr : n % 10 = r at HR H2 HC HD
  clear hqq hrr
  go_enter Tryd.func22, Tryd.ntmps22
  go_wp2_with (first | (refine wpList_dst 27 rfl ?_; refine wpList_run 27 rfl rfl _ (exec_bin .quo 3 _ (.tmp 26) _ rfl (.int .i64 n) (.int .i64 10) (.int .i64 q) rfl rfl rfl (HQ.out _)) ?_; go_frame) | (refine wpList_dst 30 rfl ?_; refine wpList_run 30 rfl rfl _ (exec_bin .rem 3 _ (.tmp 29) _ rfl (.int .i64 n) (.int .i64 10) (.int .i64 r) rfl rfl rfl (HR.out _)) ?_; go_frame) | ((with_reducible refine (H1.out _).mono ?_); rintro e w2 ⟨rfl, hb⟩; replace HW := Lib.hid (HW.out.trans (hb.mono HW.out.size)); clear hb) | ((with_reducible refine (H2.out _).mono ?_); rintro e w2 ⟨rfl, hb⟩; replace HW := Lib.hid (HW.out.trans (hb.mono HW.out.size)); clear hb) | (refine wpList_dst 32 rfl ?_; refine wpList_run 32 rfl rfl _ (exec_bin .add 9 _ (.tmp 28) (.tmp 31) rfl (.string (sb (Lib.itoa (q : Int)))) (.string (sb (Lib.itoa (r : Int)))) (.string (sb (Lib.itoa (q : Int) ++ Lib.itoa (r : Int)))) rfl rfl rfl (HC.out _)) ?_; go_frame))
  go_ret
  exact ⟨by rw [HD.out]; rfl, HW.out⟩
theorem dec_pos : ∀ (n : Nat), n ≤ 9223372036854775807 → ∀ W, Calls Tryd.prog 22 #[.int .i64 ((n : Nat) : Int)] W fun e w' => e = .returned (.string (sb (Lib.itoa ((n : Nat) : Int)))) ∧ Below W.heap.size W w' := by
  intro n
  induction n using Nat.strongRecOn with
  | _ n ih =>
    intro h W
    rcases Nat.lt_or_ge n 10 with h1 | h1
    · exact dec_small9 n h1 W
    · exact dec_step n h1 h (fun W => ih (n / 10) (by omega) (by omega) W) W
set_option maxRecDepth 100000 in
set_option maxHeartbeats 800000 in
theorem dec_neg9 (n : Nat) (h0 : 0 < n) (h : n < 10) (W : World) : Calls Tryd.prog 22 #[.int .i64 (-(n : Int))] W fun e w' => e = .returned (.string (sb (Lib.itoa (-(n : Int))))) ∧ Below W.heap.size W w' := by
  have HD := Lib.hid (itoa_neg h0)
  have HW := Lib.hid (Below.refl W.heap.size W)
  have t1 : decide (-(n : Int) ≤ -10) = false := decide_eq_false (by omega)
  have t1n : decide ((10 : Int) ≤ (n : Int)) = false := decide_eq_false (by omega)
  have t1m : decide (10 ≤ n) = false := decide_eq_false (by omega)
  have t2 : decide (-(n : Int) < 0) = true := decide_eq_true (by omega)
  have t2n : decide ((0 : Int) < (n : Int)) = true := decide_eq_true (by omega)
  have t2m : decide (0 < n) = true := decide_eq_true h0
  have H1 := Lib.hid (dec_small9 n h)
  have HC := Lib.hid (show ∀ W, (binOp .add 9 (.string ⟨#[45]⟩) (.string (sb (Lib.itoa (n : Int))))).run Tryd.prog W = .ok (.string (sb (45 :: Lib.itoa (n : Int)))) W from fun W => cat_any [45] (Lib.itoa (n : Int)) (by have e1 := itoa_len n (by omega); simp; omega) W)
  go_enter Tryd.func22, Tryd.ntmps22
  go_wp2_with (first | (refine wpList_dst 16 rfl ?_; refine wpList_run 16 rfl rfl _ (exec_negN (.tmp 15) rfl n (by omega) rfl) ?_; go_frame) | ((with_reducible refine (H1.out _).mono ?_); rintro e w2 ⟨rfl, hb⟩; replace HW := Lib.hid (HW.out.trans (hb.mono HW.out.size)); clear hb) | (refine wpList_dst 18 rfl ?_; refine wpList_run 18 rfl rfl _ (exec_bin .add 9 _ (.const (.string ⟨#[45]⟩)) (.tmp 17) rfl (.string ⟨#[45]⟩) (.string (sb (Lib.itoa (n : Int)))) (.string (sb (45 :: Lib.itoa (n : Int)))) rfl rfl rfl (HC.out _)) ?_; go_frame))
  go_ret
  exact ⟨by rw [HD.out]; rfl, HW.out⟩
set_option maxRecDepth 100000 in
set_option maxHeartbeats 800000 in
theorem dec_stepN (n : Nat) (h0 : 10 ≤ n) (h : n ≤ 9223372036854775808) (h1 : ∀ W, Calls Tryd.prog 22 #[.int .i64 (-((n / 10 : Nat) : Int))] W fun e w' => e = .returned (.string (sb (Lib.itoa (-((n / 10 : Nat) : Int))))) ∧ Below W.heap.size W w') (W : World) : Calls Tryd.prog 22 #[.int .i64 (-(n : Int))] W fun e w' => e = .returned (.string (sb (Lib.itoa (-(n : Int))))) ∧ Below W.heap.size W w' := by
  have HD := Lib.hid (itoa_tenN h0)
  have HW := Lib.hid (Below.refl W.heap.size W)
  have t1 : decide (-(n : Int) ≤ -10) = true := decide_eq_true (by omega)
  have t1n : decide ((10 : Int) ≤ (n : Int)) = true := decide_eq_true (by omega)
  have t1m : decide (10 ≤ n) = true := decide_eq_true h0
  have HQ := Lib.hid (quo10N n h)
  have HR := Lib.hid (rem10N n)
  have H1 := Lib.hid h1
  have H2 := Lib.hid (dec_small9 (n % 10) (Nat.mod_lt _ (by decide)))
  have hr10 : n % 10 ≤ 9 := by omega
  have HC := Lib.hid (cat_any (Lib.itoa (-((n / 10 : Nat) : Int))) (Lib.itoa ((n % 10 : Nat) : Int)) (by
    have e1 := itoa_len (n / 10) (by omega); have e2 := itoa_len (n % 10) (by omega)
    have e3 : (Lib.itoa (-((n / 10 : Nat) : Int))).length ≤ 20 := by rw [itoa_neg (by omega), List.length_cons]; omega
    omega))
  clear h1
  generalize hqq : n / 10 = q at HQ H1 HC HD
  generalize hrr : n % 10 = r at HR H2 HC HD hr10
  clear hqq hrr
  go_enter Tryd.func22, Tryd.ntmps22
  go_wp2_with (first | (refine wpList_dst 6 rfl ?_; refine wpList_run 6 rfl rfl _ (exec_bin .quo 3 _ (.tmp 5) _ rfl (.int .i64 (-(n : Int))) (.int .i64 10) (.int .i64 (-(q : Int))) rfl rfl rfl (HQ.out _)) ?_; go_frame) | (refine wpList_dst 9 rfl ?_; refine wpList_run 9 rfl rfl _ (exec_bin .rem 3 _ (.tmp 8) _ rfl (.int .i64 (-(n : Int))) (.int .i64 10) (.int .i64 (-(r : Int))) rfl rfl rfl (HR.out _)) ?_; go_frame) | (refine wpList_dst 10 rfl ?_; refine wpList_run 10 rfl rfl _ (exec_negN (.tmp 9) rfl r (by omega) rfl) ?_; go_frame) | ((with_reducible refine (H1.out _).mono ?_); rintro e w2 ⟨rfl, hb⟩; replace HW := Lib.hid (HW.out.trans (hb.mono HW.out.size)); clear hb) | ((with_reducible refine (H2.out _).mono ?_); rintro e w2 ⟨rfl, hb⟩; replace HW := Lib.hid (HW.out.trans (hb.mono HW.out.size)); clear hb) | (refine wpList_dst 12 rfl ?_; refine wpList_run 12 rfl rfl _ (exec_bin .add 9 _ (.tmp 7) (.tmp 11) rfl (.string (sb (Lib.itoa (-(q : Int))))) (.string (sb (Lib.itoa (r : Int)))) (.string (sb (Lib.itoa (-(q : Int)) ++ Lib.itoa (r : Int)))) rfl rfl rfl (HC.out _)) ?_; go_frame))
  go_ret
  exact ⟨by rw [HD.out]; rfl, HW.out⟩
theorem dec_neg : ∀ (n : Nat), 0 < n → n ≤ 9223372036854775808 → ∀ W, Calls Tryd.prog 22 #[.int .i64 (-(n : Int))] W fun e w' => e = .returned (.string (sb (Lib.itoa (-(n : Int))))) ∧ Below W.heap.size W w' := by
  intro n
  induction n using Nat.strongRecOn with
  | _ n ih =>
    intro h0 h W
    rcases Nat.lt_or_ge n 10 with h1 | h1
    · exact dec_neg9 n h0 h1 W
    · exact dec_stepN n h1 h (fun W => ih (n / 10) (by omega) (by omega) (by omega) W) W
theorem decimal_any (n : Int) (h0 : -9223372036854775808 ≤ n) (h1 : n ≤ 9223372036854775807) (W : World) : Calls Tryd.prog 22 #[.int .i64 (n)] W fun e w' => e = .returned (.string (sb (Lib.itoa (n)))) ∧ Below W.heap.size W w' := by
  rcases Int.lt_or_le n 0 with h | h
  · obtain ⟨k, rfl⟩ : ∃ k : Nat, n = -(k : Int) := ⟨n.natAbs, by omega⟩
    exact dec_neg k (by omega) (by omega) W
  · obtain ⟨k, rfl⟩ : ∃ k : Nat, n = k := ⟨n.toNat, by omega⟩
    exact dec_pos k (by omega) W
end Go.Proofs.YtggjgikpiljoiaaDoor
