/- The walk of LexerJoinsSources. -/
import Derived.Test.YtggjgikpiljoiaaDoorL27
namespace Go.Proofs.YtggjgikpiljoiaaDoor
open Go.RowKit Hm Wm Lx

theorem size_api_Problem : (Tryd.prog.info? 26).map (·.size) = some 2 := by kernel_rfl
theorem fa_api_Problem_0_0 (g : Nat) (W : World) : (Instr.fieldAt 26 (.pointer (some ⟨g, 0, none⟩)) 0).run Tryd.prog W = .ok (.pointer (some ⟨g, 0, none⟩)) W := by kernel_rfl
theorem fa_api_Problem_1_0 (g : Nat) (W : World) : (Instr.fieldAt 26 (.pointer (some ⟨g, 0, none⟩)) 1).run Tryd.prog W = .ok (.pointer (some ⟨g, 1, none⟩)) W := by kernel_rfl
theorem flat_api_Errno (W : World) : (isAgg 24).run Tryd.prog W = .ok false W := by kernel_rfl
theorem size_api_Token : (Tryd.prog.info? 33).map (·.size) = some 4 := by kernel_rfl
theorem tok_gen (l : List UInt8) (hl : l.length ≤ 65536) (w : World) (hE : Env w) :
    Calls Tryd.prog 9 #[.string (sb l)] w fun e w' => (∃ (A : Option Addr) (n c x k : Nat), e = .returned (.tuple #[.slice A n c, .agg #[.int .i64 x, .int .i64 k]])) ∧ Below w.heap.size w w' := by
  cases h : lex l 0 with
  | ok T => exact (tok_ok l T hl w hE h).mono fun e w' ⟨⟨A, c, h1, _⟩, h2⟩ => ⟨⟨A, T.length, c, 0, 0, h1⟩, h2⟩
  | bad x k => exact (tok_no l x k hl h w hE).mono fun e w' ⟨h1, h2⟩ => ⟨⟨none, 0, 0, x, k, h1⟩, h2⟩
theorem cat_any (l m : List UInt8) (h : l.length + m.length ≤ 1000000) (W : World) : (binOp .add 9 (.string (sb l)) (.string (sb m))).run Tryd.prog W = .ok (.string (sb (l ++ m))) W := by
  have := run_concat W (sb l) (sb m) (by rw [sb_size, sb_size]; exact h)
  rwa [sb_list, sb_list] at this
set_option maxRecDepth 100000 in
theorem pb_eqA (a b : Int) (W : World) : (binOp .eql 26 (.agg #[.int .i64 a, .int .i64 b]) (.agg #[.int .i64 a, .int .i64 b])).run Tryd.prog W = .ok (.bool true) W := by
  have u1 := Tryd.underlying3
  have a1 := Tryd.isAgg3
  have z1 := Tryd.sizeOf3
  have u2 := Tryd.underlying24
  have a2 := Tryd.isAgg24
  have z2 := Tryd.sizeOf24
  have hS : Tryd.prog.underlying 26 = some (.struct (Tryd.prog.fieldsOf 26)) := by kernel_rfl
  have hp : Tryd.prog.stoodInHeld 26 = false := by kernel_rfl
  rw [run_eql_struct, show (10000 : Nat) = 9999 + 1 from rfl, run_equalIn_agg W 9999 26 _ _ hS hp]
  simp only [Program.fieldsOf, Tryd.underlying26]
  go_simp
set_option maxRecDepth 100000 in
theorem tk_eqA (k a v : Int) (s : ByteArray) (W : World) : (binOp .eql 33 (.agg #[.int .i64 k, .int .i64 a, .string s, .int .i64 v]) (.agg #[.int .i64 k, .int .i64 a, .string s, .int .i64 v])).run Tryd.prog W = .ok (.bool true) W := by
  have u1 := Tryd.underlying3
  have a1 := Tryd.isAgg3
  have z1 := Tryd.sizeOf3
  have u2 := Tryd.underlying9
  have a2 := Tryd.isAgg9
  have z2 := Tryd.sizeOf9
  have hS : Tryd.prog.underlying 33 = some (.struct (Tryd.prog.fieldsOf 33)) := by kernel_rfl
  have hp : Tryd.prog.stoodInHeld 33 = false := by kernel_rfl
  rw [run_eql_struct, show (10000 : Nat) = 9999 + 1 from rfl, run_equalIn_agg W 9999 33 _ _ hS hp]
  simp only [Program.fieldsOf, Tryd.underlying33]
  go_simp
theorem tk_neA (k a v : Int) (s : ByteArray) (W : World) : (binOp .neq 33 (.agg #[.int .i64 k, .int .i64 a, .string s, .int .i64 v]) (.agg #[.int .i64 k, .int .i64 a, .string s, .int .i64 v])).run Tryd.prog W = .ok (.bool false) W := by
  have h := tk_eqA k a v s W
  simp [binOp] at h ⊢
  generalize Sem.run Tryd.prog (Op.equal 33 (.agg #[.int .i64 k, .int .i64 a, .string s, .int .i64 v]) (.agg #[.int .i64 k, .int .i64 a, .string s, .int .i64 v])) W = R at h ⊢
  cases R <;> simp_all
theorem tk_gdN (x y : Operand) (xs ys : Array Value) (W : World) : (eqGuard .neq 33 x y (.agg xs) (.agg ys)).run Tryd.prog W = .ok () W := run_eqGuard_agg W .neq _ x y xs ys (by kernel_rfl)
theorem wrap_one (a : Nat) (h : a ≤ 9223372036854775806) : IntKind.i64.wrap ((a : Int) + 1) = ((a + 1 : Nat) : Int) := by
  simp [IntKind.wrap, IntKind.bits, IntKind.signed]; omega
theorem wrap_subN (a b c : Nat) (h : a = c + b) (h1 : a ≤ 9223372036854775807) : IntKind.i64.wrap ((a : Int) - (b : Int)) = (c : Int) := by
  subst h
  simp [IntKind.wrap, IntKind.bits, IntKind.signed]; omega
set_option maxRecDepth 100000 in
set_option maxHeartbeats 1500000 in
theorem joins_longa (a b : List UInt8) (w : World) (hE : Env w) (h : 2000 < a.length) : Calls Tryd.prog 5 #[.string (sb a), .string (sb b)] w fun e w' => e = .returned (.bool true) ∧ Below w.heap.size w w' := by
  have hza : (sb a).size = a.length := sb_size a
  have hzb : (sb b).size = b.length := sb_size b
  have HE := Lib.hid hE
  have HW := Lib.hid (Below.refl w.heap.size w)
  have g1 : decide ((2000 : Int) < ((sb a).size : Int)) = true := decide_eq_true (by omega)
  clear hza hzb hE h
  go_enter Tryd.func5, Tryd.ntmps5
  go_upto_region 1 with fail
  refine wp_region_lit ?_
  refine wpList_run 14 rfl rfl (.string (sb a)) (exec_move (.tmp 0) rfl _ rfl) ?_
  go_frame
  refine wpList_run 15 rfl rfl (.int .i64 (sb a).size) (exec_lenS (.tmp 14) rfl (sb a) rfl) ?_
  go_frame
  refine wpList_run 16 rfl rfl (.bool true) (exec_gtrI _ _ _ _ rfl .i64 ((sb a).size) (2000) true g1 rfl rfl) ?_
  go_frame
  refine wpList_runSkip 17 rfl (by first | rfl | kernel_rfl) (.bool true) (exec_move (.tmp 16) rfl _ rfl) 3 [18, 19, 20] (by kernel_rfl) ?_
  simp only [List.drop_succ_cons, List.drop_zero, List.foldl_cons, List.foldl_nil]
  go_frame
  refine wpList_run 21 rfl rfl (.bool true) (exec_pickT _ _ _ rfl (.bool true) rfl rfl) ?_
  go_frame
  refine wpList_nil ?_
  go_wp2_with (first | ((with_reducible refine (sanity_any _ HE.out).mono ?_); rintro e wy ⟨rfl, hb⟩; replace HE := Lib.hid (HE.out.next hb); replace HW := Lib.hid (HW.out.trans (hb.mono HW.out.size)); clear hb))
  go_ret
  exact ⟨rfl, HW.out⟩
set_option maxRecDepth 100000 in
set_option maxHeartbeats 1500000 in
theorem joins_longb (a b : List UInt8) (w : World) (hE : Env w) (h0 : a.length ≤ 2000) (h : 2000 < b.length) : Calls Tryd.prog 5 #[.string (sb a), .string (sb b)] w fun e w' => e = .returned (.bool true) ∧ Below w.heap.size w w' := by
  have hza : (sb a).size = a.length := sb_size a
  have hzb : (sb b).size = b.length := sb_size b
  have HE := Lib.hid hE
  have HW := Lib.hid (Below.refl w.heap.size w)
  have g1 : decide ((2000 : Int) < ((sb a).size : Int)) = false := decide_eq_false (by omega)
  have g2 : decide ((2000 : Int) < ((sb b).size : Int)) = true := decide_eq_true (by omega)
  clear hza hzb hE h
  go_enter Tryd.func5, Tryd.ntmps5
  go_upto_region 1 with fail
  refine wp_region_lit ?_
  refine wpList_run 14 rfl rfl (.string (sb a)) (exec_move (.tmp 0) rfl _ rfl) ?_
  go_frame
  refine wpList_run 15 rfl rfl (.int .i64 (sb a).size) (exec_lenS (.tmp 14) rfl (sb a) rfl) ?_
  go_frame
  refine wpList_run 16 rfl rfl (.bool false) (exec_gtrI _ _ _ _ rfl .i64 ((sb a).size) (2000) false g1 rfl rfl) ?_
  go_frame
  refine wpList_run 17 rfl rfl (.bool false) (exec_move (.tmp 16) rfl _ rfl) ?_
  go_frame
  refine wpList_runG 18 rfl (by first | rfl | kernel_rfl) (.string (sb b)) (exec_move (.tmp 1) rfl _ rfl) ?_
  go_frame
  refine wpList_runG 19 rfl (by first | rfl | kernel_rfl) (.int .i64 (sb b).size) (exec_lenS (.tmp 18) rfl (sb b) rfl) ?_
  go_frame
  refine wpList_runG 20 rfl (by first | rfl | kernel_rfl) (.bool true) (exec_gtrI _ _ _ _ rfl .i64 ((sb b).size) (2000) true g2 rfl rfl) ?_
  go_frame
  refine wpList_run 21 rfl rfl (.bool true) (exec_pickF _ _ _ rfl (.bool true) rfl rfl) ?_
  go_frame
  refine wpList_nil ?_
  go_wp2_with (first | ((with_reducible refine (sanity_any _ HE.out).mono ?_); rintro e wy ⟨rfl, hb⟩; replace HE := Lib.hid (HE.out.next hb); replace HW := Lib.hid (HW.out.trans (hb.mono HW.out.size)); clear hb))
  go_ret
  exact ⟨rfl, HW.out⟩
set_option maxRecDepth 100000 in
set_option maxHeartbeats 1500000 in
theorem joins_bada (a b : List UInt8) (w : World) (hE : Env w) (hla : a.length ≤ 2000) (hlb : b.length ≤ 2000) (x k : Nat) (hk : k ≠ 0) (h : lex a 0 = .bad x k) (hr : lex (a ++ 10 :: b) 0 = .bad x k) : Calls Tryd.prog 5 #[.string (sb a), .string (sb b)] w fun e w' => e = .returned (.bool true) ∧ Below w.heap.size w w' := by
  have hza : (sb a).size = a.length := sb_size a
  have hzb : (sb b).size = b.length := sb_size b
  have HE := Lib.hid hE
  have HW := Lib.hid (Below.refl w.heap.size w)
  have g1 : decide ((2000 : Int) < ((sb a).size : Int)) = false := decide_eq_false (by omega)
  have g2 : decide ((2000 : Int) < ((sb b).size : Int)) = false := decide_eq_false (by omega)
  have HC1 := Lib.hid (show ∀ W, (binOp .add 9 (.string (sb a)) (.string ⟨#[10]⟩)).run Tryd.prog W = .ok (.string (sb (a ++ [10]))) W from fun W => cat_any a [10] (by simp; omega) W)
  have HC2 := Lib.hid (show ∀ W, (binOp .add 9 (.string (sb (a ++ [10]))) (.string (sb b))).run Tryd.prog W = .ok (.string (sb (a ++ 10 :: b))) W from fun W => by
    have := cat_any (a ++ [10]) b (by simp; omega) W
    rwa [List.append_assoc] at this)
  have HrL := Lib.hid (show (a ++ 10 :: b).length ≤ 65536 by rw [List.length_append, List.length_cons]; omega)
  have HhL := Lib.hid (show a.length ≤ 65536 by omega)
  have HqL := Lib.hid (show b.length ≤ 65536 by omega)
  have Hh := Lib.hid h
  have Hr := Lib.hid hr
  have he : ((k : Int) != 0) = true := by rw [bne_iff_ne]; omega
  clear hza hzb hE h hr hk
  go_enter Tryd.func5, Tryd.ntmps5
  go_upto_region 1 with fail
  refine wp_region_lit ?_
  refine wpList_run 14 rfl rfl (.string (sb a)) (exec_move (.tmp 0) rfl _ rfl) ?_
  go_frame
  refine wpList_run 15 rfl rfl (.int .i64 (sb a).size) (exec_lenS (.tmp 14) rfl (sb a) rfl) ?_
  go_frame
  refine wpList_run 16 rfl rfl (.bool false) (exec_gtrI _ _ _ _ rfl .i64 ((sb a).size) (2000) false g1 rfl rfl) ?_
  go_frame
  refine wpList_run 17 rfl rfl (.bool false) (exec_move (.tmp 16) rfl _ rfl) ?_
  go_frame
  refine wpList_runG 18 rfl (by first | rfl | kernel_rfl) (.string (sb b)) (exec_move (.tmp 1) rfl _ rfl) ?_
  go_frame
  refine wpList_runG 19 rfl (by first | rfl | kernel_rfl) (.int .i64 (sb b).size) (exec_lenS (.tmp 18) rfl (sb b) rfl) ?_
  go_frame
  refine wpList_runG 20 rfl (by first | rfl | kernel_rfl) (.bool false) (exec_gtrI _ _ _ _ rfl .i64 ((sb b).size) (2000) false g2 rfl rfl) ?_
  go_frame
  refine wpList_run 21 rfl rfl (.bool false) (exec_pickF _ _ _ rfl (.bool false) rfl rfl) ?_
  go_frame
  refine wpList_nil ?_
  go_upto_region 4 with (first | ((with_reducible refine (tok_no a x k (HhL.out) Hh.out _ HE.out).mono ?_); rintro e a1 ⟨rfl, hb⟩; replace HE := Lib.hid (HE.out.next hb); replace HW := Lib.hid (HW.out.trans (hb.mono HW.out.size)); clear hb) | (refine wpList_new rfl 26 rfl [.int .i64 0, .int .i64 0] pb_zero ?_; intro d1 HP1 HB1) | (refine wpList_store_all rfl 26 (.tmp 6) (.tmp 27) rfl a1.heap.size 26 [.int .i64 0, .int .i64 0] [.int .i64 x, .int .i64 k] rfl rfl HP1.out rfl pb_size (List.forall_mem_cons.2 ⟨rfl, (List.forall_mem_cons.2 ⟨rfl, fun _ h => nomatch h⟩)⟩) ?_; intro f1 HQ1 ho; have hb := HB1.out.trans (ho.below (Nat.le_refl _)); replace HE := Lib.hid (HE.out.next hb); replace HW := Lib.hid (HW.out.trans (hb.mono HW.out.size)); clear hb ho HP1 HB1))
  go_upto_region 5 with (first | ((with_reducible refine (tok_gen b (HqL.out) _ HE.out).mono ?_); rintro e a2 ⟨⟨A2, n2, c2, x2, k2, rfl⟩, hb⟩; replace HE := Lib.hid (HE.out.next hb); replace HW := Lib.hid (HW.out.trans (hb.mono HW.out.size)); replace HQ1 := Lib.hid (HQ1.out.next hb); clear hb) | (refine wpList_new rfl 26 rfl [.int .i64 0, .int .i64 0] pb_zero ?_; intro d2 HP2 HB2) | (refine wpList_store_all rfl 26 (.tmp 8) (.tmp 32) rfl a2.heap.size 26 [.int .i64 0, .int .i64 0] [.int .i64 x2, .int .i64 k2] rfl rfl HP2.out rfl pb_size (List.forall_mem_cons.2 ⟨rfl, (List.forall_mem_cons.2 ⟨rfl, fun _ h => nomatch h⟩)⟩) ?_; intro f2 HQ2 ho; have hb := HB2.out.trans (ho.below (Nat.le_refl _)); replace HE := Lib.hid (HE.out.next hb); replace HW := Lib.hid (HW.out.trans (hb.mono HW.out.size)); replace HQ1 := Lib.hid (HQ1.out.next hb); clear hb ho HP2 HB2))
  go_upto_region 6 with (first | (refine wpList_dst 35 rfl ?_; refine wpList_run 35 rfl rfl _ (exec_bin .add 9 _ (.tmp 34) (.const (.string ⟨#[10]⟩)) rfl (.string (sb a)) (.string ⟨#[10]⟩) (.string (sb (a ++ [10]))) rfl rfl rfl (HC1.out _)) ?_; go_frame) | (refine wpList_dst 37 rfl ?_; refine wpList_run 37 rfl rfl _ (exec_bin .add 9 _ (.tmp 35) (.tmp 36) rfl (.string (sb (a ++ [10]))) (.string (sb b)) (.string (sb (a ++ 10 :: b))) rfl rfl rfl (HC2.out _)) ?_; go_frame) | ((with_reducible refine (tok_no (a ++ 10 :: b) x k (HrL.out) Hr.out _ HE.out).mono ?_); rintro e a3 ⟨rfl, hb⟩; replace HE := Lib.hid (HE.out.next hb); replace HW := Lib.hid (HW.out.trans (hb.mono HW.out.size)); replace HQ1 := Lib.hid (HQ1.out.next hb); clear hb) | (refine wpList_new rfl 26 rfl [.int .i64 0, .int .i64 0] pb_zero ?_; intro d3 HP3 HB3) | (refine wpList_store_all rfl 26 (.tmp 10) (.tmp 40) rfl a3.heap.size 26 [.int .i64 0, .int .i64 0] [.int .i64 x, .int .i64 k] rfl rfl HP3.out rfl pb_size (List.forall_mem_cons.2 ⟨rfl, (List.forall_mem_cons.2 ⟨rfl, fun _ h => nomatch h⟩)⟩) ?_; intro f3 HQ3 ho; have hb := HB3.out.trans (ho.below (Nat.le_refl _)); replace HE := Lib.hid (HE.out.next hb); replace HW := Lib.hid (HW.out.trans (hb.mono HW.out.size)); replace HQ1 := Lib.hid (HQ1.out.next hb); clear hb ho HP3 HB3))
  go_upto_region 7 with (first | (refine wpList_dst 41 rfl ?_; refine wpList_run 41 rfl rfl _ (exec_fieldAddr 26 (.tmp 6) 1 rfl _ _ rfl (pb_f _ 1 (by decide) _)) ?_; go_frame) | (refine wpList_dst 42 rfl ?_; refine wpList_run 42 rfl rfl _ (exec_load 24 (.tmp 41) rfl _ (.int .i64 k) rfl (run_load_cell er_flat (HQ1.out.cell 1))) ?_; go_frame))
  go_wp2_with (first | ((with_reducible refine (sanity_any _ HE.out).mono ?_); rintro e wy ⟨rfl, hb⟩; replace HE := Lib.hid (HE.out.next hb); replace HW := Lib.hid (HW.out.trans (hb.mono HW.out.size)); replace HQ1 := Lib.hid (HQ1.out.next hb); replace HQ3 := Lib.hid (HQ3.out.next hb); clear hb) | (refine wpList_dst 46 rfl ?_; refine wpList_runG 46 rfl rfl _ (exec_load 26 (.tmp 10) rfl _ (.agg #[.int .i64 x, .int .i64 k]) rfl (run_load_part _ 26 _ 0 2 _ [.int .i64 x, .int .i64 k] _ HQ3.out (by simp) Tryd.underlying26 rfl pb_size)) ?_; go_frame) | (refine wpList_dst 47 rfl ?_; refine wpList_runG 47 rfl rfl _ (exec_load 26 (.tmp 6) rfl _ (.agg #[.int .i64 x, .int .i64 k]) rfl (run_load_part _ 26 _ 0 2 _ [.int .i64 x, .int .i64 k] _ HQ1.out (by simp) Tryd.underlying26 rfl pb_size)) ?_; go_frame) | (refine wpList_dst 48 rfl ?_; refine wpList_runG 48 rfl rfl _ (exec_bin .eql 26 _ (.tmp 46) (.tmp 47) rfl (.agg #[.int .i64 x, .int .i64 k]) (.agg #[.int .i64 x, .int .i64 k]) _ rfl rfl (pb_gd _ _ _ _ _) (pb_eqA _ _ _)) ?_; go_frame))
  go_ret
  exact ⟨rfl, HW.out⟩
set_option maxRecDepth 100000 in
set_option maxHeartbeats 1500000 in
theorem joins_badb (a b : List UInt8) (w : World) (hE : Env w) (hla : a.length ≤ 2000) (hlb : b.length ≤ 2000) (T : List Tok) (x k : Nat) (hk : k ≠ 0) (hx : x ≤ 2000) (h : lex a 0 = .ok T) (hq : lex b 0 = .bad x k) (hr : lex (a ++ 10 :: b) 0 = .bad (x + a.length + 1) k) : Calls Tryd.prog 5 #[.string (sb a), .string (sb b)] w fun e w' => e = .returned (.bool true) ∧ Below w.heap.size w w' := by
  have hza : (sb a).size = a.length := sb_size a
  have hzb : (sb b).size = b.length := sb_size b
  have HE := Lib.hid hE
  have HW := Lib.hid (Below.refl w.heap.size w)
  have g1 : decide ((2000 : Int) < ((sb a).size : Int)) = false := decide_eq_false (by omega)
  have g2 : decide ((2000 : Int) < ((sb b).size : Int)) = false := decide_eq_false (by omega)
  have HC1 := Lib.hid (show ∀ W, (binOp .add 9 (.string (sb a)) (.string ⟨#[10]⟩)).run Tryd.prog W = .ok (.string (sb (a ++ [10]))) W from fun W => cat_any a [10] (by simp; omega) W)
  have HC2 := Lib.hid (show ∀ W, (binOp .add 9 (.string (sb (a ++ [10]))) (.string (sb b))).run Tryd.prog W = .ok (.string (sb (a ++ 10 :: b))) W from fun W => by
    have := cat_any (a ++ [10]) b (by simp; omega) W
    rwa [List.append_assoc] at this)
  have HrL := Lib.hid (show (a ++ 10 :: b).length ≤ 65536 by rw [List.length_append, List.length_cons]; omega)
  have HhL := Lib.hid (show a.length ≤ 65536 by omega)
  have HqL := Lib.hid (show b.length ≤ 65536 by omega)
  have Hh := Lib.hid h
  have Hq := Lib.hid hq
  have Hr := Lib.hid hr
  have he : ((k : Int) != 0) = true := by rw [bne_iff_ne]; omega
  have HA1 := Lib.hid (show IntKind.i64.wrap ((x : Int) + ((sb a).size : Int)) = ((x + a.length : Nat) : Int) by rw [hza]; exact wrap_add _ _ (by omega))
  have HA2 := Lib.hid (show IntKind.i64.wrap (((x + a.length : Nat) : Int) + 1) = ((x + a.length + 1 : Nat) : Int) from wrap_one _ (by omega))
  clear hza hzb hE h hq hr hk
  go_enter Tryd.func5, Tryd.ntmps5
  go_upto_region 1 with fail
  refine wp_region_lit ?_
  refine wpList_run 14 rfl rfl (.string (sb a)) (exec_move (.tmp 0) rfl _ rfl) ?_
  go_frame
  refine wpList_run 15 rfl rfl (.int .i64 (sb a).size) (exec_lenS (.tmp 14) rfl (sb a) rfl) ?_
  go_frame
  refine wpList_run 16 rfl rfl (.bool false) (exec_gtrI _ _ _ _ rfl .i64 ((sb a).size) (2000) false g1 rfl rfl) ?_
  go_frame
  refine wpList_run 17 rfl rfl (.bool false) (exec_move (.tmp 16) rfl _ rfl) ?_
  go_frame
  refine wpList_runG 18 rfl (by first | rfl | kernel_rfl) (.string (sb b)) (exec_move (.tmp 1) rfl _ rfl) ?_
  go_frame
  refine wpList_runG 19 rfl (by first | rfl | kernel_rfl) (.int .i64 (sb b).size) (exec_lenS (.tmp 18) rfl (sb b) rfl) ?_
  go_frame
  refine wpList_runG 20 rfl (by first | rfl | kernel_rfl) (.bool false) (exec_gtrI _ _ _ _ rfl .i64 ((sb b).size) (2000) false g2 rfl rfl) ?_
  go_frame
  refine wpList_run 21 rfl rfl (.bool false) (exec_pickF _ _ _ rfl (.bool false) rfl rfl) ?_
  go_frame
  refine wpList_nil ?_
  go_upto_region 4 with (first | ((with_reducible refine (tok_ok a _ (HhL.out) _ HE.out Hh.out).mono ?_); rintro e a1 ⟨⟨A1, c1, rfl, hrd⟩, hb⟩; replace HE := Lib.hid (HE.out.next hb); replace HW := Lib.hid (HW.out.trans (hb.mono HW.out.size)); have HR1 := Lib.hid hrd; clear hrd hb) | (refine wpList_new rfl 26 rfl [.int .i64 0, .int .i64 0] pb_zero ?_; intro d1 HP1 HB1) | (refine wpList_store_all rfl 26 (.tmp 6) (.tmp 27) rfl a1.heap.size 26 [.int .i64 0, .int .i64 0] [.int .i64 0, .int .i64 0] rfl rfl HP1.out rfl pb_size (List.forall_mem_cons.2 ⟨rfl, (List.forall_mem_cons.2 ⟨rfl, fun _ h => nomatch h⟩)⟩) ?_; intro f1 HQ1 ho; have hb := HB1.out.trans (ho.below (Nat.le_refl _)); replace HE := Lib.hid (HE.out.next hb); replace HW := Lib.hid (HW.out.trans (hb.mono HW.out.size)); replace HR1 := Lib.hid (HR1.out.below hb); clear hb ho HP1 HB1))
  go_upto_region 5 with (first | ((with_reducible refine (tok_no b x k (HqL.out) Hq.out _ HE.out).mono ?_); rintro e a2 ⟨rfl, hb⟩; replace HE := Lib.hid (HE.out.next hb); replace HW := Lib.hid (HW.out.trans (hb.mono HW.out.size)); replace HR1 := Lib.hid (HR1.out.below hb); replace HQ1 := Lib.hid (HQ1.out.next hb); clear hb) | (refine wpList_new rfl 26 rfl [.int .i64 0, .int .i64 0] pb_zero ?_; intro d2 HP2 HB2) | (refine wpList_store_all rfl 26 (.tmp 8) (.tmp 32) rfl a2.heap.size 26 [.int .i64 0, .int .i64 0] [.int .i64 x, .int .i64 k] rfl rfl HP2.out rfl pb_size (List.forall_mem_cons.2 ⟨rfl, (List.forall_mem_cons.2 ⟨rfl, fun _ h => nomatch h⟩)⟩) ?_; intro f2 HQ2 ho; have hb := HB2.out.trans (ho.below (Nat.le_refl _)); replace HE := Lib.hid (HE.out.next hb); replace HW := Lib.hid (HW.out.trans (hb.mono HW.out.size)); replace HR1 := Lib.hid (HR1.out.below hb); replace HQ1 := Lib.hid (HQ1.out.next hb); clear hb ho HP2 HB2))
  go_upto_region 6 with (first | (refine wpList_dst 35 rfl ?_; refine wpList_run 35 rfl rfl _ (exec_bin .add 9 _ (.tmp 34) (.const (.string ⟨#[10]⟩)) rfl (.string (sb a)) (.string ⟨#[10]⟩) (.string (sb (a ++ [10]))) rfl rfl rfl (HC1.out _)) ?_; go_frame) | (refine wpList_dst 37 rfl ?_; refine wpList_run 37 rfl rfl _ (exec_bin .add 9 _ (.tmp 35) (.tmp 36) rfl (.string (sb (a ++ [10]))) (.string (sb b)) (.string (sb (a ++ 10 :: b))) rfl rfl rfl (HC2.out _)) ?_; go_frame) | ((with_reducible refine (tok_no (a ++ 10 :: b) (x + a.length + 1 : Nat) k (HrL.out) Hr.out _ HE.out).mono ?_); rintro e a3 ⟨rfl, hb⟩; replace HE := Lib.hid (HE.out.next hb); replace HW := Lib.hid (HW.out.trans (hb.mono HW.out.size)); replace HR1 := Lib.hid (HR1.out.below hb); replace HQ1 := Lib.hid (HQ1.out.next hb); replace HQ2 := Lib.hid (HQ2.out.next hb); clear hb) | (refine wpList_new rfl 26 rfl [.int .i64 0, .int .i64 0] pb_zero ?_; intro d3 HP3 HB3) | (refine wpList_store_all rfl 26 (.tmp 10) (.tmp 40) rfl a3.heap.size 26 [.int .i64 0, .int .i64 0] [.int .i64 (x + a.length + 1 : Nat), .int .i64 k] rfl rfl HP3.out rfl pb_size (List.forall_mem_cons.2 ⟨rfl, (List.forall_mem_cons.2 ⟨rfl, fun _ h => nomatch h⟩)⟩) ?_; intro f3 HQ3 ho; have hb := HB3.out.trans (ho.below (Nat.le_refl _)); replace HE := Lib.hid (HE.out.next hb); replace HW := Lib.hid (HW.out.trans (hb.mono HW.out.size)); replace HR1 := Lib.hid (HR1.out.below hb); replace HQ1 := Lib.hid (HQ1.out.next hb); replace HQ2 := Lib.hid (HQ2.out.next hb); clear hb ho HP3 HB3))
  go_upto_region 8 with (first | (refine wpList_dst 41 rfl ?_; refine wpList_run 41 rfl rfl _ (exec_fieldAddr 26 (.tmp 6) 1 rfl _ _ rfl (pb_f _ 1 (by decide) _)) ?_; go_frame) | (refine wpList_dst 42 rfl ?_; refine wpList_run 42 rfl rfl _ (exec_load 24 (.tmp 41) rfl _ (.int .i64 0) rfl (run_load_cell er_flat (HQ1.out.cell 1))) ?_; go_frame))
  go_upto_region 9 with (first | (refine wpList_dst 50 rfl ?_; refine wpList_run 50 rfl rfl _ (exec_fieldAddr 26 (.tmp 8) 1 rfl _ _ rfl (pb_f _ 1 (by decide) _)) ?_; go_frame) | (refine wpList_dst 51 rfl ?_; refine wpList_run 51 rfl rfl _ (exec_load 24 (.tmp 50) rfl _ (.int .i64 k) rfl (run_load_cell er_flat (HQ2.out.cell 1))) ?_; go_frame))
  refine wp_region_lit ?_
  refine wpList_callF 53 rfl (by first | rfl | kernel_rfl) rfl Tryd.func8 (by kernel_rfl) (by kernel_rfl) #[] rfl (sanity_any _ HE.out) ?_
  rintro e wz ⟨rfl, hb⟩
  replace HE := Lib.hid (HE.out.next hb); replace HW := Lib.hid (HW.out.trans (hb.mono HW.out.size)); replace HR1 := Lib.hid (HR1.out.below hb); replace HQ1 := Lib.hid (HQ1.out.next hb); replace HQ2 := Lib.hid (HQ2.out.next hb); replace HQ3 := Lib.hid (HQ3.out.next hb)
  clear hb
  refine ⟨_, rfl, ?_⟩
  go_frame
  refine wpList_run 54 rfl rfl (.bool true) (exec_move (.tmp 53) rfl _ rfl) ?_
  go_frame
  refine wpList_runG 55 rfl (by first | rfl | kernel_rfl) (.agg #[.int .i64 ((x + a.length + 1 : Nat) : Int), .int .i64 k]) (exec_load 26 (.tmp 10) rfl _ _ rfl (run_load_part _ 26 _ 0 2 _ [.int .i64 ((x + a.length + 1 : Nat) : Int), .int .i64 k] _ HQ3.out (by simp) Tryd.underlying26 rfl size_api_Problem)) ?_
  go_frame
  refine wpList_runG 56 rfl (by first | rfl | kernel_rfl) (.pointer (some ⟨a2.heap.size, 0, none⟩)) (exec_fieldAddr 26 (.tmp 8) 0 rfl _ _ rfl (fa_api_Problem_0_0 _ _)) ?_
  go_frame
  refine wpList_runG 57 rfl (by first | rfl | kernel_rfl) (.int .i64 x) (exec_load 3 (.tmp 56) rfl _ _ rfl (run_load_cell flat_int (HQ2.out.cell 0))) ?_
  go_frame
  refine wpList_runG 58 rfl (by first | rfl | kernel_rfl) (.string (sb a)) (exec_move (.tmp 0) rfl _ rfl) ?_
  go_frame
  refine wpList_runG 59 rfl (by first | rfl | kernel_rfl) (.int .i64 (sb a).size) (exec_lenS (.tmp 58) rfl (sb a) rfl) ?_
  go_frame
  refine wpList_runG 60 rfl (by first | rfl | kernel_rfl) (.int .i64 ((x + a.length : Nat) : Int)) (exec_addI _ _ _ _ rfl _ _ _ rfl rfl HA1.out) ?_
  go_frame
  refine wpList_runG 61 rfl (by first | rfl | kernel_rfl) (.int .i64 ((x + a.length + 1 : Nat) : Int)) (exec_addI _ _ _ _ rfl _ _ _ rfl rfl HA2.out) ?_
  go_frame
  refine wpList_runG 62 rfl (by first | rfl | kernel_rfl) (.pointer (some ⟨a2.heap.size, 1, none⟩)) (exec_fieldAddr 26 (.tmp 8) 1 rfl _ _ rfl (fa_api_Problem_1_0 _ _)) ?_
  go_frame
  refine wpList_runG 63 rfl (by first | rfl | kernel_rfl) (.int .i64 k) (exec_load 24 (.tmp 62) rfl _ _ rfl (run_load_cell flat_api_Errno (HQ2.out.cell 1))) ?_
  go_frame
  refine wpList_runG 64 rfl (by first | rfl | kernel_rfl) (.agg #[.int .i64 ((x + a.length + 1 : Nat) : Int), .int .i64 k]) (exec_buildF 26 #[(0, .tmp 61), (1, .tmp 63)] rfl #[(0, .int .i64 ((x + a.length + 1 : Nat) : Int)), (1, .int .i64 k)] rfl _ (build_pb _ _ _)) ?_
  go_frame
  refine wpList_runG 65 rfl (by first | rfl | kernel_rfl) (.bool true) (exec_bin .eql 26 _ (.tmp 55) (.tmp 64) rfl (.agg #[.int .i64 ((x + a.length + 1 : Nat) : Int), .int .i64 k]) (.agg #[.int .i64 ((x + a.length + 1 : Nat) : Int), .int .i64 k]) _ rfl rfl (pb_gd _ _ _ _ _) (pb_eqA _ _ _)) ?_
  go_frame
  refine wpList_run 66 rfl rfl (.bool true) (exec_pickT _ _ _ rfl (.bool true) rfl rfl) ?_
  go_frame
  refine wpList_run 4 rfl rfl (.bool true) (exec_assign (.tmp 66) rfl _ rfl) ?_
  go_frame
  refine wpList_nil ?_
  go_wp2
  go_ret
  exact ⟨rfl, HW.out⟩
set_option maxRecDepth 100000 in
set_option maxHeartbeats 3000000 in
theorem joins_ok (a b : List UInt8) (w : World) (hE : Env w) (hla : a.length ≤ 2000) (hlb : b.length ≤ 2000) (T V U : List Tok) (n : Nat) (hn : T.length = n + 1) (hTl : T.length ≤ 2001) (hVl : V.length ≤ 2001) (hUl : U.length = n + V.length) (h : lex a 0 = .ok T) (hq : lex b 0 = .ok V) (hr : lex (a ++ 10 :: b) 0 = .ok U)
    (hat : ∀ t ∈ V, t.a ≤ 70000) (hU1 : ∀ k t, k < n → T[k]? = some t → U[k]? = some t) (hU2 : ∀ (j : Nat) t, V[j]? = some t → U[n + j]? = some ⟨t.k, t.a + (a.length + 1), t.s, t.v⟩) : Calls Tryd.prog 5 #[.string (sb a), .string (sb b)] w fun e w' => e = .returned (.bool true) ∧ Below w.heap.size w w' := by
  have hza : (sb a).size = a.length := sb_size a
  have hzb : (sb b).size = b.length := sb_size b
  have HE := Lib.hid hE
  have HW := Lib.hid (Below.refl w.heap.size w)
  have g1 : decide ((2000 : Int) < ((sb a).size : Int)) = false := decide_eq_false (by omega)
  have g2 : decide ((2000 : Int) < ((sb b).size : Int)) = false := decide_eq_false (by omega)
  have HC1 := Lib.hid (show ∀ W, (binOp .add 9 (.string (sb a)) (.string ⟨#[10]⟩)).run Tryd.prog W = .ok (.string (sb (a ++ [10]))) W from fun W => cat_any a [10] (by simp; omega) W)
  have HC2 := Lib.hid (show ∀ W, (binOp .add 9 (.string (sb (a ++ [10]))) (.string (sb b))).run Tryd.prog W = .ok (.string (sb (a ++ 10 :: b))) W from fun W => by
    have := cat_any (a ++ [10]) b (by simp; omega) W
    rwa [List.append_assoc] at this)
  have HrL := Lib.hid (show (a ++ 10 :: b).length ≤ 65536 by rw [List.length_append, List.length_cons]; omega)
  have HhL := Lib.hid (show a.length ≤ 65536 by omega)
  have HqL := Lib.hid (show b.length ≤ 65536 by omega)
  have Hh := Lib.hid h
  have Hq := Lib.hid hq
  have Hr := Lib.hid hr
  have HU1 := Lib.hid hU1
  have HU2 := Lib.hid hU2
  have HAT := Lib.hid hat
  have HSN := Lib.hid (show IntKind.i64.wrap ((T.length : Int) - 1) = (n : Int) from wrap_subN T.length 1 n (by omega) (by omega))
  have HAV := Lib.hid (show IntKind.i64.wrap ((n : Int) + (V.length : Int)) = ((n + V.length : Nat) : Int) from wrap_add _ _ (by omega))
  have HD1 := Lib.hid (show IntKind.i64.wrap (((sb a).size : Int) + 1) = ((a.length + 1 : Nat) : Int) by rw [hza]; exact wrap_one _ (by omega))
  have g75 : decide ((n : Int) < 0) = false := decide_eq_false (by omega)
  have g84 : (!((U.length : Int) == ((n + V.length : Nat) : Int))) = false := by rw [hUl]; simp
  have hn1 : T.length ≤ n + 1 := by omega
  have hn2 : n + 1 ≤ T.length := by omega
  have hl1 : U.length ≤ n + V.length := by omega
  have hl2 : n + V.length ≤ U.length := by omega
  clear hza hzb hE h hq hr hU1 hU2 hat hn hUl
  go_enter Tryd.func5, Tryd.ntmps5
  go_upto_region 1 with fail
  refine wp_region_lit ?_
  refine wpList_run 14 rfl rfl (.string (sb a)) (exec_move (.tmp 0) rfl _ rfl) ?_
  go_frame
  refine wpList_run 15 rfl rfl (.int .i64 (sb a).size) (exec_lenS (.tmp 14) rfl (sb a) rfl) ?_
  go_frame
  refine wpList_run 16 rfl rfl (.bool false) (exec_gtrI _ _ _ _ rfl .i64 ((sb a).size) (2000) false g1 rfl rfl) ?_
  go_frame
  refine wpList_run 17 rfl rfl (.bool false) (exec_move (.tmp 16) rfl _ rfl) ?_
  go_frame
  refine wpList_runG 18 rfl (by first | rfl | kernel_rfl) (.string (sb b)) (exec_move (.tmp 1) rfl _ rfl) ?_
  go_frame
  refine wpList_runG 19 rfl (by first | rfl | kernel_rfl) (.int .i64 (sb b).size) (exec_lenS (.tmp 18) rfl (sb b) rfl) ?_
  go_frame
  refine wpList_runG 20 rfl (by first | rfl | kernel_rfl) (.bool false) (exec_gtrI _ _ _ _ rfl .i64 ((sb b).size) (2000) false g2 rfl rfl) ?_
  go_frame
  refine wpList_run 21 rfl rfl (.bool false) (exec_pickF _ _ _ rfl (.bool false) rfl rfl) ?_
  go_frame
  refine wpList_nil ?_
  go_upto_region 4 with (first | ((with_reducible refine (tok_ok a _ (HhL.out) _ HE.out Hh.out).mono ?_); rintro e a1 ⟨⟨A1, c1, rfl, hrd⟩, hb⟩; replace HE := Lib.hid (HE.out.next hb); replace HW := Lib.hid (HW.out.trans (hb.mono HW.out.size)); have HR1 := Lib.hid hrd; clear hrd hb) | (refine wpList_new rfl 26 rfl [.int .i64 0, .int .i64 0] pb_zero ?_; intro d1 HP1 HB1) | (refine wpList_store_all rfl 26 (.tmp 6) (.tmp 27) rfl a1.heap.size 26 [.int .i64 0, .int .i64 0] [.int .i64 0, .int .i64 0] rfl rfl HP1.out rfl pb_size (List.forall_mem_cons.2 ⟨rfl, (List.forall_mem_cons.2 ⟨rfl, fun _ h => nomatch h⟩)⟩) ?_; intro f1 HQ1 ho; have hb := HB1.out.trans (ho.below (Nat.le_refl _)); replace HE := Lib.hid (HE.out.next hb); replace HW := Lib.hid (HW.out.trans (hb.mono HW.out.size)); replace HR1 := Lib.hid (HR1.out.below hb); clear hb ho HP1 HB1))
  go_upto_region 5 with (first | ((with_reducible refine (tok_ok b _ (HqL.out) _ HE.out Hq.out).mono ?_); rintro e a2 ⟨⟨A2, c2, rfl, hrd⟩, hb⟩; replace HE := Lib.hid (HE.out.next hb); replace HW := Lib.hid (HW.out.trans (hb.mono HW.out.size)); replace HR1 := Lib.hid (HR1.out.below hb); replace HQ1 := Lib.hid (HQ1.out.next hb); have HR2 := Lib.hid hrd; clear hrd hb) | (refine wpList_new rfl 26 rfl [.int .i64 0, .int .i64 0] pb_zero ?_; intro d2 HP2 HB2) | (refine wpList_store_all rfl 26 (.tmp 8) (.tmp 32) rfl a2.heap.size 26 [.int .i64 0, .int .i64 0] [.int .i64 0, .int .i64 0] rfl rfl HP2.out rfl pb_size (List.forall_mem_cons.2 ⟨rfl, (List.forall_mem_cons.2 ⟨rfl, fun _ h => nomatch h⟩)⟩) ?_; intro f2 HQ2 ho; have hb := HB2.out.trans (ho.below (Nat.le_refl _)); replace HE := Lib.hid (HE.out.next hb); replace HW := Lib.hid (HW.out.trans (hb.mono HW.out.size)); replace HR1 := Lib.hid (HR1.out.below hb); replace HQ1 := Lib.hid (HQ1.out.next hb); replace HR2 := Lib.hid (HR2.out.below hb); clear hb ho HP2 HB2))
  go_upto_region 6 with (first | (refine wpList_dst 35 rfl ?_; refine wpList_run 35 rfl rfl _ (exec_bin .add 9 _ (.tmp 34) (.const (.string ⟨#[10]⟩)) rfl (.string (sb a)) (.string ⟨#[10]⟩) (.string (sb (a ++ [10]))) rfl rfl rfl (HC1.out _)) ?_; go_frame) | (refine wpList_dst 37 rfl ?_; refine wpList_run 37 rfl rfl _ (exec_bin .add 9 _ (.tmp 35) (.tmp 36) rfl (.string (sb (a ++ [10]))) (.string (sb b)) (.string (sb (a ++ 10 :: b))) rfl rfl rfl (HC2.out _)) ?_; go_frame) | ((with_reducible refine (tok_ok (a ++ 10 :: b) _ (HrL.out) _ HE.out Hr.out).mono ?_); rintro e a3 ⟨⟨A3, c3, rfl, hrd⟩, hb⟩; replace HE := Lib.hid (HE.out.next hb); replace HW := Lib.hid (HW.out.trans (hb.mono HW.out.size)); replace HR1 := Lib.hid (HR1.out.below hb); replace HQ1 := Lib.hid (HQ1.out.next hb); replace HR2 := Lib.hid (HR2.out.below hb); replace HQ2 := Lib.hid (HQ2.out.next hb); have HR3 := Lib.hid hrd; clear hrd hb) | (refine wpList_new rfl 26 rfl [.int .i64 0, .int .i64 0] pb_zero ?_; intro d3 HP3 HB3) | (refine wpList_store_all rfl 26 (.tmp 10) (.tmp 40) rfl a3.heap.size 26 [.int .i64 0, .int .i64 0] [.int .i64 0, .int .i64 0] rfl rfl HP3.out rfl pb_size (List.forall_mem_cons.2 ⟨rfl, (List.forall_mem_cons.2 ⟨rfl, fun _ h => nomatch h⟩)⟩) ?_; intro f3 HQ3 ho; have hb := HB3.out.trans (ho.below (Nat.le_refl _)); replace HE := Lib.hid (HE.out.next hb); replace HW := Lib.hid (HW.out.trans (hb.mono HW.out.size)); replace HR1 := Lib.hid (HR1.out.below hb); replace HQ1 := Lib.hid (HQ1.out.next hb); replace HR2 := Lib.hid (HR2.out.below hb); replace HQ2 := Lib.hid (HQ2.out.next hb); replace HR3 := Lib.hid (HR3.out.below hb); clear hb ho HP3 HB3))
  go_upto_region 8 with (first | (refine wpList_dst 41 rfl ?_; refine wpList_run 41 rfl rfl _ (exec_fieldAddr 26 (.tmp 6) 1 rfl _ _ rfl (pb_f _ 1 (by decide) _)) ?_; go_frame) | (refine wpList_dst 42 rfl ?_; refine wpList_run 42 rfl rfl _ (exec_load 24 (.tmp 41) rfl _ (.int .i64 0) rfl (run_load_cell er_flat (HQ1.out.cell 1))) ?_; go_frame))
  go_upto_region 10 with (first | (refine wpList_dst 50 rfl ?_; refine wpList_run 50 rfl rfl _ (exec_fieldAddr 26 (.tmp 8) 1 rfl _ _ rfl (pb_f _ 1 (by decide) _)) ?_; go_frame) | (refine wpList_dst 51 rfl ?_; refine wpList_run 51 rfl rfl _ (exec_load 24 (.tmp 50) rfl _ (.int .i64 0) rfl (run_load_cell er_flat (HQ2.out.cell 1))) ?_; go_frame))
  refine wp_region_lit ?_
  refine wpList_run 67 rfl rfl (.slice A1 T.length c1) (exec_move (.tmp 5) rfl _ rfl) ?_
  go_frame
  refine wpList_run 68 rfl rfl (.int .i64 T.length) (exec_lenT (.tmp 67) rfl _ T.length _ rfl) ?_
  go_frame
  refine wpList_run 69 rfl rfl (.int .i64 n) (exec_subI _ _ _ _ rfl _ _ _ rfl rfl HSN.out) ?_
  go_frame
  refine wpList_run 11 rfl rfl (.int .i64 n) (exec_assign (.tmp 69) rfl _ rfl) ?_
  go_frame
  refine wpList_nil ?_
  go_upto_region 11 with fail
  refine wp_region_lit ?_
  refine wpList_run 70 rfl rfl (.pointer (some ⟨a3.heap.size, 1, none⟩)) (exec_fieldAddr 26 (.tmp 10) 1 rfl _ _ rfl (fa_api_Problem_1_0 _ _)) ?_
  go_frame
  refine wpList_run 71 rfl rfl (.int .i64 0) (exec_load 24 (.tmp 70) rfl _ _ rfl (run_load_cell flat_api_Errno (HQ3.out.cell 1))) ?_
  go_frame
  refine wpList_run 72 rfl rfl (.bool false) (exec_neqT _ _ _ _ rfl .i64 (0) rfl rfl) ?_
  go_frame
  refine wpList_run 73 rfl rfl (.bool false) (exec_move (.tmp 72) rfl _ rfl) ?_
  go_frame
  refine wpList_runG 74 rfl (by first | rfl | kernel_rfl) (.int .i64 n) (exec_move (.tmp 11) rfl _ rfl) ?_
  go_frame
  refine wpList_runG 75 rfl (by first | rfl | kernel_rfl) (.bool false) (exec_lssI' _ _ _ _ rfl .i64 (n) (0) false g75 rfl rfl) ?_
  go_frame
  refine wpList_run 76 rfl rfl (.bool false) (exec_pickF _ _ _ rfl (.bool false) rfl rfl) ?_
  go_frame
  refine wpList_run 77 rfl rfl (.bool false) (exec_move (.tmp 76) rfl _ rfl) ?_
  go_frame
  refine wpList_runG 78 rfl (by first | rfl | kernel_rfl) (.slice A3 U.length c3) (exec_move (.tmp 9) rfl _ rfl) ?_
  go_frame
  refine wpList_runG 79 rfl (by first | rfl | kernel_rfl) (.int .i64 U.length) (exec_lenT (.tmp 78) rfl _ U.length _ rfl) ?_
  go_frame
  refine wpList_runG 80 rfl (by first | rfl | kernel_rfl) (.int .i64 n) (exec_move (.tmp 11) rfl _ rfl) ?_
  go_frame
  refine wpList_runG 81 rfl (by first | rfl | kernel_rfl) (.slice A2 V.length c2) (exec_move (.tmp 7) rfl _ rfl) ?_
  go_frame
  refine wpList_runG 82 rfl (by first | rfl | kernel_rfl) (.int .i64 V.length) (exec_lenT (.tmp 81) rfl _ V.length _ rfl) ?_
  go_frame
  refine wpList_runG 83 rfl (by first | rfl | kernel_rfl) (.int .i64 ((n + V.length : Nat) : Int)) (exec_addI _ _ _ _ rfl _ _ _ rfl rfl HAV.out) ?_
  go_frame
  refine wpList_runG 84 rfl (by first | rfl | kernel_rfl) (.bool false) (exec_neqlI _ _ _ _ rfl .i64 (U.length) (((n + V.length : Nat) : Int)) false g84 rfl rfl) ?_
  go_frame
  refine wpList_run 85 rfl rfl (.bool false) (exec_pickF _ _ _ rfl (.bool false) rfl rfl) ?_
  go_frame
  refine wpList_nil ?_
  go_wp2_with fail
  go_loopw [12] (fun a' wr => ∃ k : Nat, a' = .int .i64 k ∧ k ≤ U.length ∧ Hid (Env wr) ∧ Hid (RdT wr A1 (T.map toT)) ∧ Hid (RdT wr A2 (V.map toT)) ∧ Hid (RdT wr A3 (U.map toT)) ∧ Hid (Below w.heap.size w wr)) (fun a' _ => U.length - (intOf a').toNat)
  case atStart => exact ⟨0, rfl, Nat.zero_le _, HE, HR1, HR2, HR3, HW⟩
  case round =>
    clear HE HR1 HR2 HR3 HW HQ1 HQ2 HQ3 HC1 HC2 HrL HhL HqL Hh Hq Hr HSN HAV
    obtain ⟨k, rfl, hk, HE, HR1, HR2, HR3, HW⟩ := hrel
    by_cases hlt : k < U.length
    · by_cases hkn : k < n
      · obtain ⟨t, ht⟩ : ∃ t, T[k]? = some t := ⟨T[k]'(by omega), List.getElem?_eq_getElem _⟩
        have hu := HU1.out k t hkn ht
        have m1 : decide ((k : Int) < (n : Int)) = true := decide_eq_true (by omega)
        have m1n : decide (k < n) = true := decide_eq_true hkn
        obtain ⟨b1, o1, rfl, hc⟩ := HR1.out.at (show (T.map toT)[k]? = some (toT t) by rw [List.getElem?_map, ht]; rfl)
        have hkT : k < T.length := by omega
        obtain ⟨b3, o3, rfl, hc3⟩ := HR3.out.at (show (U.map toT)[k]? = some _ by rw [List.getElem?_map, hu]; rfl)
        obtain ⟨tk, ta, ts, tv⟩ := t
        simp only [toT] at hc hc3
        have HC := Lib.hid hc
        have HE0 := HE
        have HR10 := HR1
        have HR20 := HR2
        have HR30 := HR3
        have HC3 := Lib.hid hc3
        have h1 : decide (((k : Nat) : Int) < (U.length : Int)) = true := decide_eq_true (by omega)
        have h1n : decide (k < U.length) = true := decide_eq_true hlt
        clear hc hc3 ht hu HU1 HU2 HAT
        go_upto_region 18 with (first | (refine wpList_new rfl 33 rfl zT tk_zero ?_; intro w1 HP HB; replace HE := Lib.hid (HE.out.next HB.out); replace HR1 := Lib.hid (HR1.out.below HB.out); replace HR2 := Lib.hid (HR2.out.below HB.out); replace HR3 := Lib.hid (HR3.out.below HB.out); have HC1 := Lib.hid (range_below' HC.out HB.out); have HD3 := Lib.hid (range_below' HC3.out HB.out)))
        go_upto_region 21 with (first | (refine wpList_dst 97 rfl ?_; refine wpList_run 97 rfl rfl _ (exec_atT (.tmp 95) (.tmp 96) rfl b1 o1 _ c1 k hkT rfl rfl) ?_; go_frame) | (refine wpList_dst 98 rfl ?_; refine wpList_run 98 rfl rfl _ (exec_loadT (.tmp 97) rfl b1 _ ⟨tk, ta, sb ts, tv⟩ rfl HC1.out) ?_; go_frame) | (refine wpList_store_all rfl 33 (.tmp 13) (.tmp 98) rfl wr.heap.size 33 zT [.int .i64 tk, .int .i64 ta, .string (sb ts), .int .i64 tv] rfl rfl HP.out rfl tk_size (List.forall_mem_cons.2 ⟨rfl, (List.forall_mem_cons.2 ⟨rfl, (List.forall_mem_cons.2 ⟨rfl, (List.forall_mem_cons.2 ⟨rfl, fun _ h => nomatch h⟩)⟩)⟩)⟩) ?_; intro w2 HX ho; have hb := HB.out.trans (ho.below (Nat.le_refl _)); clear ho HP HE HR1 HR2 HR3 HC1 HD3; have HE := Lib.hid (HE0.out.next hb); have HR1 := Lib.hid (HR10.out.below hb); have HR2 := Lib.hid (HR20.out.below hb); have HR3 := Lib.hid (HR30.out.below hb); have HC3b := Lib.hid (range_below' HC3.out hb); have HWb := Lib.hid (HW.out.trans (hb.mono HW.out.size)); clear HB))
        clear HE0 HR10 HR20 HR30 HC3 HC HW
        refine late_begin (S := fun _ W => W.rangeAt b3 (o3 + k * 4) (cT ⟨tk, ta, sb ts, tv⟩) ∧ Blk W wr.heap.size 33 [.int .i64 tk, .int .i64 ta, .string (sb ts), .int .i64 tv]) (by kernel_rfl) ?_
        have hE0 := HE.out.next (Below.refl _ _).drew
        have hR10 := HR1.out.below (Below.refl _ _).drew
        have hR20 := HR2.out.below (Below.refl _ _).drew
        have hR30 := HR3.out.below (Below.refl _ _).drew
        have hWb0 := HWb.out.drew
        have hC3b0 := range_below' HC3b.out (Below.refl _ _).drew
        have hX0 := HX.out.drew
        generalize w2.drew = u0 at hE0 hR10 hR20 hR30 hWb0 hC3b0 hX0 ⊢
        clear HE HR1 HR2 HR3 HWb HC3b HX
        refine late_take [] (i := 0) (some 112) rfl rfl (by first | rfl | kernel_rfl) (by kernel_rfl) (by kernel_rfl) (by kernel_rfl) (by kernel_rfl) (by kernel_rfl) (fun Ls W h => h) (.slice (some ⟨b3, o3, none⟩) U.length c3) (fun _ _ _ h => h) (fun Ls W hl0 hW => exec_move (.tmp 9) rfl _ rfl) ⟨hC3b0, hX0⟩ ⟨hC3b0, hX0⟩ ?_
        go_frame
        refine late_take [] (i := 1) (some 113) rfl rfl (by first | rfl | kernel_rfl) (by kernel_rfl) (by kernel_rfl) (by kernel_rfl) (by kernel_rfl) (by kernel_rfl) (fun Ls W h => h) (.int .i64 k) (fun _ _ _ h => h) (fun Ls W hl0 hW => exec_move (.tmp 12) rfl _ rfl) ⟨hC3b0, hX0⟩ ⟨hC3b0, hX0⟩ ?_
        go_frame
        refine late_take [] (i := 2) (some 114) rfl rfl (by first | rfl | kernel_rfl) (by kernel_rfl) (by kernel_rfl) (by kernel_rfl) (by kernel_rfl) (by kernel_rfl) (fun Ls W h => h) (.pointer (some ⟨b3, o3 + k * 4, none⟩)) (fun _ _ _ h => h) (fun Ls W hl0 hW => exec_atT (.tmp 112) (.tmp 113) rfl b3 o3 _ c3 k hlt rfl rfl) ⟨hC3b0, hX0⟩ ⟨hC3b0, hX0⟩ ?_
        go_frame
        refine late_take [] (i := 3) (some 115) rfl rfl (by first | rfl | kernel_rfl) (by kernel_rfl) (by kernel_rfl) (by kernel_rfl) (by kernel_rfl) (by kernel_rfl) (fun Ls W h => h) (.agg #[.int .i64 tk, .int .i64 ta, .string (sb ts), .int .i64 tv]) (fun _ _ _ h => h) (fun Ls W hl0 hW => exec_loadT (.tmp 114) rfl b3 _ ⟨tk, ta, sb ts, tv⟩ rfl hW.1) ⟨hC3b0, hX0⟩ ⟨hC3b0, hX0⟩ ?_
        go_frame
        refine late_take [] (i := 4) (some 116) rfl rfl (by first | rfl | kernel_rfl) (by kernel_rfl) (by kernel_rfl) (by kernel_rfl) (by kernel_rfl) (by kernel_rfl) (fun Ls W h => h) (.agg #[.int .i64 tk, .int .i64 ta, .string (sb ts), .int .i64 tv]) (fun _ _ _ h => h) (fun Ls W hl0 hW => exec_load 33 (.tmp 13) rfl _ _ rfl (run_load_part W 33 _ 0 4 _ [.int .i64 tk, .int .i64 ta, .string (sb ts), .int .i64 tv] _ hW.2 (by simp) Tryd.underlying33 rfl size_api_Token)) ⟨hC3b0, hX0⟩ ⟨hC3b0, hX0⟩ ?_
        go_frame
        refine late_take [] (i := 5) (some 117) rfl rfl (by first | rfl | kernel_rfl) (by kernel_rfl) (by kernel_rfl) (by kernel_rfl) (by kernel_rfl) (by kernel_rfl) (fun Ls W h => h) (.bool false) (fun _ _ _ h => h) (fun Ls W hl0 hW => exec_bin .neq 33 _ (.tmp 115) (.tmp 116) rfl (.agg #[.int .i64 tk, .int .i64 ta, .string (sb ts), .int .i64 tv]) (.agg #[.int .i64 tk, .int .i64 ta, .string (sb ts), .int .i64 tv]) _ rfl rfl (tk_gdN _ _ _ _ _) (tk_neA _ _ _ _ _)) ⟨hC3b0, hX0⟩ ⟨hC3b0, hX0⟩ ?_
        refine late_done (by kernel_rfl) ?_ _
        go_frame
        have HE := Lib.hid hE0
        have HR1 := Lib.hid hR10
        have HR2 := Lib.hid hR20
        have HR3 := Lib.hid hR30
        have HWb := Lib.hid hWb0
        have HC3b := Lib.hid hC3b0
        have HX := Lib.hid hX0
        clear hE0 hR10 hR20 hR30 hWb0 hC3b0 hX0
        go_wp2_with fail
        go_roundw
        case rel => first | exact ⟨k + 1, by go_num, by omega, HE, HR1, HR2, HR3, HWb⟩ | ((repeat apply Exists.intro); exact ⟨⟨k + 1, by go_num, by omega, HE, HR1, HR2, HR3, HWb⟩, rfl⟩)
        case measure => simp [intOf]; omega
      · obtain ⟨j, rfl⟩ : ∃ j, k = n + j := ⟨k - n, by omega⟩
        obtain ⟨t, ht⟩ : ∃ t, V[j]? = some t := ⟨V[j]'(by omega), List.getElem?_eq_getElem _⟩
        have hu := HU2.out j t ht
        have hta := HAT.out t (List.mem_of_getElem? ht)
        have m1 : decide (((n + j : Nat) : Int) < (n : Int)) = false := decide_eq_false (by omega)
        have m1n : decide (n + j < n) = false := decide_eq_false (by omega)
        have HSJ := Lib.hid (show IntKind.i64.wrap (((n + j : Nat) : Int) - (n : Int)) = (j : Int) from wrap_subN (n + j) n j (by omega) (by omega))
        obtain ⟨b1, o1, rfl, hc⟩ := HR2.out.at (show (V.map toT)[j]? = some (toT t) by rw [List.getElem?_map, ht]; rfl)
        have hkT : j < V.length := by omega
        obtain ⟨b3, o3, rfl, hc3⟩ := HR3.out.at (show (U.map toT)[(n + j)]? = some _ by rw [List.getElem?_map, hu]; rfl)
        obtain ⟨tk, ta, ts, tv⟩ := t
        simp only [toT] at hc hc3 hta
        have HC := Lib.hid hc
        have HE0 := HE
        have HR10 := HR1
        have HR20 := HR2
        have HR30 := HR3
        have HC3 := Lib.hid hc3
        have HTA := Lib.hid (show IntKind.i64.wrap ((ta : Int) + ((a.length + 1 : Nat) : Int)) = ((ta + (a.length + 1) : Nat) : Int) from wrap_add _ _ (by omega))
        have h1 : decide ((((n + j) : Nat) : Int) < (U.length : Int)) = true := decide_eq_true (by omega)
        have h1n : decide ((n + j) < U.length) = true := decide_eq_true hlt
        clear hc hc3 ht hu HU1 HU2 HAT
        go_upto_region 19 with (first | (refine wpList_new rfl 33 rfl zT tk_zero ?_; intro w1 HP HB; replace HE := Lib.hid (HE.out.next HB.out); replace HR1 := Lib.hid (HR1.out.below HB.out); replace HR2 := Lib.hid (HR2.out.below HB.out); replace HR3 := Lib.hid (HR3.out.below HB.out); have HC1 := Lib.hid (range_below' HC.out HB.out); have HD3 := Lib.hid (range_below' HC3.out HB.out)))
        go_upto_region 20 with (first | (refine wpList_dst 102 rfl ?_; refine wpList_run 102 rfl rfl _ (exec_subI _ (.tmp 100) (.tmp 101) _ rfl _ _ _ rfl rfl HSJ.out) ?_; go_frame) | (refine wpList_dst 103 rfl ?_; refine wpList_run 103 rfl rfl _ (exec_atT (.tmp 99) (.tmp 102) rfl b1 o1 _ c2 j hkT rfl rfl) ?_; go_frame) | (refine wpList_dst 104 rfl ?_; refine wpList_run 104 rfl rfl _ (exec_loadT (.tmp 103) rfl b1 _ ⟨tk, ta, sb ts, tv⟩ rfl HC1.out) ?_; go_frame) | (refine wpList_store_all rfl 33 (.tmp 13) (.tmp 104) rfl wr.heap.size 33 zT [.int .i64 tk, .int .i64 ta, .string (sb ts), .int .i64 tv] rfl rfl HP.out rfl tk_size (List.forall_mem_cons.2 ⟨rfl, (List.forall_mem_cons.2 ⟨rfl, (List.forall_mem_cons.2 ⟨rfl, (List.forall_mem_cons.2 ⟨rfl, fun _ h => nomatch h⟩)⟩)⟩)⟩) ?_; intro w2 HX ho; have hb := HB.out.trans (ho.below (Nat.le_refl _)); clear ho HP HE HR1 HR2 HR3 HC1 HD3; have HE := Lib.hid (HE0.out.next hb); have HR1 := Lib.hid (HR10.out.below hb); have HR2 := Lib.hid (HR20.out.below hb); have HR3 := Lib.hid (HR30.out.below hb); have HC3b := Lib.hid (range_below' HC3.out hb); have HWb := Lib.hid (HW.out.trans (hb.mono HW.out.size)); have HBx := Lib.hid hb; clear HB))
        go_upto_region 21 with (first | (refine wpList_dst 105 rfl ?_; refine wpList_run 105 rfl rfl _ (exec_fieldAddr 33 (.tmp 13) 1 rfl _ _ rfl (fa_api_Token_1_0 _ _)) ?_; go_frame) | (refine wpList_dst 106 rfl ?_; refine wpList_run 106 rfl rfl _ (exec_load 3 (.tmp 105) rfl _ (.int .i64 ta) rfl (run_load_cell int_flat (HX.out.cell 1))) ?_; go_frame) | (refine wpList_dst 108 rfl ?_; refine wpList_run 108 rfl rfl _ (exec_lenS (.tmp 107) rfl (sb a) rfl) ?_; go_frame) | (refine wpList_dst 109 rfl ?_; refine wpList_run 109 rfl rfl _ (exec_addI _ (.tmp 108) _ _ rfl _ _ _ rfl rfl HD1.out) ?_; go_frame) | (refine wpList_dst 110 rfl ?_; refine wpList_run 110 rfl rfl _ (exec_addI _ (.tmp 106) (.tmp 109) _ rfl _ _ _ rfl rfl HTA.out) ?_; go_frame) | (refine wpList_dst 111 rfl ?_; refine wpList_run 111 rfl rfl _ (exec_fieldAddr 33 (.tmp 13) 1 rfl _ _ rfl (fa_api_Token_1_0 _ _)) ?_; go_frame) | (refine wpList_store_at rfl 3 (.tmp 111) (.tmp 110) rfl wr.heap.size 1 33 [.int .i64 tk, .int .i64 ta, .string (sb ts), .int .i64 tv] (.int .i64 ((ta + (a.length + 1) : Nat) : Int)) rfl rfl HX.out (by simp) int_size rfl rfl ?_; intro w3 HX3 ho; have HX2 := Lib.hid (show Blk w3 wr.heap.size 33 [.int .i64 tk, .int .i64 ((ta + (a.length + 1) : Nat) : Int), .string (sb ts), .int .i64 tv] from HX3.out); have hb := ho.below (Nat.le_refl wr.heap.size); clear HX HX3; replace HE := Lib.hid (HE.out.low hb (by have := HE0.out.sz; omega)); have HQQ := Lib.hid hb; clear ho hb))
        have HBB := Lib.hid (show Below wr.heap.size wr w3 from HBx.out.trans HQQ.out)
        replace HR1 := Lib.hid (HR10.out.below HBB.out)
        replace HR2 := Lib.hid (HR20.out.below HBB.out)
        replace HR3 := Lib.hid (HR30.out.below HBB.out)
        replace HC3b := Lib.hid (range_below' HC3.out HBB.out)
        replace HWb := Lib.hid (HW.out.trans (HBB.out.mono HW.out.size))
        clear HBB HQQ HBx
        have HX := HX2
        clear HX2
        clear HE0 HR10 HR20 HR30 HC3 HC HW
        refine late_begin (S := fun _ W => W.rangeAt b3 (o3 + (n + j) * 4) (cT ⟨tk, ((ta + (a.length + 1) : Nat) : Int), sb ts, tv⟩) ∧ Blk W wr.heap.size 33 [.int .i64 tk, .int .i64 ((ta + (a.length + 1) : Nat) : Int), .string (sb ts), .int .i64 tv]) (by kernel_rfl) ?_
        have hE0 := HE.out.next (Below.refl _ _).drew
        have hR10 := HR1.out.below (Below.refl _ _).drew
        have hR20 := HR2.out.below (Below.refl _ _).drew
        have hR30 := HR3.out.below (Below.refl _ _).drew
        have hWb0 := HWb.out.drew
        have hC3b0 := range_below' HC3b.out (Below.refl _ _).drew
        have hX0 := HX.out.drew
        generalize w3.drew = u0 at hE0 hR10 hR20 hR30 hWb0 hC3b0 hX0 ⊢
        clear HE HR1 HR2 HR3 HWb HC3b HX
        refine late_take [] (i := 0) (some 112) rfl rfl (by first | rfl | kernel_rfl) (by kernel_rfl) (by kernel_rfl) (by kernel_rfl) (by kernel_rfl) (by kernel_rfl) (fun Ls W h => h) (.slice (some ⟨b3, o3, none⟩) U.length c3) (fun _ _ _ h => h) (fun Ls W hl0 hW => exec_move (.tmp 9) rfl _ rfl) ⟨hC3b0, hX0⟩ ⟨hC3b0, hX0⟩ ?_
        go_frame
        refine late_take [] (i := 1) (some 113) rfl rfl (by first | rfl | kernel_rfl) (by kernel_rfl) (by kernel_rfl) (by kernel_rfl) (by kernel_rfl) (by kernel_rfl) (fun Ls W h => h) (.int .i64 ((n + j : Nat) : Int)) (fun _ _ _ h => h) (fun Ls W hl0 hW => exec_move (.tmp 12) rfl _ rfl) ⟨hC3b0, hX0⟩ ⟨hC3b0, hX0⟩ ?_
        go_frame
        refine late_take [] (i := 2) (some 114) rfl rfl (by first | rfl | kernel_rfl) (by kernel_rfl) (by kernel_rfl) (by kernel_rfl) (by kernel_rfl) (by kernel_rfl) (fun Ls W h => h) (.pointer (some ⟨b3, o3 + (n + j) * 4, none⟩)) (fun _ _ _ h => h) (fun Ls W hl0 hW => exec_atT (.tmp 112) (.tmp 113) rfl b3 o3 _ c3 (n + j) hlt rfl rfl) ⟨hC3b0, hX0⟩ ⟨hC3b0, hX0⟩ ?_
        go_frame
        refine late_take [] (i := 3) (some 115) rfl rfl (by first | rfl | kernel_rfl) (by kernel_rfl) (by kernel_rfl) (by kernel_rfl) (by kernel_rfl) (by kernel_rfl) (fun Ls W h => h) (.agg #[.int .i64 tk, .int .i64 ((ta + (a.length + 1) : Nat) : Int), .string (sb ts), .int .i64 tv]) (fun _ _ _ h => h) (fun Ls W hl0 hW => exec_loadT (.tmp 114) rfl b3 _ ⟨tk, ((ta + (a.length + 1) : Nat) : Int), sb ts, tv⟩ rfl hW.1) ⟨hC3b0, hX0⟩ ⟨hC3b0, hX0⟩ ?_
        go_frame
        refine late_take [] (i := 4) (some 116) rfl rfl (by first | rfl | kernel_rfl) (by kernel_rfl) (by kernel_rfl) (by kernel_rfl) (by kernel_rfl) (by kernel_rfl) (fun Ls W h => h) (.agg #[.int .i64 tk, .int .i64 ((ta + (a.length + 1) : Nat) : Int), .string (sb ts), .int .i64 tv]) (fun _ _ _ h => h) (fun Ls W hl0 hW => exec_load 33 (.tmp 13) rfl _ _ rfl (run_load_part W 33 _ 0 4 _ [.int .i64 tk, .int .i64 ((ta + (a.length + 1) : Nat) : Int), .string (sb ts), .int .i64 tv] _ hW.2 (by simp) Tryd.underlying33 rfl size_api_Token)) ⟨hC3b0, hX0⟩ ⟨hC3b0, hX0⟩ ?_
        go_frame
        refine late_take [] (i := 5) (some 117) rfl rfl (by first | rfl | kernel_rfl) (by kernel_rfl) (by kernel_rfl) (by kernel_rfl) (by kernel_rfl) (by kernel_rfl) (fun Ls W h => h) (.bool false) (fun _ _ _ h => h) (fun Ls W hl0 hW => exec_bin .neq 33 _ (.tmp 115) (.tmp 116) rfl (.agg #[.int .i64 tk, .int .i64 ((ta + (a.length + 1) : Nat) : Int), .string (sb ts), .int .i64 tv]) (.agg #[.int .i64 tk, .int .i64 ((ta + (a.length + 1) : Nat) : Int), .string (sb ts), .int .i64 tv]) _ rfl rfl (tk_gdN _ _ _ _ _) (tk_neA _ _ _ _ _)) ⟨hC3b0, hX0⟩ ⟨hC3b0, hX0⟩ ?_
        refine late_done (by kernel_rfl) ?_ _
        go_frame
        have HE := Lib.hid hE0
        have HR1 := Lib.hid hR10
        have HR2 := Lib.hid hR20
        have HR3 := Lib.hid hR30
        have HWb := Lib.hid hWb0
        have HC3b := Lib.hid hC3b0
        have HX := Lib.hid hX0
        clear hE0 hR10 hR20 hR30 hWb0 hC3b0 hX0
        go_wp2_with fail
        go_roundw
        case rel => first | exact ⟨(n + j) + 1, by go_num, by omega, HE, HR1, HR2, HR3, HWb⟩ | ((repeat apply Exists.intro); exact ⟨⟨(n + j) + 1, by go_num, by omega, HE, HR1, HR2, HR3, HWb⟩, rfl⟩)
        case measure => simp [intOf]; omega
    · obtain rfl : k = U.length := by omega
      have h1 : decide ((U.length : Int) < (U.length : Int)) = false := decide_eq_false (by omega)
      go_wp2_with (first | ((with_reducible refine (sanity_any _ HE.out).mono ?_); rintro e wy ⟨rfl, hb⟩; replace HE := Lib.hid (HE.out.next hb); replace HW := Lib.hid (HW.out.trans (hb.mono HW.out.size)); clear hb))
      go_ret
      exact ⟨rfl, HW.out⟩
theorem walk_joins (s r : ByteArray) (w : World) (hE : Env w) : Calls Tryd.prog 5 #[.string s, .string r] w fun e w' => e = .returned (.bool true) ∧ Below w.heap.size w w' := by
  rw [(sb_of s).symm, (sb_of r).symm]
  generalize s.data.toList = a
  generalize r.data.toList = b
  rcases Nat.lt_or_ge 2000 a.length with h | h
  · exact joins_longa a b w hE h
  · rcases Nat.lt_or_ge 2000 b.length with h2 | h2
    · exact joins_longb a b w hE h h2
    · have hj := lex_join b a 0
      have hsh := lex_shift (a.length + 1) b 0
      rw [Nat.zero_add] at hsh
      rw [Nat.zero_add, hsh] at hj
      cases hx : lex a 0 with
      | bad x k =>
        rw [hx] at hj
        exact joins_bada a b w hE h h2 x k (lex_codes hx) hx hj
      | ok T =>
        rw [hx] at hj
        cases hy : lex b 0 with
        | bad x k =>
          rw [hy] at hj
          obtain ⟨p, q, V, e1, e2, e3, e4⟩ := lex_stop b 0 x k hy
          have hll : b.length = p.length + q.length := by rw [e1, List.length_append]
          exact joins_badb a b w hE h h2 T x k (lex_codes hy) (by omega) hx hy hj
        | ok V =>
          rw [hy] at hj
          have h3 := (lex_small a 0 T hx).1
          have h4 := (lex_small b 0 V hy).1
          have h5 := lex_nonempty hx
          have hat : ∀ t ∈ V, t.a ≤ 70000 := fun t ht => by
            obtain ⟨i, hi⟩ := List.getElem?_of_mem ht
            obtain ⟨p, q, e1, e2, _⟩ := lex_pre b 0 V i t hy hi
            have hll : b.length = p.length + q.length := by rw [e1, List.length_append]
            omega
          refine joins_ok a b w hE h h2 T V _ (T.length - 1) (by omega) (by omega) (by omega) (by simp) hx hy hj hat (fun k t hk ht => ?_) (fun j t ht => ?_)
          · rw [List.getElem?_append_left (by simpa using hk), List.getElem?_dropLast, if_pos hk]; exact ht
          · rw [List.getElem?_append_right (by simp), List.length_dropLast, Nat.add_sub_cancel_left, List.getElem?_map, ht]; rfl
end Go.Proofs.YtggjgikpiljoiaaDoor
