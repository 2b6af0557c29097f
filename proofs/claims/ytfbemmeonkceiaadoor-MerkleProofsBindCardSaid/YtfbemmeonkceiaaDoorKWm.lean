/- The walk of MerkleProofsMatchSpec. -/
import Derived.Test.YtfbemmeonkceiaaDoorKRr4
import Derived.Test.YtfbemmeonkceiaaDoorKW0
namespace Go.Proofs.YtfbemmeonkceiaaDoor
open Go.RowKit Hm Wm

theorem pa_field0 (g : Nat) (W : World) : (Instr.fieldAt 28 (.pointer (some ⟨g, 0, none⟩)) 0).run Tryd.prog W = .ok (.pointer (some ⟨g, 0, none⟩)) W := by kernel_rfl
theorem pa_field1 (g : Nat) (W : World) : (Instr.fieldAt 28 (.pointer (some ⟨g, 0, none⟩)) 1).run Tryd.prog W = .ok (.pointer (some ⟨g, 1, none⟩)) W := by kernel_rfl
theorem errno_flat (W : World) : (isAgg 24).run Tryd.prog W = .ok false W := by kernel_rfl
theorem same_yes (A B : Option Addr) (c d : Nat) (T : List Dg) (w : World) (ha : RdD w A T) (hb : RdD w B T) (hl : T.length ≤ 1000) :
    Calls Tryd.prog 17 #[.slice A T.length c, .slice B T.length d] w fun e w' => e = .returned (.bool true) ∧ Below w.heap.size w w' := by
  have h := same_any A B c d T T w ha hb (by omega)
  rw [decide_eq_true rfl] at h
  exact h
theorem exec_eqErr {oi : Oper} {a : Act} {w : World} (t : TypeId) (x y : Operand) (rt : TypeId) (ho : oi.op = .binOp .eql t x y rt) (m : Int) (hx : a.eval x = .int .i64 m) (hy : a.eval y = .int .i64 m) : (execOp a.eval oi).run Tryd.prog w = .ok (.value (.bool true)) w := by
  have h := exec_eqI (P := Tryd.prog) (w := w) t x y rt ho .i64 m m hx hy
  rwa [show ((m : Int) == (m : Int)) = true from by simp] at h

set_option maxRecDepth 1000000 in
set_option maxHeartbeats 4000000 in
theorem walkMatch_out (A : Option Addr) (n c : Nat) (i m : Int) (s : ByteArray) (w : World) (hg : All w) (h : 40 < n ∨ 200 < s.size) :
    Calls Tryd.prog 3 #[.slice A n c, .int .i64 i, .int .i64 m, .string s] w fun e w' => e = .returned (.bool true) ∧ Below w.heap.size w w' := by
  have HS := Lib.hid (sanity_any w hg)
  by_cases hn : 40 < n
  all_goals
    first
      | (have d1 : decide ((40 : Int) < (n : Int)) = true := decide_eq_true (by omega)
         clear h hg
         go_enter Tryd.func3, Tryd.ntmps3
         go_wp2_with fail
         refine HS.out.mono ?_
         rintro e w1 ⟨rfl, hb⟩
         have HB := Lib.hid hb
         clear hb
         go_wp2
         go_ret
         exact ⟨rfl, HB.out⟩)
      | (have d1 : decide ((40 : Int) < (n : Int)) = false := decide_eq_false (by omega)
         have d2 : decide ((200 : Int) < (s.size : Int)) = true := decide_eq_true (by omega)
         clear h hg
         go_enter Tryd.func3, Tryd.ntmps3
         go_wp2_with fail
         refine HS.out.mono ?_
         rintro e w1 ⟨rfl, hb⟩
         have HB := Lib.hid hb
         clear hb
         go_wp2
         go_ret
         exact ⟨rfl, HB.out⟩)

set_option maxRecDepth 1000000 in
set_option maxHeartbeats 4000000 in
theorem walkMatch_in (A : Option Addr) (c : Nat) (l : List Dg) (i m : Int) (s : ByteArray) (w : World) (hg : All w) (hr : RdD w A l) (hc : l.length ≤ c) (hn : l.length ≤ 40) (hs : s.size ≤ 200) :
    Calls Tryd.prog 3 #[.slice A l.length c, .int .i64 i, .int .i64 m, .string s] w fun e w' => e = .returned (.bool true) ∧ Below w.heap.size w w' := by
  obtain ⟨T1, e1, ht1, hI1, hI2⟩ := incl_both l A c i hc hn
  obtain ⟨T2, e2, ht2, hC1, hC2⟩ := cons_both l A c m hc hn
  have hR1 := fun W (h1 : All W) (h2 : RdD W A l) => root_any l.length l A c W (Nat.le_refl _) hc (by omega) h1.1 h2
  have hR2 := fun W (h1 : All W) (h2 : RdD W A l) => rroot_any l.length l A c W (Nat.le_refl _) hc (by omega) h1.2.2 h2
  have hL1 := fun W (h1 : All W) => leaf_any s W h1.1 (by omega)
  have hL2 := fun W (h1 : All W) => rleaf_any s W h1.2.2 (by omega)
  obtain ⟨r0, hr0⟩ : ∃ d, rootD l = d := ⟨_, rfl⟩
  obtain ⟨lf, hlf⟩ : ∃ d, leafD s = d := ⟨_, rfl⟩
  rw [hr0] at hR1 hR2
  rw [hlf] at hL1 hL2
  have hN1 := fun W (h1 : All W) => node_any lf r0 W h1.1
  have hN2 := fun W (h1 : All W) => rnode_any lf r0 W h1.2.2
  obtain ⟨nd, hnd⟩ : ∃ d, nodeD lf r0 = d := ⟨_, rfl⟩
  rw [hnd] at hN1 hN2
  have HI1 := Lib.hid hI1
  have HI2 := Lib.hid hI2
  have HC1 := Lib.hid hC1
  have HC2 := Lib.hid hC2
  have HR1 := Lib.hid hR1
  have HR2 := Lib.hid hR2
  have HL1 := Lib.hid hL1
  have HL2 := Lib.hid hL2
  have HN1 := Lib.hid hN1
  have HN2 := Lib.hid hN2
  have HT1 := Lib.hid ht1
  have HT2 := Lib.hid ht2
  have d1 : decide ((40 : Int) < (l.length : Int)) = false := decide_eq_false (by omega)
  have d2 : decide ((200 : Int) < (s.size : Int)) = false := decide_eq_false (by omega)
  have GL := Lib.hid hg
  have R := Lib.hid hr
  have B := Lib.hid (Below.refl w.heap.size w)
  clear hI1 hI2 hC1 hC2 hR1 hR2 hL1 hL2 hN1 hN2 ht1 ht2 hg hr hc hn hs hr0 hlf hnd
  go_enter Tryd.func3, Tryd.ntmps3
  go_wp2_with fail
  refine (HI1.out _ GL.out R.out).mono ?_
  rintro e v1 ⟨r, rfl, ⟨A9, c9, rfl, h5, -⟩, hb⟩
  replace GL := Lib.hid (GL.out.next hb)
  replace R := Lib.hid (R.out.next hb)
  replace B := Lib.hid (B.out.trans (hb.mono B.out.size))
  have R9 := Lib.hid h5
  clear hb h5
  go_wp2_with fail
  refine (HC1.out _ GL.out R.out).mono ?_
  rintro e v2 ⟨r, rfl, ⟨A11, c11, rfl, h5, -⟩, hb⟩
  replace GL := Lib.hid (GL.out.next hb)
  replace R := Lib.hid (R.out.next hb)
  replace R9 := Lib.hid (R9.out.next hb)
  replace B := Lib.hid (B.out.trans (hb.mono B.out.size))
  have R11 := Lib.hid h5
  clear hb h5
  go_wp2_with fail
  refine (HI2.out _ GL.out R.out).mono ?_
  rintro e v3 ⟨r, rfl, ⟨A13, c13, rfl, h5, -⟩, hb⟩
  replace GL := Lib.hid (GL.out.next hb)
  replace R := Lib.hid (R.out.next hb)
  replace R9 := Lib.hid (R9.out.next hb)
  replace R11 := Lib.hid (R11.out.next hb)
  replace B := Lib.hid (B.out.trans (hb.mono B.out.size))
  have R13 := Lib.hid h5
  clear hb h5
  go_wp2_with (refine wpList_var rfl rfl 28 13 rfl rfl rfl (.tmp 40) rfl (pac (.slice none 0 0) 0) (pac (.slice A13 T1.length c13) e1) pa_zero rfl rfl rfl pa_size (pac_one _ _ _ _) ?_; intro x4 K13 D; replace GL := Lib.hid (GL.out.next D.out); replace R := Lib.hid (R.out.next D.out); replace R9 := Lib.hid (R9.out.next D.out); replace R11 := Lib.hid (R11.out.next D.out); replace R13 := Lib.hid (R13.out.next D.out); replace B := Lib.hid (B.out.trans (D.out.mono B.out.size)); clear D)
  refine (HC2.out _ GL.out R.out).mono ?_
  rintro e v5 ⟨r, rfl, ⟨A14, c14, rfl, h5, -⟩, hb⟩
  replace GL := Lib.hid (GL.out.next hb)
  replace R := Lib.hid (R.out.next hb)
  replace R9 := Lib.hid (R9.out.next hb)
  replace R11 := Lib.hid (R11.out.next hb)
  replace R13 := Lib.hid (R13.out.next hb)
  replace K13 := Lib.hid (K13.out.next hb)
  replace B := Lib.hid (B.out.trans (hb.mono B.out.size))
  have R14 := Lib.hid h5
  clear hb h5
  go_wp2_with (refine wpList_var rfl rfl 28 14 rfl rfl rfl (.tmp 43) rfl (pac (.slice none 0 0) 0) (pac (.slice A14 T2.length c14) e2) pa_zero rfl rfl rfl pa_size (pac_one _ _ _ _) ?_; intro x6 K14 D; replace GL := Lib.hid (GL.out.next D.out); replace R := Lib.hid (R.out.next D.out); replace R9 := Lib.hid (R9.out.next D.out); replace R11 := Lib.hid (R11.out.next D.out); replace R13 := Lib.hid (R13.out.next D.out); replace K13 := Lib.hid (K13.out.next D.out); replace R14 := Lib.hid (R14.out.next D.out); replace B := Lib.hid (B.out.trans (D.out.mono B.out.size)); clear D)
  refine (HL1.out _ GL.out).mono ?_
  rintro e v7 ⟨rfl, hb⟩
  replace GL := Lib.hid (GL.out.next hb)
  replace R := Lib.hid (R.out.next hb)
  replace R9 := Lib.hid (R9.out.next hb)
  replace R11 := Lib.hid (R11.out.next hb)
  replace R13 := Lib.hid (R13.out.next hb)
  replace K13 := Lib.hid (K13.out.next hb)
  replace R14 := Lib.hid (R14.out.next hb)
  replace K14 := Lib.hid (K14.out.next hb)
  replace B := Lib.hid (B.out.trans (hb.mono B.out.size))
  clear hb
  go_wp2_with (refine wpList_var rfl rfl 31 15 rfl rfl rfl (.tmp 45) rfl (zb 16) (dc lf) dg_zero rfl rfl (dd_len _) (dd_size _) (dc_one _) ?_; intro x8 K15 D; replace GL := Lib.hid (GL.out.next D.out); replace R := Lib.hid (R.out.next D.out); replace R9 := Lib.hid (R9.out.next D.out); replace R11 := Lib.hid (R11.out.next D.out); replace R13 := Lib.hid (R13.out.next D.out); replace K13 := Lib.hid (K13.out.next D.out); replace R14 := Lib.hid (R14.out.next D.out); replace K14 := Lib.hid (K14.out.next D.out); replace B := Lib.hid (B.out.trans (D.out.mono B.out.size)); clear D)
  refine (HR1.out _ GL.out R.out).mono ?_
  rintro e v9 ⟨rfl, hb⟩
  replace GL := Lib.hid (GL.out.next hb)
  replace R := Lib.hid (R.out.next hb)
  replace R9 := Lib.hid (R9.out.next hb)
  replace R11 := Lib.hid (R11.out.next hb)
  replace R13 := Lib.hid (R13.out.next hb)
  replace K13 := Lib.hid (K13.out.next hb)
  replace R14 := Lib.hid (R14.out.next hb)
  replace K14 := Lib.hid (K14.out.next hb)
  replace K15 := Lib.hid (K15.out.next hb)
  replace B := Lib.hid (B.out.trans (hb.mono B.out.size))
  clear hb
  go_wp2_with (refine wpList_var rfl rfl 31 16 rfl rfl rfl (.tmp 47) rfl (zb 16) (dc r0) dg_zero rfl rfl (dd_len _) (dd_size _) (dc_one _) ?_; intro x10 K16 D; replace GL := Lib.hid (GL.out.next D.out); replace R := Lib.hid (R.out.next D.out); replace R9 := Lib.hid (R9.out.next D.out); replace R11 := Lib.hid (R11.out.next D.out); replace R13 := Lib.hid (R13.out.next D.out); replace K13 := Lib.hid (K13.out.next D.out); replace R14 := Lib.hid (R14.out.next D.out); replace K14 := Lib.hid (K14.out.next D.out); replace K15 := Lib.hid (K15.out.next D.out); replace B := Lib.hid (B.out.trans (D.out.mono B.out.size)); clear D)
  refine wp_region_held_drew (S := fun W => Below x10.heap.size x10 W) (by kernel_rfl) (Below.refl _ _).drew (fun hS => ?_)
  generalize x10.drew = w1 at hS ⊢
  refine reg_callG (i := 0) (some 48) rfl rfl rfl (by kernel_rfl) rfl Tryd.func9 (by kernel_rfl) (by kernel_rfl) #[] rfl (sanity_any w1 (GL.out.next hS)) ?_
  rintro e w2 ⟨rfl, hb⟩
  have hS2 := hS.trans (hb.mono hS.size)
  refine ⟨_, rfl, hS2, ?_⟩
  go_frame
  clear hb
  refine reg_valueG (i := 1) (some 49) rfl rfl rfl (by kernel_rfl) (.bool true) (exec_move (.tmp 48) rfl _ rfl) hS2 ?_
  go_frame
  refine reg_takeG (i := 2) (some 50) rfl rfl rfl (by kernel_rfl) (by kernel_rfl) (by kernel_rfl) (dv r0) (fun _ _ _ h => h) (fun W hW => exec_loadB (.tmp 16) rfl rfl (K16.out.next hW)) hS2 ?_
  go_frame
  refine reg_takeG (i := 3) (some 51) rfl rfl rfl (by kernel_rfl) (by kernel_rfl) (by kernel_rfl) (.slice A l.length c) (fun _ _ _ h => h) (fun W hW => exec_move (.tmp 0) rfl _ rfl) hS2 ?_
  go_frame
  refine reg_callG (i := 4) (some 52) rfl rfl rfl (by kernel_rfl) rfl Tryd.func16 (by kernel_rfl) (by kernel_rfl) #[.slice A l.length c] rfl (HR2.out w2 (GL.out.next hS2) (R.out.next hS2)) ?_
  rintro e w3 ⟨rfl, hb⟩
  have hS3 := hS2.trans (hb.mono hS2.size)
  refine ⟨_, rfl, hS3, ?_⟩
  go_frame
  clear hb
  refine reg_valueG (i := 5) (some 53) rfl rfl rfl (by kernel_rfl) (.bool true) (exec_sameD (.tmp 50) (.tmp 52) _ rfl r0 rfl rfl) hS3 ?_
  go_frame
  refine reg_valueG (i := 6) (some 54) rfl rfl rfl (by kernel_rfl) (.bool true) (exec_pick (.tmp 49) (.tmp 53) (.const (.bool false)) rfl _ rfl rfl) hS3 ?_
  go_frame
  refine reg_valueG (i := 7) (some 55) rfl rfl rfl (by kernel_rfl) (.bool true) (exec_move (.tmp 54) rfl _ rfl) hS3 ?_
  go_frame
  refine reg_takeG (i := 8) (some 56) rfl rfl rfl (by kernel_rfl) (by kernel_rfl) (by kernel_rfl) (.slice A9 T1.length c9) (fun _ _ _ h => h) (fun W hW => exec_move (.tmp 9) rfl _ rfl) hS3 ?_
  go_frame
  refine reg_takeG (i := 9) (some 57) rfl rfl rfl (by kernel_rfl) (by kernel_rfl) (by kernel_rfl) (.pointer (some ⟨v3.heap.size, 0, none⟩)) (fun _ _ _ h => h) (fun W hW => exec_fieldAddr _ (.tmp 13) 0 rfl _ _ rfl (pa_field0 _ W)) hS3 ?_
  go_frame
  refine reg_takeG (i := 10) (some 58) rfl rfl rfl (by kernel_rfl) (by kernel_rfl) (by kernel_rfl) (.slice A13 T1.length c13) (fun _ _ _ h => h) (fun W hW => exec_load 22 (.tmp 57) rfl _ _ rfl (run_load_cell ds_flat ((K13.out.next hW).cell 0))) hS3 ?_
  go_frame
  refine reg_callG (i := 11) (some 59) rfl rfl rfl (by kernel_rfl) rfl Tryd.func17 (by kernel_rfl) (by kernel_rfl) #[.slice A9 T1.length c9, .slice A13 T1.length c13] rfl (same_yes A9 A13 c9 c13 T1 w3 (R9.out.next hS3) (R13.out.next hS3) HT1.out) ?_
  rintro e w4 ⟨rfl, hb⟩
  have hS4 := hS3.trans (hb.mono hS3.size)
  refine ⟨_, rfl, hS4, ?_⟩
  go_frame
  clear hb
  refine reg_valueG (i := 12) (some 60) rfl rfl rfl (by kernel_rfl) (.bool true) (exec_pick (.tmp 55) (.tmp 59) (.const (.bool false)) rfl _ rfl rfl) hS4 ?_
  go_frame
  refine reg_valueG (i := 13) (some 61) rfl rfl rfl (by kernel_rfl) (.bool true) (exec_move (.tmp 60) rfl _ rfl) hS4 ?_
  go_frame
  refine reg_takeG (i := 14) (some 62) rfl rfl rfl (by kernel_rfl) (by kernel_rfl) (by kernel_rfl) (.int .i64 e1) (fun _ _ _ h => h) (fun W hW => exec_move (.tmp 10) rfl _ rfl) hS4 ?_
  go_frame
  refine reg_takeG (i := 15) (some 63) rfl rfl rfl (by kernel_rfl) (by kernel_rfl) (by kernel_rfl) (.pointer (some ⟨v3.heap.size, 1, none⟩)) (fun _ _ _ h => h) (fun W hW => exec_fieldAddr _ (.tmp 13) 1 rfl _ _ rfl (pa_field1 _ W)) hS4 ?_
  go_frame
  refine reg_takeG (i := 16) (some 64) rfl rfl rfl (by kernel_rfl) (by kernel_rfl) (by kernel_rfl) (.int .i64 e1) (fun _ _ _ h => h) (fun W hW => exec_load 24 (.tmp 63) rfl _ _ rfl (run_load_cell errno_flat ((K13.out.next hW).cell 1))) hS4 ?_
  go_frame
  refine reg_valueG (i := 17) (some 65) rfl rfl rfl (by kernel_rfl) (.bool true) (exec_eqErr _ (.tmp 62) (.tmp 64) _ rfl e1 rfl rfl) hS4 ?_
  go_frame
  refine reg_valueG (i := 18) (some 66) rfl rfl rfl (by kernel_rfl) (.bool true) (exec_pick (.tmp 61) (.tmp 65) (.const (.bool false)) rfl _ rfl rfl) hS4 ?_
  go_frame
  refine reg_valueG (i := 19) (some 67) rfl rfl rfl (by kernel_rfl) (.bool true) (exec_move (.tmp 66) rfl _ rfl) hS4 ?_
  go_frame
  refine reg_takeG (i := 20) (some 68) rfl rfl rfl (by kernel_rfl) (by kernel_rfl) (by kernel_rfl) (.slice A11 T2.length c11) (fun _ _ _ h => h) (fun W hW => exec_move (.tmp 11) rfl _ rfl) hS4 ?_
  go_frame
  refine reg_takeG (i := 21) (some 69) rfl rfl rfl (by kernel_rfl) (by kernel_rfl) (by kernel_rfl) (.pointer (some ⟨v5.heap.size, 0, none⟩)) (fun _ _ _ h => h) (fun W hW => exec_fieldAddr _ (.tmp 14) 0 rfl _ _ rfl (pa_field0 _ W)) hS4 ?_
  go_frame
  refine reg_takeG (i := 22) (some 70) rfl rfl rfl (by kernel_rfl) (by kernel_rfl) (by kernel_rfl) (.slice A14 T2.length c14) (fun _ _ _ h => h) (fun W hW => exec_load 22 (.tmp 69) rfl _ _ rfl (run_load_cell ds_flat ((K14.out.next hW).cell 0))) hS4 ?_
  go_frame
  refine reg_callG (i := 23) (some 71) rfl rfl rfl (by kernel_rfl) rfl Tryd.func17 (by kernel_rfl) (by kernel_rfl) #[.slice A11 T2.length c11, .slice A14 T2.length c14] rfl (same_yes A11 A14 c11 c14 T2 w4 (R11.out.next hS4) (R14.out.next hS4) HT2.out) ?_
  rintro e w5 ⟨rfl, hb⟩
  have hS5 := hS4.trans (hb.mono hS4.size)
  refine ⟨_, rfl, hS5, ?_⟩
  go_frame
  clear hb
  refine reg_valueG (i := 24) (some 72) rfl rfl rfl (by kernel_rfl) (.bool true) (exec_pick (.tmp 67) (.tmp 71) (.const (.bool false)) rfl _ rfl rfl) hS5 ?_
  go_frame
  refine reg_valueG (i := 25) (some 73) rfl rfl rfl (by kernel_rfl) (.bool true) (exec_move (.tmp 72) rfl _ rfl) hS5 ?_
  go_frame
  refine reg_takeG (i := 26) (some 74) rfl rfl rfl (by kernel_rfl) (by kernel_rfl) (by kernel_rfl) (.int .i64 e2) (fun _ _ _ h => h) (fun W hW => exec_move (.tmp 12) rfl _ rfl) hS5 ?_
  go_frame
  refine reg_takeG (i := 27) (some 75) rfl rfl rfl (by kernel_rfl) (by kernel_rfl) (by kernel_rfl) (.pointer (some ⟨v5.heap.size, 1, none⟩)) (fun _ _ _ h => h) (fun W hW => exec_fieldAddr _ (.tmp 14) 1 rfl _ _ rfl (pa_field1 _ W)) hS5 ?_
  go_frame
  refine reg_takeG (i := 28) (some 76) rfl rfl rfl (by kernel_rfl) (by kernel_rfl) (by kernel_rfl) (.int .i64 e2) (fun _ _ _ h => h) (fun W hW => exec_load 24 (.tmp 75) rfl _ _ rfl (run_load_cell errno_flat ((K14.out.next hW).cell 1))) hS5 ?_
  go_frame
  refine reg_valueG (i := 29) (some 77) rfl rfl rfl (by kernel_rfl) (.bool true) (exec_eqErr _ (.tmp 74) (.tmp 76) _ rfl e2 rfl rfl) hS5 ?_
  go_frame
  refine reg_valueG (i := 30) (some 78) rfl rfl rfl (by kernel_rfl) (.bool true) (exec_pick (.tmp 73) (.tmp 77) (.const (.bool false)) rfl _ rfl rfl) hS5 ?_
  go_frame
  refine reg_valueG (i := 31) (some 79) rfl rfl rfl (by kernel_rfl) (.bool true) (exec_move (.tmp 78) rfl _ rfl) hS5 ?_
  go_frame
  refine reg_takeG (i := 32) (some 80) rfl rfl rfl (by kernel_rfl) (by kernel_rfl) (by kernel_rfl) (dv lf) (fun _ _ _ h => h) (fun W hW => exec_loadB (.tmp 15) rfl rfl (K15.out.next hW)) hS5 ?_
  go_frame
  refine reg_takeG (i := 33) (some 81) rfl rfl rfl (by kernel_rfl) (by kernel_rfl) (by kernel_rfl) (.string s) (fun _ _ _ h => h) (fun W hW => exec_move (.tmp 3) rfl _ rfl) hS5 ?_
  go_frame
  refine reg_callG (i := 34) (some 82) rfl rfl rfl (by kernel_rfl) rfl Tryd.func18 (by kernel_rfl) (by kernel_rfl) #[.string s] rfl (HL2.out w5 (GL.out.next hS5)) ?_
  rintro e w6 ⟨rfl, hb⟩
  have hS6 := hS5.trans (hb.mono hS5.size)
  refine ⟨_, rfl, hS6, ?_⟩
  go_frame
  clear hb
  refine reg_valueG (i := 35) (some 83) rfl rfl rfl (by kernel_rfl) (.bool true) (exec_sameD (.tmp 80) (.tmp 82) _ rfl lf rfl rfl) hS6 ?_
  go_frame
  refine reg_valueG (i := 36) (some 84) rfl rfl rfl (by kernel_rfl) (.bool true) (exec_pick (.tmp 79) (.tmp 83) (.const (.bool false)) rfl _ rfl rfl) hS6 ?_
  go_frame
  refine reg_valueG (i := 37) (some 85) rfl rfl rfl (by kernel_rfl) (.bool true) (exec_move (.tmp 84) rfl _ rfl) hS6 ?_
  go_frame
  refine reg_takeG (i := 38) (some 86) rfl rfl rfl (by kernel_rfl) (by kernel_rfl) (by kernel_rfl) (dv lf) (fun _ _ _ h => h) (fun W hW => exec_loadB (.tmp 15) rfl rfl (K15.out.next hW)) hS6 ?_
  go_frame
  refine reg_takeG (i := 39) (some 87) rfl rfl rfl (by kernel_rfl) (by kernel_rfl) (by kernel_rfl) (dv r0) (fun _ _ _ h => h) (fun W hW => exec_loadB (.tmp 16) rfl rfl (K16.out.next hW)) hS6 ?_
  go_frame
  refine reg_takeG (i := 41) (some 89) rfl rfl rfl (by kernel_rfl) (by kernel_rfl) (by kernel_rfl) (dv lf) (fun _ _ _ h => h) (fun W hW => exec_loadB (.tmp 15) rfl rfl (K15.out.next hW)) hS6 ?_
  go_frame
  refine reg_takeG (i := 42) (some 90) rfl rfl rfl (by kernel_rfl) (by kernel_rfl) (by kernel_rfl) (dv r0) (fun _ _ _ h => h) (fun W hW => exec_loadB (.tmp 16) rfl rfl (K16.out.next hW)) hS6 ?_
  go_frame
  refine reg_callG (i := 40) (some 88) rfl rfl rfl (by kernel_rfl) rfl Tryd.func19 (by kernel_rfl) (by kernel_rfl) #[dv lf, dv r0] rfl (HN1.out w6 (GL.out.next hS6)) ?_
  rintro e w7 ⟨rfl, hb⟩
  have hS7 := hS6.trans (hb.mono hS6.size)
  refine ⟨_, rfl, hS7, ?_⟩
  go_frame
  clear hb
  refine reg_callG (i := 43) (some 91) rfl rfl rfl (by kernel_rfl) rfl Tryd.func20 (by kernel_rfl) (by kernel_rfl) #[dv lf, dv r0] rfl (HN2.out w7 (GL.out.next hS7)) ?_
  rintro e w8 ⟨rfl, hb⟩
  have hS8 := hS7.trans (hb.mono hS7.size)
  refine ⟨_, rfl, hS8, ?_⟩
  go_frame
  clear hb
  refine reg_valueG (i := 44) (some 92) rfl rfl rfl (by kernel_rfl) (.bool true) (exec_sameD (.tmp 88) (.tmp 91) _ rfl nd rfl rfl) hS8 ?_
  go_frame
  refine reg_valueG (i := 45) (some 93) rfl rfl rfl (by kernel_rfl) (.bool true) (exec_pick (.tmp 85) (.tmp 92) (.const (.bool false)) rfl _ rfl rfl) hS8 ?_
  go_frame
  refine reg_valueG (i := 46) (some 8) rfl rfl rfl (by kernel_rfl) (.bool true) (exec_assign (.tmp 93) rfl _ rfl) hS8 ?_
  go_frame
  refine wpAnyH_done (by kernel_rfl) ?_ _
  replace GL := Lib.hid (GL.out.next hS8)
  replace B := Lib.hid (B.out.trans (hS8.mono B.out.size))
  go_wp2
  go_ret
  exact ⟨rfl, B.out⟩

theorem walkMatch (A : Option Addr) (c : Nat) (l : List Dg) (i m : Int) (s : ByteArray) (w : World) (hg : All w) (hr : RdD w A l) (hc : l.length ≤ c) :
    Calls Tryd.prog 3 #[.slice A l.length c, .int .i64 i, .int .i64 m, .string s] w fun e w' => e = .returned (.bool true) ∧ Below w.heap.size w w' := by
  by_cases h : 40 < l.length ∨ 200 < s.size
  · exact walkMatch_out A l.length c i m s w hg h
  · exact walkMatch_in A c l i m s w hg hr hc (by omega) (by omega)
end Go.Proofs.YtfbemmeonkceiaaDoor
