/- The reference: the blanks from an offset on. -/
import Derived.Test.YtggjgikpiljoiaaDoorL19
import Derived.Test.YtggjgikpiljoiaaDoorLM6
namespace Go.Proofs.YtggjgikpiljoiaaDoor
open Go.RowKit Hm Wm Lx

theorem exec_lenS {oi : Oper} {a : Act} {w : World} (x : Operand) (ho : oi.op = .call { callee := .builtin .len, args := #[x], argTypes := #[9] }) (s : ByteArray) (hx : a.eval x = .string s) : (execOp a.eval oi).run Tryd.prog w = .ok (.value (.int .i64 s.size)) w := by
  unfold execOp
  simp [ho, resolve, invoke, builtin, hx, Builtin.len_, run_underlying st_under, goInt]
theorem exec_eqlI {P : Program} {oi : Oper} {a : Act} {w : World} (t : TypeId) (x y : Operand) (rt : TypeId) (ho : oi.op = .binOp .eql t x y rt) (k : IntKind) (m n : Int) (r : Bool) (hr : (m == n) = r) (hx : a.eval x = .int k m) (hy : a.eval y = .int k n) : (execOp a.eval oi).run P w = .ok (.value (.bool r)) w := by
  subst hr
  exact exec_eqI (P := P) (w := w) t x y rt ho k m n hx hy
theorem exec_neqlI {P : Program} {oi : Oper} {a : Act} {w : World} (t : TypeId) (x y : Operand) (rt : TypeId) (ho : oi.op = .binOp .neq t x y rt) (k : IntKind) (m n : Int) (r : Bool) (hr : (!(m == n)) = r) (hx : a.eval x = .int k m) (hy : a.eval y = .int k n) : (execOp a.eval oi).run P w = .ok (.value (.bool r)) w := by
  subst hr
  exact exec_neqI (P := P) (w := w) t x y rt ho k m n hx hy
theorem exec_lssI' {P : Program} {oi : Oper} {a : Act} {w : World} (t : TypeId) (x y : Operand) (rt : TypeId) (ho : oi.op = .binOp .lss t x y rt) (k : IntKind) (m n : Int) (r : Bool) (hr : decide (m < n) = r) (hx : a.eval x = .int k m) (hy : a.eval y = .int k n) : (execOp a.eval oi).run P w = .ok (.value (.bool r)) w := by
  subst hr
  exact exec_bin .lss t rt x y ho _ _ _ hx hy (by simp [go_sem]) (by simp [go_sem])
theorem at_drop {l r : List UInt8} {q : Nat} {c : UInt8} (hd : l.drop q = c :: r) : (sb l).data.toList[q]? = some c ∧ l.drop (q + 1) = r ∧ q < l.length := by
  have h1 : l[q]? = some c := by have := congrArg (·[0]?) hd; simpa using this
  refine ⟨by rw [sb_list]; exact h1, by rw [← List.drop_drop, hd]; rfl, (List.getElem?_eq_some_iff.1 h1).1⟩
set_option maxRecDepth 100000 in
set_option maxHeartbeats 2000000 in
theorem rblank_any (l : List UInt8) (p : Nat) (w : World) (hp : p ≤ l.length) (hl : l.length ≤ 1000000) : Calls Tryd.prog 14 #[.string (sb l), .int .i64 p] w fun e w' => e = .returned (.int .i64 ((p + blk (l.drop p) : Nat) : Int)) ∧ Below w.heap.size w w' := by
  have hz : (sb l).size = l.length := sb_size l
  have HW := Lib.hid (Below.refl w.heap.size w)
  have HZ := Lib.hid hz
  clear hz
  go_enter Tryd.func14, Tryd.ntmps14
  go_wp2_with fail
  go_loopw [1] (fun a wr => ∃ q : Nat, a = .int .i64 q ∧ q ≤ l.length ∧ Hid (q + blk (l.drop q) = p + blk (l.drop p)) ∧ Hid (Below w.heap.size w wr)) (fun a _ => l.length - (intOf a).toNat)
  case atStart => exact ⟨p, rfl, hp, Lib.hid rfl, HW⟩
  case round =>
    clear HW
    obtain ⟨q, rfl, hq, HB, HW⟩ := hrel
    by_cases hlt : q < l.length
    · obtain ⟨c, r, hd⟩ := lex_go hlt
      obtain ⟨hc, hr, _⟩ := at_drop hd
      have HC := Lib.hid hc
      have HD := Lib.hid hd
      have HR := Lib.hid hr
      have h1 : decide ((q : Int) < ((sb l).size : Int)) = true := decide_eq_true (by rw [HZ.out]; omega)
      clear hc hd hr
      by_cases hbl : bl c = true
      · rcases (show c.toNat = 32 ∨ c.toNat = 9 ∨ c.toNat = 10 ∨ c.toNat = 13 from by simpa [bl] using hbl) with hc | hc | hc | hc
        · have HBL := Lib.hid hbl
          have m32 : ((c.toNat : Int) == 32) = true := by rw [hc]; rfl
          clear hc hbl
          go_upto_region 3 with fail
          refine wp_region_lit ?_
          refine wpList_run 11 rfl rfl (.string (sb l)) (exec_move (.tmp 0) rfl _ rfl) ?_
          go_frame
          refine wpList_run 12 rfl rfl (.int .i64 q) (exec_move (.tmp 1) rfl _ rfl) ?_
          go_frame
          refine wpList_run 13 rfl rfl (.int .u8 c.toNat) (exec_index 9 (.tmp 11) (.tmp 12) rfl _ _ (.int .u8 c.toNat) rfl rfl (sb_at (sb l) (k := q) HC.out _)) ?_
          go_frame
          refine wpList_run 14 rfl rfl (.bool true) (exec_eqlI _ _ _ _ rfl .u8 c.toNat 32 true m32 rfl rfl) ?_
          go_frame
          refine wpList_runSkip 15 rfl (by first | rfl | kernel_rfl) (.bool true) (exec_move (.tmp 14) rfl _ rfl) 4 [16, 17, 18, 19] (by kernel_rfl) ?_
          simp only [List.drop_succ_cons, List.drop_zero, List.foldl_cons, List.foldl_nil]
          go_frame
          refine wpList_run 20 rfl rfl (.bool true) (exec_pickT _ _ _ rfl (.bool true) rfl rfl) ?_
          go_frame
          refine wpList_runSkip 21 rfl (by first | rfl | kernel_rfl) (.bool true) (exec_move (.tmp 20) rfl _ rfl) 4 [22, 23, 24, 25] (by kernel_rfl) ?_
          simp only [List.drop_succ_cons, List.drop_zero, List.foldl_cons, List.foldl_nil]
          go_frame
          refine wpList_run 26 rfl rfl (.bool true) (exec_pickT _ _ _ rfl (.bool true) rfl rfl) ?_
          go_frame
          refine wpList_runSkip 27 rfl (by first | rfl | kernel_rfl) (.bool true) (exec_move (.tmp 26) rfl _ rfl) 4 [28, 29, 30, 31] (by kernel_rfl) ?_
          simp only [List.drop_succ_cons, List.drop_zero, List.foldl_cons, List.foldl_nil]
          go_frame
          refine wpList_run 32 rfl rfl (.bool true) (exec_pickT _ _ _ rfl (.bool true) rfl rfl) ?_
          go_frame
          refine wpList_run 10 rfl rfl (.bool true) (exec_assign (.tmp 32) rfl _ rfl) ?_
          go_frame
          refine wpList_nil ?_
          go_wp2_with fail
          go_roundw
          case rel => exact ⟨q + 1, by go_num, by omega, Lib.hid (by rw [← HB.out, HD.out, HR.out, blk_bl HBL.out]; omega), HW⟩
          case measure => simp [intOf]; omega
        · have HBL := Lib.hid hbl
          have m32 : ((c.toNat : Int) == 32) = false := by rw [beq_eq_false_iff_ne]; omega
          have m9 : ((c.toNat : Int) == 9) = true := by rw [hc]; rfl
          clear hc hbl
          go_upto_region 3 with fail
          refine wp_region_lit ?_
          refine wpList_run 11 rfl rfl (.string (sb l)) (exec_move (.tmp 0) rfl _ rfl) ?_
          go_frame
          refine wpList_run 12 rfl rfl (.int .i64 q) (exec_move (.tmp 1) rfl _ rfl) ?_
          go_frame
          refine wpList_run 13 rfl rfl (.int .u8 c.toNat) (exec_index 9 (.tmp 11) (.tmp 12) rfl _ _ (.int .u8 c.toNat) rfl rfl (sb_at (sb l) (k := q) HC.out _)) ?_
          go_frame
          refine wpList_run 14 rfl rfl (.bool false) (exec_eqlI _ _ _ _ rfl .u8 c.toNat 32 false m32 rfl rfl) ?_
          go_frame
          refine wpList_run 15 rfl rfl (.bool false) (exec_move (.tmp 14) rfl _ rfl) ?_
          go_frame
          refine wpList_runG 16 rfl (by first | rfl | kernel_rfl) (.string (sb l)) (exec_move (.tmp 0) rfl _ rfl) ?_
          go_frame
          refine wpList_runG 17 rfl (by first | rfl | kernel_rfl) (.int .i64 q) (exec_move (.tmp 1) rfl _ rfl) ?_
          go_frame
          refine wpList_runG 18 rfl (by first | rfl | kernel_rfl) (.int .u8 c.toNat) (exec_index 9 (.tmp 16) (.tmp 17) rfl _ _ (.int .u8 c.toNat) rfl rfl (sb_at (sb l) (k := q) HC.out _)) ?_
          go_frame
          refine wpList_runG 19 rfl (by first | rfl | kernel_rfl) (.bool true) (exec_eqlI _ _ _ _ rfl .u8 c.toNat 9 true m9 rfl rfl) ?_
          go_frame
          refine wpList_run 20 rfl rfl (.bool true) (exec_pickF _ _ _ rfl (.bool true) rfl rfl) ?_
          go_frame
          refine wpList_runSkip 21 rfl (by first | rfl | kernel_rfl) (.bool true) (exec_move (.tmp 20) rfl _ rfl) 4 [22, 23, 24, 25] (by kernel_rfl) ?_
          simp only [List.drop_succ_cons, List.drop_zero, List.foldl_cons, List.foldl_nil]
          go_frame
          refine wpList_run 26 rfl rfl (.bool true) (exec_pickT _ _ _ rfl (.bool true) rfl rfl) ?_
          go_frame
          refine wpList_runSkip 27 rfl (by first | rfl | kernel_rfl) (.bool true) (exec_move (.tmp 26) rfl _ rfl) 4 [28, 29, 30, 31] (by kernel_rfl) ?_
          simp only [List.drop_succ_cons, List.drop_zero, List.foldl_cons, List.foldl_nil]
          go_frame
          refine wpList_run 32 rfl rfl (.bool true) (exec_pickT _ _ _ rfl (.bool true) rfl rfl) ?_
          go_frame
          refine wpList_run 10 rfl rfl (.bool true) (exec_assign (.tmp 32) rfl _ rfl) ?_
          go_frame
          refine wpList_nil ?_
          go_wp2_with fail
          go_roundw
          case rel => exact ⟨q + 1, by go_num, by omega, Lib.hid (by rw [← HB.out, HD.out, HR.out, blk_bl HBL.out]; omega), HW⟩
          case measure => simp [intOf]; omega
        · have HBL := Lib.hid hbl
          have m32 : ((c.toNat : Int) == 32) = false := by rw [beq_eq_false_iff_ne]; omega
          have m9 : ((c.toNat : Int) == 9) = false := by rw [beq_eq_false_iff_ne]; omega
          have m10 : ((c.toNat : Int) == 10) = true := by rw [hc]; rfl
          clear hc hbl
          go_upto_region 3 with fail
          refine wp_region_lit ?_
          refine wpList_run 11 rfl rfl (.string (sb l)) (exec_move (.tmp 0) rfl _ rfl) ?_
          go_frame
          refine wpList_run 12 rfl rfl (.int .i64 q) (exec_move (.tmp 1) rfl _ rfl) ?_
          go_frame
          refine wpList_run 13 rfl rfl (.int .u8 c.toNat) (exec_index 9 (.tmp 11) (.tmp 12) rfl _ _ (.int .u8 c.toNat) rfl rfl (sb_at (sb l) (k := q) HC.out _)) ?_
          go_frame
          refine wpList_run 14 rfl rfl (.bool false) (exec_eqlI _ _ _ _ rfl .u8 c.toNat 32 false m32 rfl rfl) ?_
          go_frame
          refine wpList_run 15 rfl rfl (.bool false) (exec_move (.tmp 14) rfl _ rfl) ?_
          go_frame
          refine wpList_runG 16 rfl (by first | rfl | kernel_rfl) (.string (sb l)) (exec_move (.tmp 0) rfl _ rfl) ?_
          go_frame
          refine wpList_runG 17 rfl (by first | rfl | kernel_rfl) (.int .i64 q) (exec_move (.tmp 1) rfl _ rfl) ?_
          go_frame
          refine wpList_runG 18 rfl (by first | rfl | kernel_rfl) (.int .u8 c.toNat) (exec_index 9 (.tmp 16) (.tmp 17) rfl _ _ (.int .u8 c.toNat) rfl rfl (sb_at (sb l) (k := q) HC.out _)) ?_
          go_frame
          refine wpList_runG 19 rfl (by first | rfl | kernel_rfl) (.bool false) (exec_eqlI _ _ _ _ rfl .u8 c.toNat 9 false m9 rfl rfl) ?_
          go_frame
          refine wpList_run 20 rfl rfl (.bool false) (exec_pickF _ _ _ rfl (.bool false) rfl rfl) ?_
          go_frame
          refine wpList_run 21 rfl rfl (.bool false) (exec_move (.tmp 20) rfl _ rfl) ?_
          go_frame
          refine wpList_runG 22 rfl (by first | rfl | kernel_rfl) (.string (sb l)) (exec_move (.tmp 0) rfl _ rfl) ?_
          go_frame
          refine wpList_runG 23 rfl (by first | rfl | kernel_rfl) (.int .i64 q) (exec_move (.tmp 1) rfl _ rfl) ?_
          go_frame
          refine wpList_runG 24 rfl (by first | rfl | kernel_rfl) (.int .u8 c.toNat) (exec_index 9 (.tmp 22) (.tmp 23) rfl _ _ (.int .u8 c.toNat) rfl rfl (sb_at (sb l) (k := q) HC.out _)) ?_
          go_frame
          refine wpList_runG 25 rfl (by first | rfl | kernel_rfl) (.bool true) (exec_eqlI _ _ _ _ rfl .u8 c.toNat 10 true m10 rfl rfl) ?_
          go_frame
          refine wpList_run 26 rfl rfl (.bool true) (exec_pickF _ _ _ rfl (.bool true) rfl rfl) ?_
          go_frame
          refine wpList_runSkip 27 rfl (by first | rfl | kernel_rfl) (.bool true) (exec_move (.tmp 26) rfl _ rfl) 4 [28, 29, 30, 31] (by kernel_rfl) ?_
          simp only [List.drop_succ_cons, List.drop_zero, List.foldl_cons, List.foldl_nil]
          go_frame
          refine wpList_run 32 rfl rfl (.bool true) (exec_pickT _ _ _ rfl (.bool true) rfl rfl) ?_
          go_frame
          refine wpList_run 10 rfl rfl (.bool true) (exec_assign (.tmp 32) rfl _ rfl) ?_
          go_frame
          refine wpList_nil ?_
          go_wp2_with fail
          go_roundw
          case rel => exact ⟨q + 1, by go_num, by omega, Lib.hid (by rw [← HB.out, HD.out, HR.out, blk_bl HBL.out]; omega), HW⟩
          case measure => simp [intOf]; omega
        · have HBL := Lib.hid hbl
          have m32 : ((c.toNat : Int) == 32) = false := by rw [beq_eq_false_iff_ne]; omega
          have m9 : ((c.toNat : Int) == 9) = false := by rw [beq_eq_false_iff_ne]; omega
          have m10 : ((c.toNat : Int) == 10) = false := by rw [beq_eq_false_iff_ne]; omega
          have m13 : ((c.toNat : Int) == 13) = true := by rw [hc]; rfl
          clear hc hbl
          go_upto_region 3 with fail
          refine wp_region_lit ?_
          refine wpList_run 11 rfl rfl (.string (sb l)) (exec_move (.tmp 0) rfl _ rfl) ?_
          go_frame
          refine wpList_run 12 rfl rfl (.int .i64 q) (exec_move (.tmp 1) rfl _ rfl) ?_
          go_frame
          refine wpList_run 13 rfl rfl (.int .u8 c.toNat) (exec_index 9 (.tmp 11) (.tmp 12) rfl _ _ (.int .u8 c.toNat) rfl rfl (sb_at (sb l) (k := q) HC.out _)) ?_
          go_frame
          refine wpList_run 14 rfl rfl (.bool false) (exec_eqlI _ _ _ _ rfl .u8 c.toNat 32 false m32 rfl rfl) ?_
          go_frame
          refine wpList_run 15 rfl rfl (.bool false) (exec_move (.tmp 14) rfl _ rfl) ?_
          go_frame
          refine wpList_runG 16 rfl (by first | rfl | kernel_rfl) (.string (sb l)) (exec_move (.tmp 0) rfl _ rfl) ?_
          go_frame
          refine wpList_runG 17 rfl (by first | rfl | kernel_rfl) (.int .i64 q) (exec_move (.tmp 1) rfl _ rfl) ?_
          go_frame
          refine wpList_runG 18 rfl (by first | rfl | kernel_rfl) (.int .u8 c.toNat) (exec_index 9 (.tmp 16) (.tmp 17) rfl _ _ (.int .u8 c.toNat) rfl rfl (sb_at (sb l) (k := q) HC.out _)) ?_
          go_frame
          refine wpList_runG 19 rfl (by first | rfl | kernel_rfl) (.bool false) (exec_eqlI _ _ _ _ rfl .u8 c.toNat 9 false m9 rfl rfl) ?_
          go_frame
          refine wpList_run 20 rfl rfl (.bool false) (exec_pickF _ _ _ rfl (.bool false) rfl rfl) ?_
          go_frame
          refine wpList_run 21 rfl rfl (.bool false) (exec_move (.tmp 20) rfl _ rfl) ?_
          go_frame
          refine wpList_runG 22 rfl (by first | rfl | kernel_rfl) (.string (sb l)) (exec_move (.tmp 0) rfl _ rfl) ?_
          go_frame
          refine wpList_runG 23 rfl (by first | rfl | kernel_rfl) (.int .i64 q) (exec_move (.tmp 1) rfl _ rfl) ?_
          go_frame
          refine wpList_runG 24 rfl (by first | rfl | kernel_rfl) (.int .u8 c.toNat) (exec_index 9 (.tmp 22) (.tmp 23) rfl _ _ (.int .u8 c.toNat) rfl rfl (sb_at (sb l) (k := q) HC.out _)) ?_
          go_frame
          refine wpList_runG 25 rfl (by first | rfl | kernel_rfl) (.bool false) (exec_eqlI _ _ _ _ rfl .u8 c.toNat 10 false m10 rfl rfl) ?_
          go_frame
          refine wpList_run 26 rfl rfl (.bool false) (exec_pickF _ _ _ rfl (.bool false) rfl rfl) ?_
          go_frame
          refine wpList_run 27 rfl rfl (.bool false) (exec_move (.tmp 26) rfl _ rfl) ?_
          go_frame
          refine wpList_runG 28 rfl (by first | rfl | kernel_rfl) (.string (sb l)) (exec_move (.tmp 0) rfl _ rfl) ?_
          go_frame
          refine wpList_runG 29 rfl (by first | rfl | kernel_rfl) (.int .i64 q) (exec_move (.tmp 1) rfl _ rfl) ?_
          go_frame
          refine wpList_runG 30 rfl (by first | rfl | kernel_rfl) (.int .u8 c.toNat) (exec_index 9 (.tmp 28) (.tmp 29) rfl _ _ (.int .u8 c.toNat) rfl rfl (sb_at (sb l) (k := q) HC.out _)) ?_
          go_frame
          refine wpList_runG 31 rfl (by first | rfl | kernel_rfl) (.bool true) (exec_eqlI _ _ _ _ rfl .u8 c.toNat 13 true m13 rfl rfl) ?_
          go_frame
          refine wpList_run 32 rfl rfl (.bool true) (exec_pickF _ _ _ rfl (.bool true) rfl rfl) ?_
          go_frame
          refine wpList_run 10 rfl rfl (.bool true) (exec_assign (.tmp 32) rfl _ rfl) ?_
          go_frame
          refine wpList_nil ?_
          go_wp2_with fail
          go_roundw
          case rel => exact ⟨q + 1, by go_num, by omega, Lib.hid (by rw [← HB.out, HD.out, HR.out, blk_bl HBL.out]; omega), HW⟩
          case measure => simp [intOf]; omega
      · have hn : c.toNat ≠ 32 ∧ c.toNat ≠ 9 ∧ c.toNat ≠ 10 ∧ c.toNat ≠ 13 := by simpa [bl] using hbl
        have HBL := Lib.hid (show bl c = false by simpa using hbl)
        have m32 : ((c.toNat : Int) == 32) = false := by rw [beq_eq_false_iff_ne]; omega
        have m9 : ((c.toNat : Int) == 9) = false := by rw [beq_eq_false_iff_ne]; omega
        have m10 : ((c.toNat : Int) == 10) = false := by rw [beq_eq_false_iff_ne]; omega
        have m13 : ((c.toNat : Int) == 13) = false := by rw [beq_eq_false_iff_ne]; omega
        clear hn hbl
        by_cases hc : c.toNat = 35
        · have m35 : ((c.toNat : Int) == 35) = true := by rw [hc]; rfl
          have HM := Lib.hid (show q + ((cmt (c :: r)).length + blk (l.drop (q + (cmt (c :: r)).length))) = p + blk (l.drop p) by rw [← HB.out, HD.out, blk_cmt hc, ← HD.out, List.drop_drop])
          have hm0 : 0 < (cmt (c :: r)).length := cmt_pos (by simp [nlf, hc])
          have hml : q + (cmt (c :: r)).length ≤ l.length := by
            have e1 := tw_le nlf (c :: r)
            have e2 := congrArg List.length HD.out
            rw [List.length_drop] at e2
            unfold cmt; omega
          have HIN := Lib.hid (show ∀ k, k < (cmt (c :: r)).length → ∃ d, l[q + k]? = some d ∧ nlf d = true from fun k hk => by
            obtain ⟨d, h1, h2⟩ := tw_in nlf (c :: r) k hk
            exact ⟨d, by rw [← HD.out, List.getElem?_drop] at h1; exact h1, h2⟩)
          have HOUT := Lib.hid (show q + (cmt (c :: r)).length = l.length ∨ ∃ d, l[q + (cmt (c :: r)).length]? = some d ∧ nlf d = false from by
            rcases tw_out nlf (c :: r) with h | ⟨d, h1, h2⟩
            · refine .inl ?_
              have e2 := congrArg List.length HD.out
              rw [List.length_drop] at e2
              unfold cmt; omega
            · have e : ∀ k, (c :: r)[k]? = l[q + k]? := fun k => by rw [← HD.out, List.getElem?_drop]
              rw [e] at h1
              exact .inr ⟨d, h1, h2⟩)
          generalize (cmt (c :: r)).length = m at HM hm0 hml HIN HOUT
          clear hc HB
          go_upto_region 3 with fail
          refine wp_region_lit ?_
          refine wpList_run 11 rfl rfl (.string (sb l)) (exec_move (.tmp 0) rfl _ rfl) ?_
          go_frame
          refine wpList_run 12 rfl rfl (.int .i64 q) (exec_move (.tmp 1) rfl _ rfl) ?_
          go_frame
          refine wpList_run 13 rfl rfl (.int .u8 c.toNat) (exec_index 9 (.tmp 11) (.tmp 12) rfl _ _ (.int .u8 c.toNat) rfl rfl (sb_at (sb l) (k := q) HC.out _)) ?_
          go_frame
          refine wpList_run 14 rfl rfl (.bool false) (exec_eqlI _ _ _ _ rfl .u8 c.toNat 32 false m32 rfl rfl) ?_
          go_frame
          refine wpList_run 15 rfl rfl (.bool false) (exec_move (.tmp 14) rfl _ rfl) ?_
          go_frame
          refine wpList_runG 16 rfl (by first | rfl | kernel_rfl) (.string (sb l)) (exec_move (.tmp 0) rfl _ rfl) ?_
          go_frame
          refine wpList_runG 17 rfl (by first | rfl | kernel_rfl) (.int .i64 q) (exec_move (.tmp 1) rfl _ rfl) ?_
          go_frame
          refine wpList_runG 18 rfl (by first | rfl | kernel_rfl) (.int .u8 c.toNat) (exec_index 9 (.tmp 16) (.tmp 17) rfl _ _ (.int .u8 c.toNat) rfl rfl (sb_at (sb l) (k := q) HC.out _)) ?_
          go_frame
          refine wpList_runG 19 rfl (by first | rfl | kernel_rfl) (.bool false) (exec_eqlI _ _ _ _ rfl .u8 c.toNat 9 false m9 rfl rfl) ?_
          go_frame
          refine wpList_run 20 rfl rfl (.bool false) (exec_pickF _ _ _ rfl (.bool false) rfl rfl) ?_
          go_frame
          refine wpList_run 21 rfl rfl (.bool false) (exec_move (.tmp 20) rfl _ rfl) ?_
          go_frame
          refine wpList_runG 22 rfl (by first | rfl | kernel_rfl) (.string (sb l)) (exec_move (.tmp 0) rfl _ rfl) ?_
          go_frame
          refine wpList_runG 23 rfl (by first | rfl | kernel_rfl) (.int .i64 q) (exec_move (.tmp 1) rfl _ rfl) ?_
          go_frame
          refine wpList_runG 24 rfl (by first | rfl | kernel_rfl) (.int .u8 c.toNat) (exec_index 9 (.tmp 22) (.tmp 23) rfl _ _ (.int .u8 c.toNat) rfl rfl (sb_at (sb l) (k := q) HC.out _)) ?_
          go_frame
          refine wpList_runG 25 rfl (by first | rfl | kernel_rfl) (.bool false) (exec_eqlI _ _ _ _ rfl .u8 c.toNat 10 false m10 rfl rfl) ?_
          go_frame
          refine wpList_run 26 rfl rfl (.bool false) (exec_pickF _ _ _ rfl (.bool false) rfl rfl) ?_
          go_frame
          refine wpList_run 27 rfl rfl (.bool false) (exec_move (.tmp 26) rfl _ rfl) ?_
          go_frame
          refine wpList_runG 28 rfl (by first | rfl | kernel_rfl) (.string (sb l)) (exec_move (.tmp 0) rfl _ rfl) ?_
          go_frame
          refine wpList_runG 29 rfl (by first | rfl | kernel_rfl) (.int .i64 q) (exec_move (.tmp 1) rfl _ rfl) ?_
          go_frame
          refine wpList_runG 30 rfl (by first | rfl | kernel_rfl) (.int .u8 c.toNat) (exec_index 9 (.tmp 28) (.tmp 29) rfl _ _ (.int .u8 c.toNat) rfl rfl (sb_at (sb l) (k := q) HC.out _)) ?_
          go_frame
          refine wpList_runG 31 rfl (by first | rfl | kernel_rfl) (.bool false) (exec_eqlI _ _ _ _ rfl .u8 c.toNat 13 false m13 rfl rfl) ?_
          go_frame
          refine wpList_run 32 rfl rfl (.bool false) (exec_pickF _ _ _ rfl (.bool false) rfl rfl) ?_
          go_frame
          refine wpList_run 10 rfl rfl (.bool false) (exec_assign (.tmp 32) rfl _ rfl) ?_
          go_frame
          refine wpList_nil ?_
          go_wp2_with (first | (refine wpList_dst 38 rfl ?_; refine wpList_run 38 rfl rfl _ (exec_index 9 (.tmp 36) (.tmp 37) rfl _ _ (.int .u8 c.toNat) rfl rfl (sb_at (sb l) (k := q) HC.out _)) ?_; go_frame))
          have HW1 := HW
          clear HW
          obtain ⟨wo, rfl⟩ : ∃ wo : World, wo = wr := ⟨_, rfl⟩
          go_loopw [1] (fun a wr => ∃ k : Nat, a = .int .i64 ((q + k : Nat) : Int) ∧ k ≤ m ∧ Hid (Below w.heap.size w wr)) (fun a _ => q + m - (intOf a).toNat)
          case atStart => exact ⟨0, rfl, Nat.zero_le _, HW1⟩
          case round =>
            clear HW1
            obtain ⟨k, rfl, hk, HW⟩ := hrel
            by_cases hkm : k < m
            · obtain ⟨d, hd, hn⟩ := HIN.out k hkm
              have HC2 := Lib.hid (show (sb l).data.toList[q + k]? = some d by rw [sb_list]; exact hd)
              have hlt2 := (List.getElem?_eq_some_iff.1 hd).1
              have l1 : decide (((q + k : Nat) : Int) < ((sb l).size : Int)) = true := decide_eq_true (by rw [HZ.out]; omega)
              have m10' : (!((d.toNat : Int) == 10)) = true := by
                have : d.toNat ≠ 10 := by simpa [nlf] using hn
                rw [beq_eq_false_iff_ne.2 (by omega)]; rfl
              clear hd hn
              go_upto_region 6 with fail
              refine wp_region_lit ?_
              refine wpList_run 40 rfl rfl (.int .i64 ((q + k : Nat) : Int)) (exec_move (.tmp 1) rfl _ rfl) ?_
              go_frame
              refine wpList_run 41 rfl rfl (.string (sb l)) (exec_move (.tmp 0) rfl _ rfl) ?_
              go_frame
              refine wpList_run 42 rfl rfl (.int .i64 (sb l).size) (exec_lenS (.tmp 41) rfl (sb l) rfl) ?_
              go_frame
              refine wpList_run 43 rfl rfl (.bool true) (exec_lssI' _ _ _ _ rfl .i64 ((q + k : Nat) : Int) (sb l).size true l1 rfl rfl) ?_
              go_frame
              refine wpList_run 44 rfl rfl (.bool true) (exec_move (.tmp 43) rfl _ rfl) ?_
              go_frame
              refine wpList_runG 45 rfl (by first | rfl | kernel_rfl) (.string (sb l)) (exec_move (.tmp 0) rfl _ rfl) ?_
              go_frame
              refine wpList_runG 46 rfl (by first | rfl | kernel_rfl) (.int .i64 ((q + k : Nat) : Int)) (exec_move (.tmp 1) rfl _ rfl) ?_
              go_frame
              refine wpList_runG 47 rfl (by first | rfl | kernel_rfl) (.int .u8 d.toNat) (exec_index 9 (.tmp 45) (.tmp 46) rfl _ _ (.int .u8 d.toNat) rfl rfl (sb_at (sb l) (k := q + k) HC2.out _)) ?_
              go_frame
              refine wpList_runG 48 rfl (by first | rfl | kernel_rfl) (.bool true) (exec_neqlI _ _ _ _ rfl .u8 d.toNat 10 true m10' rfl rfl) ?_
              go_frame
              refine wpList_run 49 rfl rfl (.bool true) (exec_pickT _ _ _ rfl (.bool true) rfl rfl) ?_
              go_frame
              refine wpList_nil ?_
              go_wp2_with fail
              go_roundw
              case rel => exact ⟨k + 1, by go_num, by omega, HW⟩
              case measure => simp [intOf]; omega
            · obtain rfl : k = m := by omega
              rcases HOUT.out with ho | ⟨d, hd, hn⟩
              · have l1 : decide (((q + k : Nat) : Int) < ((sb l).size : Int)) = false := decide_eq_false (by rw [HZ.out]; omega)
                go_upto_region 6 with fail
                refine wp_region_lit ?_
                refine wpList_run 40 rfl rfl (.int .i64 ((q + k : Nat) : Int)) (exec_move (.tmp 1) rfl _ rfl) ?_
                go_frame
                refine wpList_run 41 rfl rfl (.string (sb l)) (exec_move (.tmp 0) rfl _ rfl) ?_
                go_frame
                refine wpList_run 42 rfl rfl (.int .i64 (sb l).size) (exec_lenS (.tmp 41) rfl (sb l) rfl) ?_
                go_frame
                refine wpList_run 43 rfl rfl (.bool false) (exec_lssI' _ _ _ _ rfl .i64 ((q + k : Nat) : Int) (sb l).size false l1 rfl rfl) ?_
                go_frame
                refine wpList_runSkip 44 rfl (by first | rfl | kernel_rfl) (.bool false) (exec_move (.tmp 43) rfl _ rfl) 4 [45, 46, 47, 48] (by kernel_rfl) ?_
                simp only [List.drop_succ_cons, List.drop_zero, List.foldl_cons, List.foldl_nil]
                go_frame
                refine wpList_run 49 rfl rfl (.bool false) (exec_pickF _ _ _ rfl (.bool false) rfl rfl) ?_
                go_frame
                refine wpList_nil ?_
                go_wp2_with fail
                go_roundw
                case rel => exact ⟨q + k, rfl, hml, Lib.hid (by rw [← HM.out]; omega), HW⟩
                case measure => simp [intOf]; omega
              · have HC2 := Lib.hid (show (sb l).data.toList[q + k]? = some d by rw [sb_list]; exact hd)
                have hlt2 := (List.getElem?_eq_some_iff.1 hd).1
                have l1 : decide (((q + k : Nat) : Int) < ((sb l).size : Int)) = true := decide_eq_true (by rw [HZ.out]; omega)
                have m10' : (!((d.toNat : Int) == 10)) = false := by
                  have : d.toNat = 10 := by simpa [nlf] using hn
                  rw [this]; rfl
                clear hd hn
                go_upto_region 6 with fail
                refine wp_region_lit ?_
                refine wpList_run 40 rfl rfl (.int .i64 ((q + k : Nat) : Int)) (exec_move (.tmp 1) rfl _ rfl) ?_
                go_frame
                refine wpList_run 41 rfl rfl (.string (sb l)) (exec_move (.tmp 0) rfl _ rfl) ?_
                go_frame
                refine wpList_run 42 rfl rfl (.int .i64 (sb l).size) (exec_lenS (.tmp 41) rfl (sb l) rfl) ?_
                go_frame
                refine wpList_run 43 rfl rfl (.bool true) (exec_lssI' _ _ _ _ rfl .i64 ((q + k : Nat) : Int) (sb l).size true l1 rfl rfl) ?_
                go_frame
                refine wpList_run 44 rfl rfl (.bool true) (exec_move (.tmp 43) rfl _ rfl) ?_
                go_frame
                refine wpList_runG 45 rfl (by first | rfl | kernel_rfl) (.string (sb l)) (exec_move (.tmp 0) rfl _ rfl) ?_
                go_frame
                refine wpList_runG 46 rfl (by first | rfl | kernel_rfl) (.int .i64 ((q + k : Nat) : Int)) (exec_move (.tmp 1) rfl _ rfl) ?_
                go_frame
                refine wpList_runG 47 rfl (by first | rfl | kernel_rfl) (.int .u8 d.toNat) (exec_index 9 (.tmp 45) (.tmp 46) rfl _ _ (.int .u8 d.toNat) rfl rfl (sb_at (sb l) (k := q + k) HC2.out _)) ?_
                go_frame
                refine wpList_runG 48 rfl (by first | rfl | kernel_rfl) (.bool false) (exec_neqlI _ _ _ _ rfl .u8 d.toNat 10 false m10' rfl rfl) ?_
                go_frame
                refine wpList_run 49 rfl rfl (.bool false) (exec_pickT _ _ _ rfl (.bool false) rfl rfl) ?_
                go_frame
                refine wpList_nil ?_
                go_wp2_with fail
                go_roundw
                case rel => exact ⟨q + k, rfl, hml, Lib.hid (by rw [← HM.out]; omega), HW⟩
                case measure => simp [intOf]; omega
        · have m35 : ((c.toNat : Int) == 35) = false := by rw [beq_eq_false_iff_ne]; omega
          have HE := Lib.hid (show (q : Int) = ((p + blk (l.drop p) : Nat) : Int) by rw [← HB.out, HD.out, blk_else HBL.out hc, Nat.add_zero])
          clear hc HB
          go_upto_region 3 with fail
          refine wp_region_lit ?_
          refine wpList_run 11 rfl rfl (.string (sb l)) (exec_move (.tmp 0) rfl _ rfl) ?_
          go_frame
          refine wpList_run 12 rfl rfl (.int .i64 q) (exec_move (.tmp 1) rfl _ rfl) ?_
          go_frame
          refine wpList_run 13 rfl rfl (.int .u8 c.toNat) (exec_index 9 (.tmp 11) (.tmp 12) rfl _ _ (.int .u8 c.toNat) rfl rfl (sb_at (sb l) (k := q) HC.out _)) ?_
          go_frame
          refine wpList_run 14 rfl rfl (.bool false) (exec_eqlI _ _ _ _ rfl .u8 c.toNat 32 false m32 rfl rfl) ?_
          go_frame
          refine wpList_run 15 rfl rfl (.bool false) (exec_move (.tmp 14) rfl _ rfl) ?_
          go_frame
          refine wpList_runG 16 rfl (by first | rfl | kernel_rfl) (.string (sb l)) (exec_move (.tmp 0) rfl _ rfl) ?_
          go_frame
          refine wpList_runG 17 rfl (by first | rfl | kernel_rfl) (.int .i64 q) (exec_move (.tmp 1) rfl _ rfl) ?_
          go_frame
          refine wpList_runG 18 rfl (by first | rfl | kernel_rfl) (.int .u8 c.toNat) (exec_index 9 (.tmp 16) (.tmp 17) rfl _ _ (.int .u8 c.toNat) rfl rfl (sb_at (sb l) (k := q) HC.out _)) ?_
          go_frame
          refine wpList_runG 19 rfl (by first | rfl | kernel_rfl) (.bool false) (exec_eqlI _ _ _ _ rfl .u8 c.toNat 9 false m9 rfl rfl) ?_
          go_frame
          refine wpList_run 20 rfl rfl (.bool false) (exec_pickF _ _ _ rfl (.bool false) rfl rfl) ?_
          go_frame
          refine wpList_run 21 rfl rfl (.bool false) (exec_move (.tmp 20) rfl _ rfl) ?_
          go_frame
          refine wpList_runG 22 rfl (by first | rfl | kernel_rfl) (.string (sb l)) (exec_move (.tmp 0) rfl _ rfl) ?_
          go_frame
          refine wpList_runG 23 rfl (by first | rfl | kernel_rfl) (.int .i64 q) (exec_move (.tmp 1) rfl _ rfl) ?_
          go_frame
          refine wpList_runG 24 rfl (by first | rfl | kernel_rfl) (.int .u8 c.toNat) (exec_index 9 (.tmp 22) (.tmp 23) rfl _ _ (.int .u8 c.toNat) rfl rfl (sb_at (sb l) (k := q) HC.out _)) ?_
          go_frame
          refine wpList_runG 25 rfl (by first | rfl | kernel_rfl) (.bool false) (exec_eqlI _ _ _ _ rfl .u8 c.toNat 10 false m10 rfl rfl) ?_
          go_frame
          refine wpList_run 26 rfl rfl (.bool false) (exec_pickF _ _ _ rfl (.bool false) rfl rfl) ?_
          go_frame
          refine wpList_run 27 rfl rfl (.bool false) (exec_move (.tmp 26) rfl _ rfl) ?_
          go_frame
          refine wpList_runG 28 rfl (by first | rfl | kernel_rfl) (.string (sb l)) (exec_move (.tmp 0) rfl _ rfl) ?_
          go_frame
          refine wpList_runG 29 rfl (by first | rfl | kernel_rfl) (.int .i64 q) (exec_move (.tmp 1) rfl _ rfl) ?_
          go_frame
          refine wpList_runG 30 rfl (by first | rfl | kernel_rfl) (.int .u8 c.toNat) (exec_index 9 (.tmp 28) (.tmp 29) rfl _ _ (.int .u8 c.toNat) rfl rfl (sb_at (sb l) (k := q) HC.out _)) ?_
          go_frame
          refine wpList_runG 31 rfl (by first | rfl | kernel_rfl) (.bool false) (exec_eqlI _ _ _ _ rfl .u8 c.toNat 13 false m13 rfl rfl) ?_
          go_frame
          refine wpList_run 32 rfl rfl (.bool false) (exec_pickF _ _ _ rfl (.bool false) rfl rfl) ?_
          go_frame
          refine wpList_run 10 rfl rfl (.bool false) (exec_assign (.tmp 32) rfl _ rfl) ?_
          go_frame
          refine wpList_nil ?_
          go_wp2_with (first | (refine wpList_dst 38 rfl ?_; refine wpList_run 38 rfl rfl _ (exec_index 9 (.tmp 36) (.tmp 37) rfl _ _ (.int .u8 c.toNat) rfl rfl (sb_at (sb l) (k := q) HC.out _)) ?_; go_frame))
          go_ret
          exact ⟨by rw [HE.out]; rfl, HW.out⟩
    · obtain rfl : q = l.length := by omega
      have h1 : decide (((l.length : Nat) : Int) < ((sb l).size : Int)) = false := decide_eq_false (by rw [HZ.out]; omega)
      have HE := Lib.hid (show (l.length : Int) = ((p + blk (l.drop p) : Nat) : Int) by rw [← HB.out, List.drop_length, blk_nil, Nat.add_zero])
      clear HB
      go_wp2_with fail
      go_ret
      exact ⟨by rw [HE.out]; rfl, HW.out⟩
end Go.Proofs.YtggjgikpiljoiaaDoor
