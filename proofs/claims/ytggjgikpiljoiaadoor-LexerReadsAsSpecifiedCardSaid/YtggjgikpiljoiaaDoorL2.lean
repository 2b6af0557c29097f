/- Signs: how long the one at the beginning is. -/
import Derived.Test.YtggjgikpiljoiaaDoorL1
import Derived.Test.YtggjgikpiljoiaaDoorLSh

namespace Go.Proofs.YtggjgikpiljoiaaDoor
open Go.RowKit Hm Wm Lx

theorem all_u8 (p : UInt8 → Bool) (h : ∀ n : Fin 256, p (UInt8.ofNat n.1) = true) (c : UInt8) : p c = true := by
  have := h ⟨c.toNat, c.toNat_lt⟩
  simpa using this
theorem u8_of (c : UInt8) : ((c.toNat : Int).toNat).toUInt8 = c := by simp
/-- Bytes and parts of a string. -/
theorem sb_at (s : ByteArray) {k : Nat} {c : UInt8} (h : s.data.toList[k]? = some c) (W : World) : (Instr.index 9 (.string s) (.int .i64 k)).run Tryd.prog W = .ok (.int .u8 c.toNat) W := by
  obtain ⟨hk, e⟩ := List.getElem?_eq_some_iff.1 h
  have hs : k < s.size := by rw [Array.length_toList] at hk; exact hk
  have e2 : s[k]'hs = c := by rw [← e]; rfl
  rw [run_index_string (w := W) _ _ _ _ Tryd.underlying9, dif_pos ⟨Int.natCast_nonneg _, by omega⟩]
  simp [e2]
theorem sb_at' (s : ByteArray) {k : Nat} {c : UInt8} {i : Int} (h : s.data.toList[k]? = some c) (hi : i = k) (W : World) : (Instr.index 9 (.string s) (.int .i64 i)).run Tryd.prog W = .ok (.int .u8 c.toNat) W := by
  subst hi; exact sb_at s h W
theorem exec_slice_lo {oi : Oper} {a : Act} {w : World} (ty : TypeId) (x y : Operand) (ho : oi.op = .slice ty x (some y) none none) (p q v : Value) (hx : a.eval x = p) (hy : a.eval y = q) (hl : (Instr.sliceAt ty p (some q) none none).run Tryd.prog w = .ok v w) : (execOp a.eval oi).run Tryd.prog w = .ok (.value v) w := by
  subst hx hy
  simp [execOp, ho, hl]
theorem run_str_lo (w : World) (l : List UInt8) (n : Nat) (h : n ≤ l.length) : (Instr.sliceAt 9 (.string (sb l)) (some (.int .i64 n)) none none).run Tryd.prog w = .ok (.string (sb (l.drop n))) w := by
  have hs : (sb l).size = l.length := sb_size l
  have e : (sb l).extract n l.length = sb (l.drop n) := by
    apply ByteArray.ext
    rw [ByteArray.data_extract]
    simp [sb]
    exact List.take_of_length_le (by rw [List.length_drop]; exact Nat.le_refl _)
  simp [go_sem, run_sliceAt_string, Tryd.underlying9, hs]
  rw [if_pos h, e]
theorem eq_lit (l r : List UInt8) (b : Bool) (h : decide (l = r) = b) (w : World) : (binOp .eql 9 (.string (sb l)) (.string (sb r))).run Tryd.prog w = .ok (.bool b) w := by rw [run_eql_str, h]
theorem two_ne {c d : UInt8} (h : two c d = false) (a b : UInt8) (hab : two a b = true) : decide ([c, d] = [a, b]) = false := by
  rw [decide_eq_false_iff_not]
  intro e
  injection e with e1 e2
  injection e2 with e2 _
  subst e1 e2
  rw [h] at hab; cases hab
def ixL : List UInt8 := [40, 41, 123, 125, 91, 93, 44, 59, 58, 46, 43, 45, 42, 47, 37, 60, 62, 61, 33, 38, 124, 64, 63, 94, 126]
def ix (c : UInt8) : Int := Lib.indexByte ixL c
theorem ix_one (c : UInt8) : decide (0 ≤ ix c) = one c := by
  have := all_u8 (fun c => decide (0 ≤ ix c) == one c) (by decide +kernel) c
  simpa using this
theorem ix_any (c : UInt8) (w : World) : Calls Tryd.prog 60 #[.string ⟨#[40, 41, 123, 125, 91, 93, 44, 59, 58, 46, 43, 45, 42, 47, 37, 60, 62, 61, 33, 38, 124, 64, 63, 94, 126]⟩, .int .u8 c.toNat] w fun e w' => e = .returned (.int .i64 (ix c)) ∧ w = w' :=
  (Tryd.strings_IndexByte _ _ w).mono fun e w' ⟨h1, h2⟩ => ⟨by rw [h1, u8_of]; rfl, h2.symm⟩
set_option maxRecDepth 100000 in
set_option maxHeartbeats 800000 in
theorem sgl_two (c d : UInt8) (r : List UInt8) (w : World) (hl : r.length ≤ 2 ^ 48) (h : two c d = true) : Calls Tryd.prog 50 #[.string (sb (c :: d :: r))] w fun e w' => e = .returned (.int .i64 2) ∧ w = w' := by
  have hs : (sb (c :: d :: r)).size = r.length + 1 + 1 := by rw [sb_size]; rfl
  have hc : (c = 45 ∧ d = 62) ∨ (c = 58 ∧ d = 61) ∨ (c = 61 ∧ d = 61) ∨ (c = 33 ∧ d = 61) ∨ (c = 60 ∧ d = 61) ∨ (c = 62 ∧ d = 61) ∨ (c = 38 ∧ d = 38) ∨ (c = 124 ∧ d = 124) ∨ (c = 46 ∧ d = 46) := by
    simp only [two, decide_eq_true_eq] at h
    simp only [← UInt8.toNat_inj]
    exact h
  clear h
  obtain ⟨s, hS⟩ : ∃ s, s = sb (c :: d :: r) := ⟨_, rfl⟩
  rw [← hS] at hs ⊢
  have h2 : decide ((1 : Int) < (s.size : Int)) = true := decide_eq_true (by omega)
  have hsl : ∀ W, (Instr.sliceAt 9 (.string s) none (some (.int .i64 2)) none).run Tryd.prog W = .ok (.string (sb [c, d])) W := fun W => by rw [hS]; exact run_str_hi W _ 2 (by simp)
  have HSL := Lib.hid hsl
  clear hsl hS hs hl
  rcases hc with ⟨rfl, rfl⟩ | ⟨rfl, rfl⟩ | ⟨rfl, rfl⟩ | ⟨rfl, rfl⟩ | ⟨rfl, rfl⟩ | ⟨rfl, rfl⟩ | ⟨rfl, rfl⟩ | ⟨rfl, rfl⟩ | ⟨rfl, rfl⟩
  · go_enter Tryd.func50, Tryd.ntmps50
    go_wp2_with (first | (refine wpList_dst 7 rfl ?_; refine wpList_run 7 rfl rfl _ (exec_slice_hi 9 (.tmp 6) (.const (.int .i64 2)) rfl (.string s) (.int .i64 2) (.string (sb [45, 62])) rfl rfl (HSL.out _)) ?_; go_frame) | (refine wpList_dst 9 rfl ?_; refine wpList_run 9 rfl rfl _ (exec_bin .eql 9 _ (.tmp 7) _ rfl (.string (sb [45, 62])) (.string (sb [45, 62])) (.bool true) rfl rfl rfl (eq_lit _ _ true (by decide) _)) ?_; go_frame))
    go_ret
    exact ⟨rfl, rfl⟩
  · go_enter Tryd.func50, Tryd.ntmps50
    go_wp2_with (first | (refine wpList_dst 7 rfl ?_; refine wpList_run 7 rfl rfl _ (exec_slice_hi 9 (.tmp 6) (.const (.int .i64 2)) rfl (.string s) (.int .i64 2) (.string (sb [58, 61])) rfl rfl (HSL.out _)) ?_; go_frame) | (refine wpList_dst 9 rfl ?_; refine wpList_run 9 rfl rfl _ (exec_bin .eql 9 _ (.tmp 7) _ rfl (.string (sb [58, 61])) (.string (sb [45, 62])) (.bool false) rfl rfl rfl (eq_lit _ _ false (by decide) _)) ?_; go_frame) | (refine wpList_dst 10 rfl ?_; refine wpList_run 10 rfl rfl _ (exec_bin .eql 9 _ (.tmp 7) _ rfl (.string (sb [58, 61])) (.string (sb [58, 61])) (.bool true) rfl rfl rfl (eq_lit _ _ true (by decide) _)) ?_; go_frame))
    go_ret
    exact ⟨rfl, rfl⟩
  · go_enter Tryd.func50, Tryd.ntmps50
    go_wp2_with (first | (refine wpList_dst 7 rfl ?_; refine wpList_run 7 rfl rfl _ (exec_slice_hi 9 (.tmp 6) (.const (.int .i64 2)) rfl (.string s) (.int .i64 2) (.string (sb [61, 61])) rfl rfl (HSL.out _)) ?_; go_frame) | (refine wpList_dst 9 rfl ?_; refine wpList_run 9 rfl rfl _ (exec_bin .eql 9 _ (.tmp 7) _ rfl (.string (sb [61, 61])) (.string (sb [45, 62])) (.bool false) rfl rfl rfl (eq_lit _ _ false (by decide) _)) ?_; go_frame) | (refine wpList_dst 10 rfl ?_; refine wpList_run 10 rfl rfl _ (exec_bin .eql 9 _ (.tmp 7) _ rfl (.string (sb [61, 61])) (.string (sb [58, 61])) (.bool false) rfl rfl rfl (eq_lit _ _ false (by decide) _)) ?_; go_frame) | (refine wpList_dst 11 rfl ?_; refine wpList_run 11 rfl rfl _ (exec_bin .eql 9 _ (.tmp 7) _ rfl (.string (sb [61, 61])) (.string (sb [61, 61])) (.bool true) rfl rfl rfl (eq_lit _ _ true (by decide) _)) ?_; go_frame))
    go_ret
    exact ⟨rfl, rfl⟩
  · go_enter Tryd.func50, Tryd.ntmps50
    go_wp2_with (first | (refine wpList_dst 7 rfl ?_; refine wpList_run 7 rfl rfl _ (exec_slice_hi 9 (.tmp 6) (.const (.int .i64 2)) rfl (.string s) (.int .i64 2) (.string (sb [33, 61])) rfl rfl (HSL.out _)) ?_; go_frame) | (refine wpList_dst 9 rfl ?_; refine wpList_run 9 rfl rfl _ (exec_bin .eql 9 _ (.tmp 7) _ rfl (.string (sb [33, 61])) (.string (sb [45, 62])) (.bool false) rfl rfl rfl (eq_lit _ _ false (by decide) _)) ?_; go_frame) | (refine wpList_dst 10 rfl ?_; refine wpList_run 10 rfl rfl _ (exec_bin .eql 9 _ (.tmp 7) _ rfl (.string (sb [33, 61])) (.string (sb [58, 61])) (.bool false) rfl rfl rfl (eq_lit _ _ false (by decide) _)) ?_; go_frame) | (refine wpList_dst 11 rfl ?_; refine wpList_run 11 rfl rfl _ (exec_bin .eql 9 _ (.tmp 7) _ rfl (.string (sb [33, 61])) (.string (sb [61, 61])) (.bool false) rfl rfl rfl (eq_lit _ _ false (by decide) _)) ?_; go_frame) | (refine wpList_dst 12 rfl ?_; refine wpList_run 12 rfl rfl _ (exec_bin .eql 9 _ (.tmp 7) _ rfl (.string (sb [33, 61])) (.string (sb [33, 61])) (.bool true) rfl rfl rfl (eq_lit _ _ true (by decide) _)) ?_; go_frame))
    go_ret
    exact ⟨rfl, rfl⟩
  · go_enter Tryd.func50, Tryd.ntmps50
    go_wp2_with (first | (refine wpList_dst 7 rfl ?_; refine wpList_run 7 rfl rfl _ (exec_slice_hi 9 (.tmp 6) (.const (.int .i64 2)) rfl (.string s) (.int .i64 2) (.string (sb [60, 61])) rfl rfl (HSL.out _)) ?_; go_frame) | (refine wpList_dst 9 rfl ?_; refine wpList_run 9 rfl rfl _ (exec_bin .eql 9 _ (.tmp 7) _ rfl (.string (sb [60, 61])) (.string (sb [45, 62])) (.bool false) rfl rfl rfl (eq_lit _ _ false (by decide) _)) ?_; go_frame) | (refine wpList_dst 10 rfl ?_; refine wpList_run 10 rfl rfl _ (exec_bin .eql 9 _ (.tmp 7) _ rfl (.string (sb [60, 61])) (.string (sb [58, 61])) (.bool false) rfl rfl rfl (eq_lit _ _ false (by decide) _)) ?_; go_frame) | (refine wpList_dst 11 rfl ?_; refine wpList_run 11 rfl rfl _ (exec_bin .eql 9 _ (.tmp 7) _ rfl (.string (sb [60, 61])) (.string (sb [61, 61])) (.bool false) rfl rfl rfl (eq_lit _ _ false (by decide) _)) ?_; go_frame) | (refine wpList_dst 12 rfl ?_; refine wpList_run 12 rfl rfl _ (exec_bin .eql 9 _ (.tmp 7) _ rfl (.string (sb [60, 61])) (.string (sb [33, 61])) (.bool false) rfl rfl rfl (eq_lit _ _ false (by decide) _)) ?_; go_frame) | (refine wpList_dst 13 rfl ?_; refine wpList_run 13 rfl rfl _ (exec_bin .eql 9 _ (.tmp 7) _ rfl (.string (sb [60, 61])) (.string (sb [60, 61])) (.bool true) rfl rfl rfl (eq_lit _ _ true (by decide) _)) ?_; go_frame))
    go_ret
    exact ⟨rfl, rfl⟩
  · go_enter Tryd.func50, Tryd.ntmps50
    go_wp2_with (first | (refine wpList_dst 7 rfl ?_; refine wpList_run 7 rfl rfl _ (exec_slice_hi 9 (.tmp 6) (.const (.int .i64 2)) rfl (.string s) (.int .i64 2) (.string (sb [62, 61])) rfl rfl (HSL.out _)) ?_; go_frame) | (refine wpList_dst 9 rfl ?_; refine wpList_run 9 rfl rfl _ (exec_bin .eql 9 _ (.tmp 7) _ rfl (.string (sb [62, 61])) (.string (sb [45, 62])) (.bool false) rfl rfl rfl (eq_lit _ _ false (by decide) _)) ?_; go_frame) | (refine wpList_dst 10 rfl ?_; refine wpList_run 10 rfl rfl _ (exec_bin .eql 9 _ (.tmp 7) _ rfl (.string (sb [62, 61])) (.string (sb [58, 61])) (.bool false) rfl rfl rfl (eq_lit _ _ false (by decide) _)) ?_; go_frame) | (refine wpList_dst 11 rfl ?_; refine wpList_run 11 rfl rfl _ (exec_bin .eql 9 _ (.tmp 7) _ rfl (.string (sb [62, 61])) (.string (sb [61, 61])) (.bool false) rfl rfl rfl (eq_lit _ _ false (by decide) _)) ?_; go_frame) | (refine wpList_dst 12 rfl ?_; refine wpList_run 12 rfl rfl _ (exec_bin .eql 9 _ (.tmp 7) _ rfl (.string (sb [62, 61])) (.string (sb [33, 61])) (.bool false) rfl rfl rfl (eq_lit _ _ false (by decide) _)) ?_; go_frame) | (refine wpList_dst 13 rfl ?_; refine wpList_run 13 rfl rfl _ (exec_bin .eql 9 _ (.tmp 7) _ rfl (.string (sb [62, 61])) (.string (sb [60, 61])) (.bool false) rfl rfl rfl (eq_lit _ _ false (by decide) _)) ?_; go_frame) | (refine wpList_dst 14 rfl ?_; refine wpList_run 14 rfl rfl _ (exec_bin .eql 9 _ (.tmp 7) _ rfl (.string (sb [62, 61])) (.string (sb [62, 61])) (.bool true) rfl rfl rfl (eq_lit _ _ true (by decide) _)) ?_; go_frame))
    go_ret
    exact ⟨rfl, rfl⟩
  · go_enter Tryd.func50, Tryd.ntmps50
    go_wp2_with (first | (refine wpList_dst 7 rfl ?_; refine wpList_run 7 rfl rfl _ (exec_slice_hi 9 (.tmp 6) (.const (.int .i64 2)) rfl (.string s) (.int .i64 2) (.string (sb [38, 38])) rfl rfl (HSL.out _)) ?_; go_frame) | (refine wpList_dst 9 rfl ?_; refine wpList_run 9 rfl rfl _ (exec_bin .eql 9 _ (.tmp 7) _ rfl (.string (sb [38, 38])) (.string (sb [45, 62])) (.bool false) rfl rfl rfl (eq_lit _ _ false (by decide) _)) ?_; go_frame) | (refine wpList_dst 10 rfl ?_; refine wpList_run 10 rfl rfl _ (exec_bin .eql 9 _ (.tmp 7) _ rfl (.string (sb [38, 38])) (.string (sb [58, 61])) (.bool false) rfl rfl rfl (eq_lit _ _ false (by decide) _)) ?_; go_frame) | (refine wpList_dst 11 rfl ?_; refine wpList_run 11 rfl rfl _ (exec_bin .eql 9 _ (.tmp 7) _ rfl (.string (sb [38, 38])) (.string (sb [61, 61])) (.bool false) rfl rfl rfl (eq_lit _ _ false (by decide) _)) ?_; go_frame) | (refine wpList_dst 12 rfl ?_; refine wpList_run 12 rfl rfl _ (exec_bin .eql 9 _ (.tmp 7) _ rfl (.string (sb [38, 38])) (.string (sb [33, 61])) (.bool false) rfl rfl rfl (eq_lit _ _ false (by decide) _)) ?_; go_frame) | (refine wpList_dst 13 rfl ?_; refine wpList_run 13 rfl rfl _ (exec_bin .eql 9 _ (.tmp 7) _ rfl (.string (sb [38, 38])) (.string (sb [60, 61])) (.bool false) rfl rfl rfl (eq_lit _ _ false (by decide) _)) ?_; go_frame) | (refine wpList_dst 14 rfl ?_; refine wpList_run 14 rfl rfl _ (exec_bin .eql 9 _ (.tmp 7) _ rfl (.string (sb [38, 38])) (.string (sb [62, 61])) (.bool false) rfl rfl rfl (eq_lit _ _ false (by decide) _)) ?_; go_frame) | (refine wpList_dst 15 rfl ?_; refine wpList_run 15 rfl rfl _ (exec_bin .eql 9 _ (.tmp 7) _ rfl (.string (sb [38, 38])) (.string (sb [38, 38])) (.bool true) rfl rfl rfl (eq_lit _ _ true (by decide) _)) ?_; go_frame))
    go_ret
    exact ⟨rfl, rfl⟩
  · go_enter Tryd.func50, Tryd.ntmps50
    go_wp2_with (first | (refine wpList_dst 7 rfl ?_; refine wpList_run 7 rfl rfl _ (exec_slice_hi 9 (.tmp 6) (.const (.int .i64 2)) rfl (.string s) (.int .i64 2) (.string (sb [124, 124])) rfl rfl (HSL.out _)) ?_; go_frame) | (refine wpList_dst 9 rfl ?_; refine wpList_run 9 rfl rfl _ (exec_bin .eql 9 _ (.tmp 7) _ rfl (.string (sb [124, 124])) (.string (sb [45, 62])) (.bool false) rfl rfl rfl (eq_lit _ _ false (by decide) _)) ?_; go_frame) | (refine wpList_dst 10 rfl ?_; refine wpList_run 10 rfl rfl _ (exec_bin .eql 9 _ (.tmp 7) _ rfl (.string (sb [124, 124])) (.string (sb [58, 61])) (.bool false) rfl rfl rfl (eq_lit _ _ false (by decide) _)) ?_; go_frame) | (refine wpList_dst 11 rfl ?_; refine wpList_run 11 rfl rfl _ (exec_bin .eql 9 _ (.tmp 7) _ rfl (.string (sb [124, 124])) (.string (sb [61, 61])) (.bool false) rfl rfl rfl (eq_lit _ _ false (by decide) _)) ?_; go_frame) | (refine wpList_dst 12 rfl ?_; refine wpList_run 12 rfl rfl _ (exec_bin .eql 9 _ (.tmp 7) _ rfl (.string (sb [124, 124])) (.string (sb [33, 61])) (.bool false) rfl rfl rfl (eq_lit _ _ false (by decide) _)) ?_; go_frame) | (refine wpList_dst 13 rfl ?_; refine wpList_run 13 rfl rfl _ (exec_bin .eql 9 _ (.tmp 7) _ rfl (.string (sb [124, 124])) (.string (sb [60, 61])) (.bool false) rfl rfl rfl (eq_lit _ _ false (by decide) _)) ?_; go_frame) | (refine wpList_dst 14 rfl ?_; refine wpList_run 14 rfl rfl _ (exec_bin .eql 9 _ (.tmp 7) _ rfl (.string (sb [124, 124])) (.string (sb [62, 61])) (.bool false) rfl rfl rfl (eq_lit _ _ false (by decide) _)) ?_; go_frame) | (refine wpList_dst 15 rfl ?_; refine wpList_run 15 rfl rfl _ (exec_bin .eql 9 _ (.tmp 7) _ rfl (.string (sb [124, 124])) (.string (sb [38, 38])) (.bool false) rfl rfl rfl (eq_lit _ _ false (by decide) _)) ?_; go_frame) | (refine wpList_dst 16 rfl ?_; refine wpList_run 16 rfl rfl _ (exec_bin .eql 9 _ (.tmp 7) _ rfl (.string (sb [124, 124])) (.string (sb [124, 124])) (.bool true) rfl rfl rfl (eq_lit _ _ true (by decide) _)) ?_; go_frame))
    go_ret
    exact ⟨rfl, rfl⟩
  · go_enter Tryd.func50, Tryd.ntmps50
    go_wp2_with (first | (refine wpList_dst 7 rfl ?_; refine wpList_run 7 rfl rfl _ (exec_slice_hi 9 (.tmp 6) (.const (.int .i64 2)) rfl (.string s) (.int .i64 2) (.string (sb [46, 46])) rfl rfl (HSL.out _)) ?_; go_frame) | (refine wpList_dst 9 rfl ?_; refine wpList_run 9 rfl rfl _ (exec_bin .eql 9 _ (.tmp 7) _ rfl (.string (sb [46, 46])) (.string (sb [45, 62])) (.bool false) rfl rfl rfl (eq_lit _ _ false (by decide) _)) ?_; go_frame) | (refine wpList_dst 10 rfl ?_; refine wpList_run 10 rfl rfl _ (exec_bin .eql 9 _ (.tmp 7) _ rfl (.string (sb [46, 46])) (.string (sb [58, 61])) (.bool false) rfl rfl rfl (eq_lit _ _ false (by decide) _)) ?_; go_frame) | (refine wpList_dst 11 rfl ?_; refine wpList_run 11 rfl rfl _ (exec_bin .eql 9 _ (.tmp 7) _ rfl (.string (sb [46, 46])) (.string (sb [61, 61])) (.bool false) rfl rfl rfl (eq_lit _ _ false (by decide) _)) ?_; go_frame) | (refine wpList_dst 12 rfl ?_; refine wpList_run 12 rfl rfl _ (exec_bin .eql 9 _ (.tmp 7) _ rfl (.string (sb [46, 46])) (.string (sb [33, 61])) (.bool false) rfl rfl rfl (eq_lit _ _ false (by decide) _)) ?_; go_frame) | (refine wpList_dst 13 rfl ?_; refine wpList_run 13 rfl rfl _ (exec_bin .eql 9 _ (.tmp 7) _ rfl (.string (sb [46, 46])) (.string (sb [60, 61])) (.bool false) rfl rfl rfl (eq_lit _ _ false (by decide) _)) ?_; go_frame) | (refine wpList_dst 14 rfl ?_; refine wpList_run 14 rfl rfl _ (exec_bin .eql 9 _ (.tmp 7) _ rfl (.string (sb [46, 46])) (.string (sb [62, 61])) (.bool false) rfl rfl rfl (eq_lit _ _ false (by decide) _)) ?_; go_frame) | (refine wpList_dst 15 rfl ?_; refine wpList_run 15 rfl rfl _ (exec_bin .eql 9 _ (.tmp 7) _ rfl (.string (sb [46, 46])) (.string (sb [38, 38])) (.bool false) rfl rfl rfl (eq_lit _ _ false (by decide) _)) ?_; go_frame) | (refine wpList_dst 16 rfl ?_; refine wpList_run 16 rfl rfl _ (exec_bin .eql 9 _ (.tmp 7) _ rfl (.string (sb [46, 46])) (.string (sb [124, 124])) (.bool false) rfl rfl rfl (eq_lit _ _ false (by decide) _)) ?_; go_frame) | (refine wpList_dst 17 rfl ?_; refine wpList_run 17 rfl rfl _ (exec_bin .eql 9 _ (.tmp 7) _ rfl (.string (sb [46, 46])) (.string (sb [46, 46])) (.bool true) rfl rfl rfl (eq_lit _ _ true (by decide) _)) ?_; go_frame))
    go_ret
    exact ⟨rfl, rfl⟩
set_option maxRecDepth 100000 in
set_option maxHeartbeats 800000 in
theorem sgl_end (c : UInt8) (w : World) : Calls Tryd.prog 50 #[.string (sb ([c]))] w fun e w' => e = .returned (.int .i64 (if one c = true then 1 else 0)) ∧ w = w' := by
  have hi := ix_one c
  obtain ⟨s, hS⟩ : ∃ s, s = sb ([c]) := ⟨_, rfl⟩
  rw [← hS]
  have hix : ∀ W, (Instr.index 9 (.string s) (.int .i64 0)).run Tryd.prog W = .ok (.int .u8 c.toNat) W := fun W => by rw [hS]; exact sb_at (sb ([c])) (k := 0) (by simp [sb]) W
  have HIX := Lib.hid hix
  have h2 : decide ((1 : Int) < (s.size : Int)) = false := by rw [hS, sb_size]; rfl
  clear hix hS
  cases ho : one c
  · have h0 : ix c < 0 := by rw [ho] at hi; simpa using hi
    clear hi ho
    go_enter Tryd.func50, Tryd.ntmps50
    go_wp2_with (first | (refine wpList_dst 19 rfl ?_; refine wpList_run 19 rfl rfl _ (exec_index 9 (.tmp 18) (.const (.int .i64 0)) rfl _ _ (.int .u8 c.toNat) rfl rfl (HIX.out _)) ?_; go_frame) | (refine (ix_any c _).mono ?_; rintro e w1 ⟨rfl, rfl⟩))
    go_ret
    exact ⟨rfl, rfl⟩
  · have h0 : 0 ≤ ix c := by rw [ho] at hi; simpa using hi
    clear hi ho
    go_enter Tryd.func50, Tryd.ntmps50
    go_wp2_with (first | (refine wpList_dst 19 rfl ?_; refine wpList_run 19 rfl rfl _ (exec_index 9 (.tmp 18) (.const (.int .i64 0)) rfl _ _ (.int .u8 c.toNat) rfl rfl (HIX.out _)) ?_; go_frame) | (refine (ix_any c _).mono ?_; rintro e w1 ⟨rfl, rfl⟩))
    go_ret
    exact ⟨rfl, rfl⟩
set_option maxRecDepth 100000 in
set_option maxHeartbeats 800000 in
theorem sgl_one (c d : UInt8) (r : List UInt8) (w : World) (hl : r.length ≤ 2 ^ 48) (h : two c d = false) : Calls Tryd.prog 50 #[.string (sb (c :: d :: r))] w fun e w' => e = .returned (.int .i64 (if one c = true then 1 else 0)) ∧ w = w' := by
  have hi := ix_one c
  obtain ⟨s, hS⟩ : ∃ s, s = sb (c :: d :: r) := ⟨_, rfl⟩
  rw [← hS]
  have hix : ∀ W, (Instr.index 9 (.string s) (.int .i64 0)).run Tryd.prog W = .ok (.int .u8 c.toNat) W := fun W => by rw [hS]; exact sb_at (sb (c :: d :: r)) (k := 0) (by simp [sb]) W
  have HIX := Lib.hid hix
  have hs : s.size = r.length + 1 + 1 := by rw [hS, sb_size]; rfl
  have h2 : decide ((1 : Int) < (s.size : Int)) = true := decide_eq_true (by omega)
  have hsl : ∀ W, (Instr.sliceAt 9 (.string s) none (some (.int .i64 2)) none).run Tryd.prog W = .ok (.string (sb [c, d])) W := fun W => by rw [hS]; exact run_str_hi W _ 2 (by simp)
  have HSL := Lib.hid hsl
  have HT := Lib.hid h
  clear hsl hs hl h
  clear hix hS
  cases ho : one c
  · have h0 : ix c < 0 := by rw [ho] at hi; simpa using hi
    clear hi ho
    go_enter Tryd.func50, Tryd.ntmps50
    go_wp2_with (first | (refine wpList_dst 7 rfl ?_; refine wpList_run 7 rfl rfl _ (exec_slice_hi 9 (.tmp 6) (.const (.int .i64 2)) rfl (.string s) (.int .i64 2) (.string (sb [c, d])) rfl rfl (HSL.out _)) ?_; go_frame) | (refine wpList_dst 9 rfl ?_; refine wpList_run 9 rfl rfl _ (exec_bin .eql 9 _ (.tmp 7) _ rfl (.string (sb [c, d])) (.string (sb [45, 62])) (.bool false) rfl rfl rfl (eq_lit _ _ false (two_ne HT.out 45 62 rfl) _)) ?_; go_frame) | (refine wpList_dst 10 rfl ?_; refine wpList_run 10 rfl rfl _ (exec_bin .eql 9 _ (.tmp 7) _ rfl (.string (sb [c, d])) (.string (sb [58, 61])) (.bool false) rfl rfl rfl (eq_lit _ _ false (two_ne HT.out 58 61 rfl) _)) ?_; go_frame) | (refine wpList_dst 11 rfl ?_; refine wpList_run 11 rfl rfl _ (exec_bin .eql 9 _ (.tmp 7) _ rfl (.string (sb [c, d])) (.string (sb [61, 61])) (.bool false) rfl rfl rfl (eq_lit _ _ false (two_ne HT.out 61 61 rfl) _)) ?_; go_frame) | (refine wpList_dst 12 rfl ?_; refine wpList_run 12 rfl rfl _ (exec_bin .eql 9 _ (.tmp 7) _ rfl (.string (sb [c, d])) (.string (sb [33, 61])) (.bool false) rfl rfl rfl (eq_lit _ _ false (two_ne HT.out 33 61 rfl) _)) ?_; go_frame) | (refine wpList_dst 13 rfl ?_; refine wpList_run 13 rfl rfl _ (exec_bin .eql 9 _ (.tmp 7) _ rfl (.string (sb [c, d])) (.string (sb [60, 61])) (.bool false) rfl rfl rfl (eq_lit _ _ false (two_ne HT.out 60 61 rfl) _)) ?_; go_frame) | (refine wpList_dst 14 rfl ?_; refine wpList_run 14 rfl rfl _ (exec_bin .eql 9 _ (.tmp 7) _ rfl (.string (sb [c, d])) (.string (sb [62, 61])) (.bool false) rfl rfl rfl (eq_lit _ _ false (two_ne HT.out 62 61 rfl) _)) ?_; go_frame) | (refine wpList_dst 15 rfl ?_; refine wpList_run 15 rfl rfl _ (exec_bin .eql 9 _ (.tmp 7) _ rfl (.string (sb [c, d])) (.string (sb [38, 38])) (.bool false) rfl rfl rfl (eq_lit _ _ false (two_ne HT.out 38 38 rfl) _)) ?_; go_frame) | (refine wpList_dst 16 rfl ?_; refine wpList_run 16 rfl rfl _ (exec_bin .eql 9 _ (.tmp 7) _ rfl (.string (sb [c, d])) (.string (sb [124, 124])) (.bool false) rfl rfl rfl (eq_lit _ _ false (two_ne HT.out 124 124 rfl) _)) ?_; go_frame) | (refine wpList_dst 17 rfl ?_; refine wpList_run 17 rfl rfl _ (exec_bin .eql 9 _ (.tmp 7) _ rfl (.string (sb [c, d])) (.string (sb [46, 46])) (.bool false) rfl rfl rfl (eq_lit _ _ false (two_ne HT.out 46 46 rfl) _)) ?_; go_frame) | (refine wpList_dst 19 rfl ?_; refine wpList_run 19 rfl rfl _ (exec_index 9 (.tmp 18) (.const (.int .i64 0)) rfl _ _ (.int .u8 c.toNat) rfl rfl (HIX.out _)) ?_; go_frame) | (refine (ix_any c _).mono ?_; rintro e w1 ⟨rfl, rfl⟩))
    go_ret
    exact ⟨rfl, rfl⟩
  · have h0 : 0 ≤ ix c := by rw [ho] at hi; simpa using hi
    clear hi ho
    go_enter Tryd.func50, Tryd.ntmps50
    go_wp2_with (first | (refine wpList_dst 7 rfl ?_; refine wpList_run 7 rfl rfl _ (exec_slice_hi 9 (.tmp 6) (.const (.int .i64 2)) rfl (.string s) (.int .i64 2) (.string (sb [c, d])) rfl rfl (HSL.out _)) ?_; go_frame) | (refine wpList_dst 9 rfl ?_; refine wpList_run 9 rfl rfl _ (exec_bin .eql 9 _ (.tmp 7) _ rfl (.string (sb [c, d])) (.string (sb [45, 62])) (.bool false) rfl rfl rfl (eq_lit _ _ false (two_ne HT.out 45 62 rfl) _)) ?_; go_frame) | (refine wpList_dst 10 rfl ?_; refine wpList_run 10 rfl rfl _ (exec_bin .eql 9 _ (.tmp 7) _ rfl (.string (sb [c, d])) (.string (sb [58, 61])) (.bool false) rfl rfl rfl (eq_lit _ _ false (two_ne HT.out 58 61 rfl) _)) ?_; go_frame) | (refine wpList_dst 11 rfl ?_; refine wpList_run 11 rfl rfl _ (exec_bin .eql 9 _ (.tmp 7) _ rfl (.string (sb [c, d])) (.string (sb [61, 61])) (.bool false) rfl rfl rfl (eq_lit _ _ false (two_ne HT.out 61 61 rfl) _)) ?_; go_frame) | (refine wpList_dst 12 rfl ?_; refine wpList_run 12 rfl rfl _ (exec_bin .eql 9 _ (.tmp 7) _ rfl (.string (sb [c, d])) (.string (sb [33, 61])) (.bool false) rfl rfl rfl (eq_lit _ _ false (two_ne HT.out 33 61 rfl) _)) ?_; go_frame) | (refine wpList_dst 13 rfl ?_; refine wpList_run 13 rfl rfl _ (exec_bin .eql 9 _ (.tmp 7) _ rfl (.string (sb [c, d])) (.string (sb [60, 61])) (.bool false) rfl rfl rfl (eq_lit _ _ false (two_ne HT.out 60 61 rfl) _)) ?_; go_frame) | (refine wpList_dst 14 rfl ?_; refine wpList_run 14 rfl rfl _ (exec_bin .eql 9 _ (.tmp 7) _ rfl (.string (sb [c, d])) (.string (sb [62, 61])) (.bool false) rfl rfl rfl (eq_lit _ _ false (two_ne HT.out 62 61 rfl) _)) ?_; go_frame) | (refine wpList_dst 15 rfl ?_; refine wpList_run 15 rfl rfl _ (exec_bin .eql 9 _ (.tmp 7) _ rfl (.string (sb [c, d])) (.string (sb [38, 38])) (.bool false) rfl rfl rfl (eq_lit _ _ false (two_ne HT.out 38 38 rfl) _)) ?_; go_frame) | (refine wpList_dst 16 rfl ?_; refine wpList_run 16 rfl rfl _ (exec_bin .eql 9 _ (.tmp 7) _ rfl (.string (sb [c, d])) (.string (sb [124, 124])) (.bool false) rfl rfl rfl (eq_lit _ _ false (two_ne HT.out 124 124 rfl) _)) ?_; go_frame) | (refine wpList_dst 17 rfl ?_; refine wpList_run 17 rfl rfl _ (exec_bin .eql 9 _ (.tmp 7) _ rfl (.string (sb [c, d])) (.string (sb [46, 46])) (.bool false) rfl rfl rfl (eq_lit _ _ false (two_ne HT.out 46 46 rfl) _)) ?_; go_frame) | (refine wpList_dst 19 rfl ?_; refine wpList_run 19 rfl rfl _ (exec_index 9 (.tmp 18) (.const (.int .i64 0)) rfl _ _ (.int .u8 c.toNat) rfl rfl (HIX.out _)) ?_; go_frame) | (refine (ix_any c _).mono ?_; rintro e w1 ⟨rfl, rfl⟩))
    go_ret
    exact ⟨rfl, rfl⟩
theorem sgl_any (c : UInt8) (r : List UInt8) (w : World) (hl : r.length ≤ 2 ^ 48) : Calls Tryd.prog 50 #[.string (sb (c :: r))] w fun e w' => e = .returned (.int .i64 ((sgn c r).len : Nat)) ∧ w = w' := by
  cases r with
  | nil =>
    refine (sgl_end c w).mono fun e w' h => ⟨?_, h.2⟩
    rw [h.1]
    unfold sgn
    cases one c <;> rfl
  | cons d r =>
    have hl' : r.length ≤ 2 ^ 48 := by simp only [List.length_cons] at hl; omega
    cases ht : two c d
    · refine (sgl_one c d r w hl' ht).mono fun e w' h => ⟨?_, h.2⟩
      rw [h.1]
      simp only [sgn, ht]
      cases one c <;> rfl
    · refine (sgl_two c d r w hl' ht).mono fun e w' h => ⟨?_, h.2⟩
      rw [h.1]
      simp only [sgn, ht]
      rfl
end Go.Proofs.YtggjgikpiljoiaaDoor
