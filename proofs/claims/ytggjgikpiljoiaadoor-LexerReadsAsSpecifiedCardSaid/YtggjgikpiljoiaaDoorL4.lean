/- Words. -/
import Derived.Test.YtggjgikpiljoiaaDoorL3
namespace Go.Proofs.YtggjgikpiljoiaaDoor
open Go.RowKit Hm Wm Lx

theorem fa_lexer_reader_0_0 (g : Nat) (W : World) : (Instr.fieldAt 46 (.pointer (some ⟨g, 0, none⟩)) 0).run Tryd.prog W = .ok (.pointer (some ⟨g, 0, none⟩)) W := by kernel_rfl
theorem flat_string (W : World) : (isAgg 9).run Tryd.prog W = .ok false W := by kernel_rfl
theorem fa_lexer_reader_1_0 (g : Nat) (W : World) : (Instr.fieldAt 46 (.pointer (some ⟨g, 0, none⟩)) 1).run Tryd.prog W = .ok (.pointer (some ⟨g, 1, none⟩)) W := by kernel_rfl
theorem flat_int (W : World) : (isAgg 3).run Tryd.prog W = .ok false W := by kernel_rfl
theorem exec_nilCheck {oi : Oper} {a : Act} {w : World} (x : Operand) (ho : oi.op = .nilCheck x) (q : Option Addr) (hx : a.eval x = .pointer q) (hq : q.isSome = true := by rfl) : (execOp a.eval oi).run Tryd.prog w = .ok (.value (.pointer q)) w := by
  cases q with
  | none => cases hq
  | some q => simp [execOp, ho, hx]
theorem word_at {R : List UInt8} {j : Nat} {c : UInt8} (h : (R.take j).all wd = true) (hc : R[j]? = some c) (hw : wd c = false) : word R = R.take j := by
  obtain ⟨hj, rfl⟩ := List.getElem?_eq_some_iff.1 hc
  have e : R = R.take j ++ R[j] :: R.drop (j + 1) := by rw [← List.drop_eq_getElem_cons hj, List.take_append_drop]
  have : ∀ (u t : List UInt8) (d : UInt8), u.all wd = true → wd d = false → (u ++ d :: t).takeWhile wd = u := by
    intro u
    induction u with
    | nil => intro t d _ hd; simp [hd]
    | cons b u ih =>
      intro t d hu hd
      simp only [List.all_cons, Bool.and_eq_true] at hu
      simp [hu.1, ih t d hu.2 hd]
  unfold word
  conv => lhs; rw [e]
  exact this _ _ _ h hw
theorem word_all {R : List UInt8} (h : R.all wd = true) : word R = R := by
  unfold word
  induction R with
  | nil => rfl
  | cons c R ih =>
    simp only [List.all_cons, Bool.and_eq_true] at h
    simp [h.1, ih h.2]
theorem all_more {R : List UInt8} {j : Nat} {c : UInt8} (h : (R.take j).all wd = true) (hc : R[j]? = some c) (hw : wd c = true) : (R.take (j + 1)).all wd = true := by
  obtain ⟨hj, rfl⟩ := List.getElem?_eq_some_iff.1 hc
  rw [List.take_succ_eq_append_getElem hj, List.all_append, h]
  simp [hw]
set_option maxRecDepth 100000 in
set_option maxHeartbeats 800000 in
theorem word_any (g p : Nat) (l : List UInt8) (v : Value) (w : World) (hR : Blk w g 46 [.string (sb l), .int .i64 p, v]) (hp : p ≤ l.length) (hl : l.length ≤ 65536) :
    Calls Tryd.prog 47 #[.pointer (some ⟨g, 0, none⟩)] w fun e w' => e = .returned (.string (sb (word (l.drop p)))) ∧ Below w.heap.size w w' := by
  have HR := Lib.hid hR
  have HW := Lib.hid (Below.refl w.heap.size w)
  clear hR
  go_enter Tryd.func47, Tryd.ntmps47
  go_wp2_with fail
  refine late_begin (S := fun _ W => Blk W g 46 [.string (sb l), .int .i64 p, v]) (by kernel_rfl) ?_
  have hR0 := HR.out.drew
  have hW0 := HW.out.drew
  generalize w.drew = u0 at hR0 hW0 ⊢
  clear HR HW
  refine late_take [] (i := 0) (some 5) rfl rfl (by first | rfl | kernel_rfl) (by kernel_rfl) (by kernel_rfl) (by kernel_rfl) (by kernel_rfl) (by kernel_rfl) (fun Ls W h => h) (.pointer (some ⟨g, 0, none⟩)) (fun _ _ _ h => h) (fun Ls W hl0 hW => exec_move (.tmp 0) rfl _ rfl) hR0 hR0 ?_
  go_frame
  refine late_take [] (i := 1) (some 6) rfl rfl (by first | rfl | kernel_rfl) (by kernel_rfl) (by kernel_rfl) (by kernel_rfl) (by kernel_rfl) (by kernel_rfl) (fun Ls W h => h) (.pointer (some ⟨g, 0, none⟩)) (fun _ _ _ h => h) (fun Ls W hl0 hW => exec_nilCheck _ rfl  (some ⟨g, 0, none⟩) rfl) hR0 hR0 ?_
  go_frame
  refine late_take [] (i := 2) (some 7) rfl rfl (by first | rfl | kernel_rfl) (by kernel_rfl) (by kernel_rfl) (by kernel_rfl) (by kernel_rfl) (by kernel_rfl) (fun Ls W h => h) (.pointer (some ⟨g, 0, none⟩)) (fun _ _ _ h => h) (fun Ls W hl0 hW => exec_fieldAddr 46 (.tmp 6) 0 rfl _ _ rfl (fa_lexer_reader_0_0 _ _)) hR0 hR0 ?_
  go_frame
  refine late_take [] (i := 3) (some 8) rfl rfl (by first | rfl | kernel_rfl) (by kernel_rfl) (by kernel_rfl) (by kernel_rfl) (by kernel_rfl) (by kernel_rfl) (fun Ls W h => h) (.string (sb l)) (fun _ _ _ h => h) (fun Ls W hl0 hW => exec_load 9 (.tmp 7) rfl _ _ rfl (run_load_cell flat_string (hW.cell 0))) hR0 hR0 ?_
  go_frame
  refine late_take [] (i := 4) (some 9) rfl rfl (by first | rfl | kernel_rfl) (by kernel_rfl) (by kernel_rfl) (by kernel_rfl) (by kernel_rfl) (by kernel_rfl) (fun Ls W h => h) (.pointer (some ⟨g, 0, none⟩)) (fun _ _ _ h => h) (fun Ls W hl0 hW => exec_move (.tmp 0) rfl _ rfl) hR0 hR0 ?_
  go_frame
  refine late_take [] (i := 5) (some 10) rfl rfl (by first | rfl | kernel_rfl) (by kernel_rfl) (by kernel_rfl) (by kernel_rfl) (by kernel_rfl) (by kernel_rfl) (fun Ls W h => h) (.pointer (some ⟨g, 0, none⟩)) (fun _ _ _ h => h) (fun Ls W hl0 hW => exec_nilCheck _ rfl  (some ⟨g, 0, none⟩) rfl) hR0 hR0 ?_
  go_frame
  refine late_take [] (i := 6) (some 11) rfl rfl (by first | rfl | kernel_rfl) (by kernel_rfl) (by kernel_rfl) (by kernel_rfl) (by kernel_rfl) (by kernel_rfl) (fun Ls W h => h) (.pointer (some ⟨g, 1, none⟩)) (fun _ _ _ h => h) (fun Ls W hl0 hW => exec_fieldAddr 46 (.tmp 10) 1 rfl _ _ rfl (fa_lexer_reader_1_0 _ _)) hR0 hR0 ?_
  go_frame
  refine late_take [] (i := 7) (some 12) rfl rfl (by first | rfl | kernel_rfl) (by kernel_rfl) (by kernel_rfl) (by kernel_rfl) (by kernel_rfl) (by kernel_rfl) (fun Ls W h => h) (.int .i64 p) (fun _ _ _ h => h) (fun Ls W hl0 hW => exec_load 3 (.tmp 11) rfl _ _ rfl (run_load_cell flat_int (hW.cell 1))) hR0 hR0 ?_
  go_frame
  refine late_take [] (i := 8) (some 13) rfl rfl (by first | rfl | kernel_rfl) (by kernel_rfl) (by kernel_rfl) (by kernel_rfl) (by kernel_rfl) (by kernel_rfl) (fun Ls W h => h) (.string (sb (l.drop p))) (fun _ _ _ h => h) (fun Ls W hl0 hW => exec_slice_lo 9 (.tmp 8) (.tmp 12) rfl _ _ _ rfl rfl (run_str_lo W l p hp)) hR0 hR0 ?_
  go_frame
  refine late_take [] (i := 9) (some 3) rfl rfl (by first | rfl | kernel_rfl) (by kernel_rfl) (by kernel_rfl) (by kernel_rfl) (by kernel_rfl) (by kernel_rfl) (fun Ls W h => h) (.string (sb (l.drop p))) (fun _ _ _ h => h) (fun Ls W hl0 hW => exec_assign (.tmp 13) rfl _ rfl) hR0 hR0 ?_
  refine late_done (by kernel_rfl) ?_ _
  go_frame
  have HR := Lib.hid hR0
  have HW := Lib.hid hW0
  clear hR0 hW0
  generalize hRR : l.drop p = R
  have hRl : R.length ≤ 65536 := by rw [← hRR, List.length_drop]; omega
  have hz : (sb R).size = R.length := sb_size R
  have HRR := Lib.hid hRR
  clear hRR hp hl HR
  go_wp2_with fail
  go_loop [16] (fun k => ∃ j : Nat, k = .int .i64 j ∧ j ≤ R.length ∧ Hid ((R.take j).all wd = true)) (fun k => R.length - (intOf k).toNat)
  case atStart => exact ⟨0, rfl, Nat.zero_le _, Lib.hid (by simp)⟩
  case round =>
    obtain ⟨j, rfl, hj, HA⟩ := hrel
    by_cases hlt : j < R.length
    · obtain ⟨c, hc⟩ : ∃ c, R[j]? = some c := ⟨R[j], List.getElem?_eq_getElem hlt⟩
      have HC := Lib.hid hc
      clear hc
      cases hw : wd c
      · have HWD := Lib.hid hw
        clear hw
        go_wp2_with (first | (refine wpList_dst 21 rfl ?_; refine wpList_run 21 rfl rfl _ (exec_index 9 (.tmp 19) (.tmp 20) rfl _ _ (.int .u8 c.toNat) rfl rfl (sb_at (sb R) (k := j) (by rw [sb_list]; exact HC.out) _)) ?_; go_frame) | (refine wpList_dst 26 rfl ?_; refine wpList_run 26 rfl rfl _ (exec_slice_hi 9 (.tmp 24) (.tmp 25) rfl (.string (sb R)) (.int .i64 j) (.string (sb (R.take j))) rfl rfl (run_str_hi _ R j (by omega))) ?_; go_frame) | (refine (is_wd c false HWD.out _).mono ?_; rintro e w1 ⟨rfl, rfl⟩))
        go_ret
        exact ⟨by rw [HRR.out, word_at HA.out HC.out HWD.out]; rfl, HW.out⟩
      · have HWD := Lib.hid hw
        clear hw
        go_wp2_with (first | (refine wpList_dst 21 rfl ?_; refine wpList_run 21 rfl rfl _ (exec_index 9 (.tmp 19) (.tmp 20) rfl _ _ (.int .u8 c.toNat) rfl rfl (sb_at (sb R) (k := j) (by rw [sb_list]; exact HC.out) _)) ?_; go_frame) | (refine (is_wd c true HWD.out _).mono ?_; rintro e w1 ⟨rfl, rfl⟩))
        go_round
        case rel => exact ⟨j + 1, by go_num, by omega, Lib.hid (all_more HA.out HC.out HWD.out)⟩
        case measure => simp [intOf]; omega
    · obtain rfl : j = R.length := by omega
      go_wp2
      go_ret
      exact ⟨by rw [HRR.out, word_all (by have := HA.out; rwa [List.take_length] at this)]; rfl, HW.out⟩
end Go.Proofs.YtggjgikpiljoiaaDoor
