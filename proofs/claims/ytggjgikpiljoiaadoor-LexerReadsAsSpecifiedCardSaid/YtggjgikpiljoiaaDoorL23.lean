/- The reference: same tokens but for their offsets. -/
import Derived.Test.YtggjgikpiljoiaaDoorL19
namespace Go.Proofs.YtggjgikpiljoiaaDoor
open Go.RowKit Hm Wm Lx

/-- A token but for its offset. -/
def stI (x : TI) : Int × ByteArray × Int := (x.k, x.s, x.v)
theorem neq_str (s : ByteArray) (W : World) : (binOp .neq 9 (.string s) (.string s)).run Tryd.prog W = .ok (.bool false) W := by simp [binOp, Op.stringOp, go_sem]
theorem st_flat' (W : World) : (isAgg 9).run Tryd.prog W = .ok false W := by kernel_rfl
set_option maxRecDepth 100000 in
set_option maxHeartbeats 2000000 in
theorem same_any (T V : List TI) (A B : Option Addr) (ca cb : Nat) (w : World) (hA : RdT w A T) (hB : RdT w B V) (hm : T.map stI = V.map stI) (hn : T.length ≤ 1000000) : Calls Tryd.prog 13 #[.slice A T.length ca, .slice B V.length cb] w fun e w' => e = .returned (.bool true) ∧ Below w.heap.size w w' := by
  have eV : V.length = T.length := by have := congrArg List.length hm; simpa using this.symm
  have eT : ∃ n, n = T.length := ⟨_, rfl⟩
  obtain ⟨n, en⟩ := eT
  rw [eV, ← en]
  rw [← en] at hn
  have HA := Lib.hid hA
  have HB := Lib.hid hB
  have HM := Lib.hid hm
  have HN := Lib.hid en
  have HV := Lib.hid eV
  have HW := Lib.hid (Below.refl w.heap.size w)
  clear hA hB hm en eV
  go_enter Tryd.func13, Tryd.ntmps13
  go_wp2_with fail
  go_loopw [5] (fun a wr => ∃ k : Nat, a = .int .i64 k ∧ k ≤ n ∧ Hid (Below w.heap.size w wr)) (fun a _ => n - (intOf a).toNat)
  case atStart => exact ⟨0, rfl, Nat.zero_le _, HW⟩
  case round =>
    clear HW
    obtain ⟨k, rfl, hk, HW⟩ := hrel
    by_cases hlt : k < n
    · obtain ⟨x, hx⟩ : ∃ x, T[k]? = some x := ⟨T[k]'(by have := HN.out; omega), List.getElem?_eq_getElem _⟩
      obtain ⟨y, hy⟩ : ∃ y, V[k]? = some y := ⟨V[k]'(by have := HN.out; have := HV.out; omega), List.getElem?_eq_getElem _⟩
      have hxy : stI x = stI y := by
        have h := congrArg (fun l => l[k]?) HM.out
        simpa [List.getElem?_map, hx, hy] using h
      obtain ⟨b, off, rfl, hc⟩ := (HA.out.below HW.out).at hx
      obtain ⟨b2, off2, rfl, hd⟩ := (HB.out.below HW.out).at hy
      obtain ⟨xk, xa, xs, xv⟩ := x
      obtain ⟨yk, ya, ys, yv⟩ := y
      simp only [stI, Prod.mk.injEq] at hxy
      obtain ⟨rfl, rfl, rfl⟩ := hxy
      have HC := Lib.hid hc
      have HD := Lib.hid hd
      have hltT := hlt
      have h1 : decide ((k : Int) < (n : Int)) = true := decide_eq_true (by omega)
      have h1n : decide (k < n) = true := decide_eq_true hlt
      clear hc hd hx hy HA HB HM HN HV
      go_wp2_with fail
      refine late_begin (S := fun _ W => W.rangeAt b (off + k * 4) (cT ⟨xk, xa, xs, xv⟩) ∧ W.rangeAt b2 (off2 + k * 4) (cT ⟨xk, ya, xs, xv⟩)) (by kernel_rfl) ?_
      have hC0 := range_below' HC.out (Below.refl _ _).drew
      have hD0 := range_below' HD.out (Below.refl _ _).drew
      have hW0 := HW.out.drew
      generalize wr.drew = u0 at hC0 hD0 hW0 ⊢
      clear HC HD HW
      refine late_take [] (i := 0) (some 17) rfl rfl (by first | rfl | kernel_rfl) (by kernel_rfl) (by kernel_rfl) (by kernel_rfl) (by kernel_rfl) (by kernel_rfl) (fun Ls W h => h) (.slice (some ⟨b, off, none⟩) n ca) (fun _ _ _ h => h) (fun Ls W hl0 hW => exec_move (.tmp 0) rfl _ rfl) ⟨hC0, hD0⟩ ⟨hC0, hD0⟩ ?_
      go_frame
      refine late_take [] (i := 1) (some 18) rfl rfl (by first | rfl | kernel_rfl) (by kernel_rfl) (by kernel_rfl) (by kernel_rfl) (by kernel_rfl) (by kernel_rfl) (fun Ls W h => h) (.int .i64 k) (fun _ _ _ h => h) (fun Ls W hl0 hW => exec_move (.tmp 5) rfl _ rfl) ⟨hC0, hD0⟩ ⟨hC0, hD0⟩ ?_
      go_frame
      refine late_take [] (i := 2) (some 19) rfl rfl (by first | rfl | kernel_rfl) (by kernel_rfl) (by kernel_rfl) (by kernel_rfl) (by kernel_rfl) (by kernel_rfl) (fun Ls W h => h) (.pointer (some ⟨b, off + k * 4, none⟩)) (fun _ _ _ h => h) (fun Ls W hl0 hW => exec_atT (.tmp 17) (.tmp 18) rfl b off n ca k hltT rfl rfl) ⟨hC0, hD0⟩ ⟨hC0, hD0⟩ ?_
      go_frame
      refine late_take [] (i := 3) (some 20) rfl rfl (by first | rfl | kernel_rfl) (by kernel_rfl) (by kernel_rfl) (by kernel_rfl) (by kernel_rfl) (by kernel_rfl) (fun Ls W h => h) (.pointer (some ⟨b, off + k * 4 + 0, none⟩)) (fun _ _ _ h => h) (fun Ls W hl0 hW => exec_fieldAddr 33 (.tmp 19) 0 rfl _ _ rfl (tk_f b (off + k * 4) 0 (by decide) _)) ⟨hC0, hD0⟩ ⟨hC0, hD0⟩ ?_
      go_frame
      refine late_take [] (i := 4) (some 21) rfl rfl (by first | rfl | kernel_rfl) (by kernel_rfl) (by kernel_rfl) (by kernel_rfl) (by kernel_rfl) (by kernel_rfl) (fun Ls W h => h) (.int .i64 xk) (fun _ _ _ h => h) (fun Ls W hl0 hW => exec_load 3 (.tmp 20) rfl _ (.int .i64 xk) rfl (run_load_cell int_flat (hW.1 0 (.int .i64 xk) rfl))) ⟨hC0, hD0⟩ ⟨hC0, hD0⟩ ?_
      go_frame
      refine late_take [] (i := 5) (some 22) rfl rfl (by first | rfl | kernel_rfl) (by kernel_rfl) (by kernel_rfl) (by kernel_rfl) (by kernel_rfl) (by kernel_rfl) (fun Ls W h => h) (.slice (some ⟨b2, off2, none⟩) n cb) (fun _ _ _ h => h) (fun Ls W hl0 hW => exec_move (.tmp 1) rfl _ rfl) ⟨hC0, hD0⟩ ⟨hC0, hD0⟩ ?_
      go_frame
      refine late_take [] (i := 6) (some 23) rfl rfl (by first | rfl | kernel_rfl) (by kernel_rfl) (by kernel_rfl) (by kernel_rfl) (by kernel_rfl) (by kernel_rfl) (fun Ls W h => h) (.int .i64 k) (fun _ _ _ h => h) (fun Ls W hl0 hW => exec_move (.tmp 5) rfl _ rfl) ⟨hC0, hD0⟩ ⟨hC0, hD0⟩ ?_
      go_frame
      refine late_take [] (i := 7) (some 24) rfl rfl (by first | rfl | kernel_rfl) (by kernel_rfl) (by kernel_rfl) (by kernel_rfl) (by kernel_rfl) (by kernel_rfl) (fun Ls W h => h) (.pointer (some ⟨b2, off2 + k * 4, none⟩)) (fun _ _ _ h => h) (fun Ls W hl0 hW => exec_atT (.tmp 22) (.tmp 23) rfl b2 off2 n cb k hltT rfl rfl) ⟨hC0, hD0⟩ ⟨hC0, hD0⟩ ?_
      go_frame
      refine late_take [] (i := 8) (some 25) rfl rfl (by first | rfl | kernel_rfl) (by kernel_rfl) (by kernel_rfl) (by kernel_rfl) (by kernel_rfl) (by kernel_rfl) (fun Ls W h => h) (.pointer (some ⟨b2, off2 + k * 4 + 0, none⟩)) (fun _ _ _ h => h) (fun Ls W hl0 hW => exec_fieldAddr 33 (.tmp 24) 0 rfl _ _ rfl (tk_f b2 (off2 + k * 4) 0 (by decide) _)) ⟨hC0, hD0⟩ ⟨hC0, hD0⟩ ?_
      go_frame
      refine late_take [] (i := 9) (some 26) rfl rfl (by first | rfl | kernel_rfl) (by kernel_rfl) (by kernel_rfl) (by kernel_rfl) (by kernel_rfl) (by kernel_rfl) (fun Ls W h => h) (.int .i64 xk) (fun _ _ _ h => h) (fun Ls W hl0 hW => exec_load 3 (.tmp 25) rfl _ (.int .i64 xk) rfl (run_load_cell int_flat (hW.2 0 (.int .i64 xk) rfl))) ⟨hC0, hD0⟩ ⟨hC0, hD0⟩ ?_
      go_frame
      refine late_take [] (i := 10) (some 27) rfl rfl (by first | rfl | kernel_rfl) (by kernel_rfl) (by kernel_rfl) (by kernel_rfl) (by kernel_rfl) (by kernel_rfl) (fun Ls W h => h) (.bool false) (fun _ _ _ h => h) (fun Ls W hl0 hW => exec_neqT _ _ _ _ rfl .i64 (xk) rfl rfl) ⟨hC0, hD0⟩ ⟨hC0, hD0⟩ ?_
      go_frame
      refine late_take [] (i := 11) (some 28) rfl rfl (by first | rfl | kernel_rfl) (by kernel_rfl) (by kernel_rfl) (by kernel_rfl) (by kernel_rfl) (by kernel_rfl) (fun Ls W h => h) (.bool false) (fun _ _ _ h => h) (fun Ls W hl0 hW => exec_move (.tmp 27) rfl _ rfl) ⟨hC0, hD0⟩ ⟨hC0, hD0⟩ ?_
      go_frame
      refine late_take [] (i := 12) (some 29) rfl rfl (by first | rfl | kernel_rfl) (by kernel_rfl) (by kernel_rfl) (by kernel_rfl) (by kernel_rfl) (by kernel_rfl) (fun Ls W h => h) (.slice (some ⟨b, off, none⟩) n ca) (fun _ _ _ h => h) (fun Ls W hl0 hW => exec_move (.tmp 0) rfl _ rfl) ⟨hC0, hD0⟩ ⟨hC0, hD0⟩ ?_
      go_frame
      refine late_take [] (i := 13) (some 30) rfl rfl (by first | rfl | kernel_rfl) (by kernel_rfl) (by kernel_rfl) (by kernel_rfl) (by kernel_rfl) (by kernel_rfl) (fun Ls W h => h) (.int .i64 k) (fun _ _ _ h => h) (fun Ls W hl0 hW => exec_move (.tmp 5) rfl _ rfl) ⟨hC0, hD0⟩ ⟨hC0, hD0⟩ ?_
      go_frame
      refine late_take [] (i := 14) (some 31) rfl rfl (by first | rfl | kernel_rfl) (by kernel_rfl) (by kernel_rfl) (by kernel_rfl) (by kernel_rfl) (by kernel_rfl) (fun Ls W h => h) (.pointer (some ⟨b, off + k * 4, none⟩)) (fun _ _ _ h => h) (fun Ls W hl0 hW => exec_atT (.tmp 29) (.tmp 30) rfl b off n ca k hltT rfl rfl) ⟨hC0, hD0⟩ ⟨hC0, hD0⟩ ?_
      go_frame
      refine late_take [] (i := 15) (some 32) rfl rfl (by first | rfl | kernel_rfl) (by kernel_rfl) (by kernel_rfl) (by kernel_rfl) (by kernel_rfl) (by kernel_rfl) (fun Ls W h => h) (.pointer (some ⟨b, off + k * 4 + 2, none⟩)) (fun _ _ _ h => h) (fun Ls W hl0 hW => exec_fieldAddr 33 (.tmp 31) 2 rfl _ _ rfl (tk_f b (off + k * 4) 2 (by decide) _)) ⟨hC0, hD0⟩ ⟨hC0, hD0⟩ ?_
      go_frame
      refine late_take [] (i := 16) (some 33) rfl rfl (by first | rfl | kernel_rfl) (by kernel_rfl) (by kernel_rfl) (by kernel_rfl) (by kernel_rfl) (by kernel_rfl) (fun Ls W h => h) (.string xs) (fun _ _ _ h => h) (fun Ls W hl0 hW => exec_load 9 (.tmp 32) rfl _ (.string xs) rfl (run_load_cell st_flat' (hW.1 2 (.string xs) rfl))) ⟨hC0, hD0⟩ ⟨hC0, hD0⟩ ?_
      go_frame
      refine late_take [] (i := 17) (some 34) rfl rfl (by first | rfl | kernel_rfl) (by kernel_rfl) (by kernel_rfl) (by kernel_rfl) (by kernel_rfl) (by kernel_rfl) (fun Ls W h => h) (.slice (some ⟨b2, off2, none⟩) n cb) (fun _ _ _ h => h) (fun Ls W hl0 hW => exec_move (.tmp 1) rfl _ rfl) ⟨hC0, hD0⟩ ⟨hC0, hD0⟩ ?_
      go_frame
      refine late_take [] (i := 18) (some 35) rfl rfl (by first | rfl | kernel_rfl) (by kernel_rfl) (by kernel_rfl) (by kernel_rfl) (by kernel_rfl) (by kernel_rfl) (fun Ls W h => h) (.int .i64 k) (fun _ _ _ h => h) (fun Ls W hl0 hW => exec_move (.tmp 5) rfl _ rfl) ⟨hC0, hD0⟩ ⟨hC0, hD0⟩ ?_
      go_frame
      refine late_take [] (i := 19) (some 36) rfl rfl (by first | rfl | kernel_rfl) (by kernel_rfl) (by kernel_rfl) (by kernel_rfl) (by kernel_rfl) (by kernel_rfl) (fun Ls W h => h) (.pointer (some ⟨b2, off2 + k * 4, none⟩)) (fun _ _ _ h => h) (fun Ls W hl0 hW => exec_atT (.tmp 34) (.tmp 35) rfl b2 off2 n cb k hltT rfl rfl) ⟨hC0, hD0⟩ ⟨hC0, hD0⟩ ?_
      go_frame
      refine late_take [] (i := 20) (some 37) rfl rfl (by first | rfl | kernel_rfl) (by kernel_rfl) (by kernel_rfl) (by kernel_rfl) (by kernel_rfl) (by kernel_rfl) (fun Ls W h => h) (.pointer (some ⟨b2, off2 + k * 4 + 2, none⟩)) (fun _ _ _ h => h) (fun Ls W hl0 hW => exec_fieldAddr 33 (.tmp 36) 2 rfl _ _ rfl (tk_f b2 (off2 + k * 4) 2 (by decide) _)) ⟨hC0, hD0⟩ ⟨hC0, hD0⟩ ?_
      go_frame
      refine late_take [] (i := 21) (some 38) rfl rfl (by first | rfl | kernel_rfl) (by kernel_rfl) (by kernel_rfl) (by kernel_rfl) (by kernel_rfl) (by kernel_rfl) (fun Ls W h => h) (.string xs) (fun _ _ _ h => h) (fun Ls W hl0 hW => exec_load 9 (.tmp 37) rfl _ (.string xs) rfl (run_load_cell st_flat' (hW.2 2 (.string xs) rfl))) ⟨hC0, hD0⟩ ⟨hC0, hD0⟩ ?_
      go_frame
      refine late_take [] (i := 22) (some 39) rfl rfl (by first | rfl | kernel_rfl) (by kernel_rfl) (by kernel_rfl) (by kernel_rfl) (by kernel_rfl) (by kernel_rfl) (fun Ls W h => h) (.bool false) (fun _ _ _ h => h) (fun Ls W hl0 hW => exec_bin .neq 9 _ (.tmp 33) (.tmp 38) rfl (.string xs) (.string xs) _ rfl rfl rfl (neq_str xs _)) ⟨hC0, hD0⟩ ⟨hC0, hD0⟩ ?_
      go_frame
      refine late_take [] (i := 23) (some 40) rfl rfl (by first | rfl | kernel_rfl) (by kernel_rfl) (by kernel_rfl) (by kernel_rfl) (by kernel_rfl) (by kernel_rfl) (fun Ls W h => h) (.bool false) (fun _ _ _ h => h) (fun Ls W hl0 hW => exec_pickF _ _ _ rfl (.bool false) rfl rfl) ⟨hC0, hD0⟩ ⟨hC0, hD0⟩ ?_
      go_frame
      refine late_take [] (i := 24) (some 41) rfl rfl (by first | rfl | kernel_rfl) (by kernel_rfl) (by kernel_rfl) (by kernel_rfl) (by kernel_rfl) (by kernel_rfl) (fun Ls W h => h) (.bool false) (fun _ _ _ h => h) (fun Ls W hl0 hW => exec_move (.tmp 40) rfl _ rfl) ⟨hC0, hD0⟩ ⟨hC0, hD0⟩ ?_
      go_frame
      refine late_take [] (i := 25) (some 42) rfl rfl (by first | rfl | kernel_rfl) (by kernel_rfl) (by kernel_rfl) (by kernel_rfl) (by kernel_rfl) (by kernel_rfl) (fun Ls W h => h) (.slice (some ⟨b, off, none⟩) n ca) (fun _ _ _ h => h) (fun Ls W hl0 hW => exec_move (.tmp 0) rfl _ rfl) ⟨hC0, hD0⟩ ⟨hC0, hD0⟩ ?_
      go_frame
      refine late_take [] (i := 26) (some 43) rfl rfl (by first | rfl | kernel_rfl) (by kernel_rfl) (by kernel_rfl) (by kernel_rfl) (by kernel_rfl) (by kernel_rfl) (fun Ls W h => h) (.int .i64 k) (fun _ _ _ h => h) (fun Ls W hl0 hW => exec_move (.tmp 5) rfl _ rfl) ⟨hC0, hD0⟩ ⟨hC0, hD0⟩ ?_
      go_frame
      refine late_take [] (i := 27) (some 44) rfl rfl (by first | rfl | kernel_rfl) (by kernel_rfl) (by kernel_rfl) (by kernel_rfl) (by kernel_rfl) (by kernel_rfl) (fun Ls W h => h) (.pointer (some ⟨b, off + k * 4, none⟩)) (fun _ _ _ h => h) (fun Ls W hl0 hW => exec_atT (.tmp 42) (.tmp 43) rfl b off n ca k hltT rfl rfl) ⟨hC0, hD0⟩ ⟨hC0, hD0⟩ ?_
      go_frame
      refine late_take [] (i := 28) (some 45) rfl rfl (by first | rfl | kernel_rfl) (by kernel_rfl) (by kernel_rfl) (by kernel_rfl) (by kernel_rfl) (by kernel_rfl) (fun Ls W h => h) (.pointer (some ⟨b, off + k * 4 + 3, none⟩)) (fun _ _ _ h => h) (fun Ls W hl0 hW => exec_fieldAddr 33 (.tmp 44) 3 rfl _ _ rfl (tk_f b (off + k * 4) 3 (by decide) _)) ⟨hC0, hD0⟩ ⟨hC0, hD0⟩ ?_
      go_frame
      refine late_take [] (i := 29) (some 46) rfl rfl (by first | rfl | kernel_rfl) (by kernel_rfl) (by kernel_rfl) (by kernel_rfl) (by kernel_rfl) (by kernel_rfl) (fun Ls W h => h) (.int .i64 xv) (fun _ _ _ h => h) (fun Ls W hl0 hW => exec_load 3 (.tmp 45) rfl _ (.int .i64 xv) rfl (run_load_cell int_flat (hW.1 3 (.int .i64 xv) rfl))) ⟨hC0, hD0⟩ ⟨hC0, hD0⟩ ?_
      go_frame
      refine late_take [] (i := 30) (some 47) rfl rfl (by first | rfl | kernel_rfl) (by kernel_rfl) (by kernel_rfl) (by kernel_rfl) (by kernel_rfl) (by kernel_rfl) (fun Ls W h => h) (.slice (some ⟨b2, off2, none⟩) n cb) (fun _ _ _ h => h) (fun Ls W hl0 hW => exec_move (.tmp 1) rfl _ rfl) ⟨hC0, hD0⟩ ⟨hC0, hD0⟩ ?_
      go_frame
      refine late_take [] (i := 31) (some 48) rfl rfl (by first | rfl | kernel_rfl) (by kernel_rfl) (by kernel_rfl) (by kernel_rfl) (by kernel_rfl) (by kernel_rfl) (fun Ls W h => h) (.int .i64 k) (fun _ _ _ h => h) (fun Ls W hl0 hW => exec_move (.tmp 5) rfl _ rfl) ⟨hC0, hD0⟩ ⟨hC0, hD0⟩ ?_
      go_frame
      refine late_take [] (i := 32) (some 49) rfl rfl (by first | rfl | kernel_rfl) (by kernel_rfl) (by kernel_rfl) (by kernel_rfl) (by kernel_rfl) (by kernel_rfl) (fun Ls W h => h) (.pointer (some ⟨b2, off2 + k * 4, none⟩)) (fun _ _ _ h => h) (fun Ls W hl0 hW => exec_atT (.tmp 47) (.tmp 48) rfl b2 off2 n cb k hltT rfl rfl) ⟨hC0, hD0⟩ ⟨hC0, hD0⟩ ?_
      go_frame
      refine late_take [] (i := 33) (some 50) rfl rfl (by first | rfl | kernel_rfl) (by kernel_rfl) (by kernel_rfl) (by kernel_rfl) (by kernel_rfl) (by kernel_rfl) (fun Ls W h => h) (.pointer (some ⟨b2, off2 + k * 4 + 3, none⟩)) (fun _ _ _ h => h) (fun Ls W hl0 hW => exec_fieldAddr 33 (.tmp 49) 3 rfl _ _ rfl (tk_f b2 (off2 + k * 4) 3 (by decide) _)) ⟨hC0, hD0⟩ ⟨hC0, hD0⟩ ?_
      go_frame
      refine late_take [] (i := 34) (some 51) rfl rfl (by first | rfl | kernel_rfl) (by kernel_rfl) (by kernel_rfl) (by kernel_rfl) (by kernel_rfl) (by kernel_rfl) (fun Ls W h => h) (.int .i64 xv) (fun _ _ _ h => h) (fun Ls W hl0 hW => exec_load 3 (.tmp 50) rfl _ (.int .i64 xv) rfl (run_load_cell int_flat (hW.2 3 (.int .i64 xv) rfl))) ⟨hC0, hD0⟩ ⟨hC0, hD0⟩ ?_
      go_frame
      refine late_take [] (i := 35) (some 52) rfl rfl (by first | rfl | kernel_rfl) (by kernel_rfl) (by kernel_rfl) (by kernel_rfl) (by kernel_rfl) (by kernel_rfl) (fun Ls W h => h) (.bool false) (fun _ _ _ h => h) (fun Ls W hl0 hW => exec_neqT _ _ _ _ rfl .i64 (xv) rfl rfl) ⟨hC0, hD0⟩ ⟨hC0, hD0⟩ ?_
      go_frame
      refine late_take [] (i := 36) (some 53) rfl rfl (by first | rfl | kernel_rfl) (by kernel_rfl) (by kernel_rfl) (by kernel_rfl) (by kernel_rfl) (by kernel_rfl) (fun Ls W h => h) (.bool false) (fun _ _ _ h => h) (fun Ls W hl0 hW => exec_pickF _ _ _ rfl (.bool false) rfl rfl) ⟨hC0, hD0⟩ ⟨hC0, hD0⟩ ?_
      refine late_done (by kernel_rfl) ?_ _
      go_frame
      have HC := Lib.hid hC0
      have HD := Lib.hid hD0
      have HW := Lib.hid hW0
      clear hC0 hD0 hW0
      go_wp2_with fail
      go_roundw
      case rel => exact ⟨k + 1, by go_num, by omega, HW⟩
      case measure => simp [intOf]; omega
    · obtain rfl : k = n := by omega
      have h1 : decide ((k : Int) < (k : Int)) = false := decide_eq_false (by omega)
      go_wp2_with fail
      go_ret
      exact ⟨rfl, HW.out⟩
end Go.Proofs.YtggjgikpiljoiaaDoor
