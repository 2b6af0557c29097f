/- The method that reads texts. -/
import Derived.Test.YtggjgikpiljoiaaDoorL10
namespace Go.Proofs.YtggjgikpiljoiaaDoor
open Go.RowKit Hm Wm Lx

/-- What reading one thing leaves. -/
def StP (g base : Nat) (l : List UInt8) (p : Nat) (T : List TI) (w : World) (q : St) : Ending → World → Prop :=
  match q with
  | .tok k s z n => MetP g base l (p + n) (T ++ [⟨k, p, sb s, z⟩]) w 0
  | .skip n => MetP g base l (p + n) T w 0
  | .bad e => MetP g base l p T w e
theorem drop_next {R : List UInt8} {k : Nat} {d : UInt8} {q : List UInt8} (h : R.drop k = d :: q) (m : Nat) : R.drop (k + m) = (d :: q).drop m := by rw [← List.drop_drop, h]
set_option maxRecDepth 100000 in
set_option maxHeartbeats 800000 in
theorem text_no (g base p : Nat) (l r : List UInt8) (c : UInt8) (v : Value) (T : List TI) (w : World) (hE : Env w) (hR : Blk w g 46 [.string (sb l), .int .i64 p, v]) (hT : Row w base v T) (_hb6 : 6 ≤ base) (hg : base ≤ g) (hp : p < l.length) (_hl : l.length ≤ 65536) (_hn : T.length ≤ 100000) (hd : l.drop p = c :: r) (hc : c.toNat ≠ 34) :
    Calls Tryd.prog 29 #[.pointer (some ⟨g, 0, none⟩)] w (MetP g base l p T w 8) := by
  have hgl : g < w.heap.size := hR.lt
  have hbw : base ≤ w.heap.size := by omega
  have HR := Lib.hid hR
  have HT := Lib.hid hT
  have HE := Lib.hid hE
  have HW := Lib.hid (Below.refl w.heap.size w)
  have HD := Lib.hid hd
  have HC := Lib.hid (show l[p]? = some c by have := congrArg (·[0]?) hd; simpa using this)
  have hrl : r.length + 1 + p = l.length := by have := congrArg List.length hd; rw [List.length_drop, List.length_cons] at this; omega
  clear hR hT hd hE
  have m34 : ((c.toNat : Int) != 34) = true := by rw [bne_iff_ne]; omega
  clear hc
  go_enter Tryd.func29, Tryd.ntmps29
  go_wp2_with fail
  refine late_begin (S := fun _ W => Blk W g 46 [.string (sb l), .int .i64 p, v] ∧ Env W) (by kernel_rfl) ?_
  have hR0 := HR.out.drew
  have hT0 := HT.out.below (Below.refl _ _).drew
  have hE0 := HE.out.next (Below.refl _ _).drew
  have hW0 := HW.out.drew
  generalize w.drew = u0 at hR0 hT0 hE0 hW0 ⊢
  clear HR HT HE HW
  refine late_take [] (i := 0) (some 8) rfl rfl (by first | rfl | kernel_rfl) (by kernel_rfl) (by kernel_rfl) (by kernel_rfl) (by kernel_rfl) (by kernel_rfl) (fun Ls W h => h) (.pointer (some ⟨g, 0, none⟩)) (fun _ _ _ h => h) (fun Ls W hl0 hW => exec_move (.tmp 0) rfl _ rfl) ⟨hR0, hE0⟩ ⟨hR0, hE0⟩ ?_
  go_frame
  refine late_take [] (i := 1) (some 9) rfl rfl (by first | rfl | kernel_rfl) (by kernel_rfl) (by kernel_rfl) (by kernel_rfl) (by kernel_rfl) (by kernel_rfl) (fun Ls W h => h) (.pointer (some ⟨g, 0, none⟩)) (fun _ _ _ h => h) (fun Ls W hl0 hW => exec_nilCheck _ rfl  (some ⟨g, 0, none⟩) rfl) ⟨hR0, hE0⟩ ⟨hR0, hE0⟩ ?_
  go_frame
  refine late_take [] (i := 2) (some 10) rfl rfl (by first | rfl | kernel_rfl) (by kernel_rfl) (by kernel_rfl) (by kernel_rfl) (by kernel_rfl) (by kernel_rfl) (fun Ls W h => h) (.pointer (some ⟨g, 0, none⟩)) (fun _ _ _ h => h) (fun Ls W hl0 hW => exec_fieldAddr 46 (.tmp 9) 0 rfl _ _ rfl (fa_lexer_reader_0_0 _ _)) ⟨hR0, hE0⟩ ⟨hR0, hE0⟩ ?_
  go_frame
  refine late_take [] (i := 3) (some 11) rfl rfl (by first | rfl | kernel_rfl) (by kernel_rfl) (by kernel_rfl) (by kernel_rfl) (by kernel_rfl) (by kernel_rfl) (fun Ls W h => h) (.string (sb l)) (fun _ _ _ h => h) (fun Ls W hl0 hW => exec_load 9 (.tmp 10) rfl _ _ rfl (run_load_cell flat_string (hW.1.cell 0))) ⟨hR0, hE0⟩ ⟨hR0, hE0⟩ ?_
  go_frame
  refine late_take [] (i := 4) (some 12) rfl rfl (by first | rfl | kernel_rfl) (by kernel_rfl) (by kernel_rfl) (by kernel_rfl) (by kernel_rfl) (by kernel_rfl) (fun Ls W h => h) (.pointer (some ⟨g, 0, none⟩)) (fun _ _ _ h => h) (fun Ls W hl0 hW => exec_move (.tmp 0) rfl _ rfl) ⟨hR0, hE0⟩ ⟨hR0, hE0⟩ ?_
  go_frame
  refine late_take [] (i := 5) (some 13) rfl rfl (by first | rfl | kernel_rfl) (by kernel_rfl) (by kernel_rfl) (by kernel_rfl) (by kernel_rfl) (by kernel_rfl) (fun Ls W h => h) (.pointer (some ⟨g, 0, none⟩)) (fun _ _ _ h => h) (fun Ls W hl0 hW => exec_nilCheck _ rfl  (some ⟨g, 0, none⟩) rfl) ⟨hR0, hE0⟩ ⟨hR0, hE0⟩ ?_
  go_frame
  refine late_take [] (i := 6) (some 14) rfl rfl (by first | rfl | kernel_rfl) (by kernel_rfl) (by kernel_rfl) (by kernel_rfl) (by kernel_rfl) (by kernel_rfl) (fun Ls W h => h) (.pointer (some ⟨g, 1, none⟩)) (fun _ _ _ h => h) (fun Ls W hl0 hW => exec_fieldAddr 46 (.tmp 13) 1 rfl _ _ rfl (fa_lexer_reader_1_0 _ _)) ⟨hR0, hE0⟩ ⟨hR0, hE0⟩ ?_
  go_frame
  refine late_take [] (i := 7) (some 15) rfl rfl (by first | rfl | kernel_rfl) (by kernel_rfl) (by kernel_rfl) (by kernel_rfl) (by kernel_rfl) (by kernel_rfl) (fun Ls W h => h) (.int .i64 p) (fun _ _ _ h => h) (fun Ls W hl0 hW => exec_load 3 (.tmp 14) rfl _ _ rfl (run_load_cell flat_int (hW.1.cell 1))) ⟨hR0, hE0⟩ ⟨hR0, hE0⟩ ?_
  go_frame
  refine late_take [] (i := 8) (some 16) rfl rfl (by first | rfl | kernel_rfl) (by kernel_rfl) (by kernel_rfl) (by kernel_rfl) (by kernel_rfl) (by kernel_rfl) (fun Ls W h => h) (.string (sb (c :: r))) (fun _ _ _ h => h) (fun Ls W hl0 hW => exec_slice_lo 9 (.tmp 11) (.tmp 15) rfl _ _ _ rfl rfl (by rw [← HD.out]; exact run_str_lo W l p (by omega))) ⟨hR0, hE0⟩ ⟨hR0, hE0⟩ ?_
  go_frame
  refine late_take [] (i := 9) (some 3) rfl rfl (by first | rfl | kernel_rfl) (by kernel_rfl) (by kernel_rfl) (by kernel_rfl) (by kernel_rfl) (by kernel_rfl) (fun Ls W h => h) (.string (sb (c :: r))) (fun _ _ _ h => h) (fun Ls W hl0 hW => exec_assign (.tmp 16) rfl _ rfl) ⟨hR0, hE0⟩ ⟨hR0, hE0⟩ ?_
  refine late_done (by kernel_rfl) ?_ _
  go_frame
  have HR := Lib.hid hR0
  have HT := Lib.hid hT0
  have HE := Lib.hid hE0
  have HW := Lib.hid hW0
  clear hR0 hT0 hE0 hW0
  go_wp2_with (first | (refine wpList_dst 18 rfl ?_; refine wpList_run 18 rfl rfl _ (exec_index 9 (.tmp 17) (.const (.int .i64 0)) rfl _ _ (.int .u8 c.toNat) rfl rfl (sb_at (sb (c :: r)) (k := 0) (by simp [sb]) _)) ?_; go_frame))
  go_ret
  exact ⟨rfl, Rst.same HR.out HT.out HW.out hbw⟩
set_option maxRecDepth 100000 in
set_option maxHeartbeats 800000 in
theorem text_any (g base p : Nat) (l r : List UInt8) (c : UInt8) (v : Value) (T : List TI) (w : World) (hE : Env w) (hR : Blk w g 46 [.string (sb l), .int .i64 p, v]) (hT : Row w base v T) (_hb6 : 6 ≤ base) (hg : base ≤ g) (hp : p < l.length) (_hl : l.length ≤ 65536) (_hn : T.length ≤ 100000) (hd : l.drop p = c :: r) (hc : c.toNat = 34) :
    Calls Tryd.prog 29 #[.pointer (some ⟨g, 0, none⟩)] w (StP g base l p T w (txt r [] 1)) := by
  have hgl : g < w.heap.size := hR.lt
  have hbw : base ≤ w.heap.size := by omega
  have HR := Lib.hid hR
  have HT := Lib.hid hT
  have HE := Lib.hid hE
  have HW := Lib.hid (Below.refl w.heap.size w)
  have HD := Lib.hid hd
  have HC := Lib.hid (show l[p]? = some c by have := congrArg (·[0]?) hd; simpa using this)
  have hrl : r.length + 1 + p = l.length := by have := congrArg List.length hd; rw [List.length_drop, List.length_cons] at this; omega
  clear hR hT hd hE
  have m34 : ((c.toNat : Int) != 34) = false := by rw [hc]; rfl
  clear hc
  have HR0 := HR
  have HT0 := HT
  have HE0 := HE
  go_enter Tryd.func29, Tryd.ntmps29
  go_wp2_with fail
  refine late_begin (S := fun _ W => Blk W g 46 [.string (sb l), .int .i64 p, v] ∧ Env W) (by kernel_rfl) ?_
  have hR0 := HR.out.drew
  have hT0 := HT.out.below (Below.refl _ _).drew
  have hE0 := HE.out.next (Below.refl _ _).drew
  have hW0 := HW.out.drew
  generalize w.drew = u0 at hR0 hT0 hE0 hW0 ⊢
  clear HR HT HE HW
  refine late_take [] (i := 0) (some 8) rfl rfl (by first | rfl | kernel_rfl) (by kernel_rfl) (by kernel_rfl) (by kernel_rfl) (by kernel_rfl) (by kernel_rfl) (fun Ls W h => h) (.pointer (some ⟨g, 0, none⟩)) (fun _ _ _ h => h) (fun Ls W hl0 hW => exec_move (.tmp 0) rfl _ rfl) ⟨hR0, hE0⟩ ⟨hR0, hE0⟩ ?_
  go_frame
  refine late_take [] (i := 1) (some 9) rfl rfl (by first | rfl | kernel_rfl) (by kernel_rfl) (by kernel_rfl) (by kernel_rfl) (by kernel_rfl) (by kernel_rfl) (fun Ls W h => h) (.pointer (some ⟨g, 0, none⟩)) (fun _ _ _ h => h) (fun Ls W hl0 hW => exec_nilCheck _ rfl  (some ⟨g, 0, none⟩) rfl) ⟨hR0, hE0⟩ ⟨hR0, hE0⟩ ?_
  go_frame
  refine late_take [] (i := 2) (some 10) rfl rfl (by first | rfl | kernel_rfl) (by kernel_rfl) (by kernel_rfl) (by kernel_rfl) (by kernel_rfl) (by kernel_rfl) (fun Ls W h => h) (.pointer (some ⟨g, 0, none⟩)) (fun _ _ _ h => h) (fun Ls W hl0 hW => exec_fieldAddr 46 (.tmp 9) 0 rfl _ _ rfl (fa_lexer_reader_0_0 _ _)) ⟨hR0, hE0⟩ ⟨hR0, hE0⟩ ?_
  go_frame
  refine late_take [] (i := 3) (some 11) rfl rfl (by first | rfl | kernel_rfl) (by kernel_rfl) (by kernel_rfl) (by kernel_rfl) (by kernel_rfl) (by kernel_rfl) (fun Ls W h => h) (.string (sb l)) (fun _ _ _ h => h) (fun Ls W hl0 hW => exec_load 9 (.tmp 10) rfl _ _ rfl (run_load_cell flat_string (hW.1.cell 0))) ⟨hR0, hE0⟩ ⟨hR0, hE0⟩ ?_
  go_frame
  refine late_take [] (i := 4) (some 12) rfl rfl (by first | rfl | kernel_rfl) (by kernel_rfl) (by kernel_rfl) (by kernel_rfl) (by kernel_rfl) (by kernel_rfl) (fun Ls W h => h) (.pointer (some ⟨g, 0, none⟩)) (fun _ _ _ h => h) (fun Ls W hl0 hW => exec_move (.tmp 0) rfl _ rfl) ⟨hR0, hE0⟩ ⟨hR0, hE0⟩ ?_
  go_frame
  refine late_take [] (i := 5) (some 13) rfl rfl (by first | rfl | kernel_rfl) (by kernel_rfl) (by kernel_rfl) (by kernel_rfl) (by kernel_rfl) (by kernel_rfl) (fun Ls W h => h) (.pointer (some ⟨g, 0, none⟩)) (fun _ _ _ h => h) (fun Ls W hl0 hW => exec_nilCheck _ rfl  (some ⟨g, 0, none⟩) rfl) ⟨hR0, hE0⟩ ⟨hR0, hE0⟩ ?_
  go_frame
  refine late_take [] (i := 6) (some 14) rfl rfl (by first | rfl | kernel_rfl) (by kernel_rfl) (by kernel_rfl) (by kernel_rfl) (by kernel_rfl) (by kernel_rfl) (fun Ls W h => h) (.pointer (some ⟨g, 1, none⟩)) (fun _ _ _ h => h) (fun Ls W hl0 hW => exec_fieldAddr 46 (.tmp 13) 1 rfl _ _ rfl (fa_lexer_reader_1_0 _ _)) ⟨hR0, hE0⟩ ⟨hR0, hE0⟩ ?_
  go_frame
  refine late_take [] (i := 7) (some 15) rfl rfl (by first | rfl | kernel_rfl) (by kernel_rfl) (by kernel_rfl) (by kernel_rfl) (by kernel_rfl) (by kernel_rfl) (fun Ls W h => h) (.int .i64 p) (fun _ _ _ h => h) (fun Ls W hl0 hW => exec_load 3 (.tmp 14) rfl _ _ rfl (run_load_cell flat_int (hW.1.cell 1))) ⟨hR0, hE0⟩ ⟨hR0, hE0⟩ ?_
  go_frame
  refine late_take [] (i := 8) (some 16) rfl rfl (by first | rfl | kernel_rfl) (by kernel_rfl) (by kernel_rfl) (by kernel_rfl) (by kernel_rfl) (by kernel_rfl) (fun Ls W h => h) (.string (sb (c :: r))) (fun _ _ _ h => h) (fun Ls W hl0 hW => exec_slice_lo 9 (.tmp 11) (.tmp 15) rfl _ _ _ rfl rfl (by rw [← HD.out]; exact run_str_lo W l p (by omega))) ⟨hR0, hE0⟩ ⟨hR0, hE0⟩ ?_
  go_frame
  refine late_take [] (i := 9) (some 3) rfl rfl (by first | rfl | kernel_rfl) (by kernel_rfl) (by kernel_rfl) (by kernel_rfl) (by kernel_rfl) (by kernel_rfl) (fun Ls W h => h) (.string (sb (c :: r))) (fun _ _ _ h => h) (fun Ls W hl0 hW => exec_assign (.tmp 16) rfl _ rfl) ⟨hR0, hE0⟩ ⟨hR0, hE0⟩ ?_
  refine late_done (by kernel_rfl) ?_ _
  go_frame
  have HR := Lib.hid hR0
  have HT := Lib.hid hT0
  have HE := Lib.hid hE0
  have HW := Lib.hid hW0
  clear hR0 hT0 hE0 hW0
  obtain ⟨R, hR⟩ : ∃ R, R = c :: r := ⟨_, rfl⟩
  have HX0 := Lib.hid (show txt (R.drop 1) [] 1 = txt r [] 1 by rw [hR]; rfl)
  have HIX := Lib.hid (show ∀ W, (Instr.index 9 (.string (sb R)) (.int .i64 0)).run Tryd.prog W = .ok (.int .u8 c.toNat) W from fun W => sb_at (sb R) (k := 0) (by rw [hR]; simp [sb]) W)
  have hRl : R.length + p = l.length := by rw [hR, List.length_cons]; exact hrl
  have hRz : (sb R).size = R.length := sb_size R
  have hR1 : 1 ≤ R.length := by rw [hR, List.length_cons]; omega
  simp only [← hR]
  clear hR hrl HD HC HR HT HE
  go_wp2_with (first | (refine wpList_dst 18 rfl ?_; refine wpList_run 18 rfl rfl _ (exec_index 9 (.tmp 17) (.const (.int .i64 0)) rfl _ _ (.int .u8 c.toNat) rfl rfl (HIX.out _)) ?_; go_frame))
  go_loopw [4, 5] (fun a b wr => ∃ (k : Nat) (acc : List UInt8), b = .int .i64 k ∧ OwnB wr w.heap.size a acc ∧ acc.length ≤ 200 ∧ k ≤ R.length ∧ Hid (txt (R.drop k) acc k = txt r [] 1) ∧ Hid (Below w.heap.size w wr)) (fun _ b _ => R.length - (intOf b).toNat)
  case atStart => exact ⟨1, [], rfl, OwnB.nil _ _, Nat.zero_le _, hR1, HX0, HW⟩
  case round =>
    obtain ⟨k, acc, rfl, hown, hacc, hk, HTX, HB⟩ := hrel
    obtain ⟨A, cap, rfl, _, hcap⟩ := hown.form
    have HOW := Lib.hid hown
    have HR := Lib.hid (HR0.out.next HB.out)
    have HT := Lib.hid (HT0.out.below HB.out)
    clear hown HX0 HW
    by_cases hlt : k < R.length
    · obtain ⟨d, q, hdq⟩ : ∃ d q, R.drop k = d :: q := by
        cases h : R.drop k with
        | nil => have := congrArg List.length h; rw [List.length_drop] at this; simp at this; omega
        | cons d q => exact ⟨d, q, rfl⟩
      have HDQ := Lib.hid hdq
      have HDA := Lib.hid (show (sb R).data.toList[k]? = some d by rw [sb_list]; have := congrArg (·[0]?) hdq; simpa using this)
      have hchl : (chr (d :: q)).2 ≤ R.length - k := by have h1 := chr_le d q; have h2 := congrArg List.length hdq; rw [List.length_drop] at h2; omega
      have h1 : decide ((k : Int) < (R.length : Int)) = true := decide_eq_true (by omega)
      have h1n : decide (k < R.length) = true := decide_eq_true hlt
      have h1e : ((k : Int) == (R.length : Int)) = false := by rw [beq_eq_false_iff_ne]; omega
      have h1m : (k == R.length) = false := by rw [beq_eq_false_iff_ne]; omega
      clear hdq
      by_cases hq : d.toNat = 34
      · have n34 : ((d.toNat : Int) != 34) = false := by rw [hq]; rfl
        have HQ4 := Lib.hid hq
        clear hq
        go_wp2_with (first | (refine wpList_dst 27 rfl ?_; refine wpList_runG 27 rfl rfl _ (exec_index 9 (.tmp 25) (.tmp 26) rfl _ _ (.int .u8 d.toNat) rfl rfl (sb_at (sb R) (k := k) HDA.out _)) ?_; go_frame) | (refine wpList_dst 55 rfl ?_; refine wpList_run 55 rfl rfl _ (exec_convert 39 9 (.tmp 54) rfl _ (.string (sb acc)) rfl (run_str (OwnB.rd HOW.out) cap)) ?_; go_frame) | (refine wpList_dst 56 rfl ?_; refine wpList_run 56 rfl rfl _ (exec_buildF 33 #[(0, .const (.int .i64 3)), (2, .tmp 55)] rfl #[(0, .int .i64 3), (2, .string (sb acc))] rfl _ (build_s 3 (sb acc) _)) ?_; go_frame) | (refine (add_any g base p (k + 1) l v T ⟨3, 0, sb acc, 0⟩ _ HR.out HT.out hg (by omega) (by omega) (by omega)).mono ?_; rintro e w9 ⟨rfl, hq9⟩; have HQ9 := Lib.hid hq9; clear hq9))
        go_ret
        rw [← HTX.out, HDQ.out, txt_quote HQ4.out]
        exact ⟨rfl, HQ9.out.pre HB.out hbw⟩
      · have n34 : ((d.toNat : Int) != 34) = true := by rw [bne_iff_ne]; omega
        by_cases h0 : (chr (d :: q)).2 = 0
        · have HT0B := Lib.hid (txt_bad (acc := acc) (n := k) hq h0)
          have z0 : (((chr (d :: q)).2 : Int) == 0) = true := by rw [h0]; rfl
          have z0n : ((chr (d :: q)).2 == 0) = true := by rw [h0]; rfl
          clear hq
          go_wp2_with (first | (refine wpList_dst 27 rfl ?_; refine wpList_runG 27 rfl rfl _ (exec_index 9 (.tmp 25) (.tmp 26) rfl _ _ (.int .u8 d.toNat) rfl rfl (sb_at (sb R) (k := k) HDA.out _)) ?_; go_frame) | (refine wpList_dst 33 rfl ?_; refine wpList_run 33 rfl rfl _ (exec_slice_lo 9 (.tmp 31) (.tmp 32) rfl _ _ (.string (sb (d :: q))) rfl rfl (by rw [← HDQ.out]; exact run_str_lo _ R k hk)) ?_; go_frame) | (refine (chr_any d q _).mono ?_; rintro e w3 ⟨rfl, rfl⟩))
          go_ret
          rw [← HTX.out, HDQ.out, HT0B.out]
          exact ⟨rfl, Rst.same HR.out HT.out HB.out hbw⟩
        · have z0 : (((chr (d :: q)).2 : Int) == 0) = false := by rw [beq_eq_false_iff_ne]; omega
          have z0n : ((chr (d :: q)).2 == 0) = false := by rw [beq_eq_false_iff_ne]; exact h0
          by_cases ha : acc.length = 200
          · have HT0B := Lib.hid (txt_long (n := k) hq h0 ha)
            have z2 : ((acc.length : Int) == 200) = true := by rw [ha]; rfl
            have HA2 := Lib.hid ha
            clear hq h0 ha
            go_wp2_with (first | (refine wpList_dst 27 rfl ?_; refine wpList_runG 27 rfl rfl _ (exec_index 9 (.tmp 25) (.tmp 26) rfl _ _ (.int .u8 d.toNat) rfl rfl (sb_at (sb R) (k := k) HDA.out _)) ?_; go_frame) | (refine wpList_dst 33 rfl ?_; refine wpList_run 33 rfl rfl _ (exec_slice_lo 9 (.tmp 31) (.tmp 32) rfl _ _ (.string (sb (d :: q))) rfl rfl (by rw [← HDQ.out]; exact run_str_lo _ R k hk)) ?_; go_frame) | (refine (chr_any d q _).mono ?_; rintro e w3 ⟨rfl, rfl⟩))
            go_ret
            rw [← HTX.out, HDQ.out, HT0B.out]
            exact ⟨rfl, Rst.same HR.out HT.out HB.out hbw⟩
          · have HT0B := Lib.hid (txt_next (n := k) hq h0 ha)
            have z2 : ((acc.length : Int) == 200) = false := by rw [beq_eq_false_iff_ne]; omega
            have hcp : 0 < (chr (d :: q)).2 := by omega
            have hac : acc.length + 1 ≤ 200 := by omega
            clear hq h0 ha
            go_wp2_with (first | (refine wpList_dst 27 rfl ?_; refine wpList_runG 27 rfl rfl _ (exec_index 9 (.tmp 25) (.tmp 26) rfl _ _ (.int .u8 d.toNat) rfl rfl (sb_at (sb R) (k := k) HDA.out _)) ?_; go_frame) | (refine wpList_dst 33 rfl ?_; refine wpList_run 33 rfl rfl _ (exec_slice_lo 9 (.tmp 31) (.tmp 32) rfl _ _ (.string (sb (d :: q))) rfl rfl (by rw [← HDQ.out]; exact run_str_lo _ R k hk)) ?_; go_frame) | (refine (chr_any d q _).mono ?_; rintro e w3 ⟨rfl, rfl⟩) | (at_builtin; refine wpList_push rfl (.tmp 42) (.tmp 44) rfl w.heap.size _ _ rfl HOW.out _ (chr (d :: q)).1 rfl HB.out.size (by omega) rfl ?_; intro v5 w5 ho5 hb5; have HO5 := Lib.hid ho5; have HB5 := Lib.hid (HB.out.trans hb5); clear ho5 hb5 HOW HB HR HT))
            go_roundw
            case rel => exact ⟨k + (chr (d :: q)).2, acc ++ [(chr (d :: q)).1], by go_num, HO5.out, by rw [List.length_append]; exact hac, by omega, Lib.hid (by rw [drop_next HDQ.out, ← HT0B.out, ← HDQ.out]; exact HTX.out), HB5⟩
            case measure => simp [intOf]; omega
    · obtain rfl : k = R.length := by omega
      have h1 : decide ((R.length : Int) < (R.length : Int)) = false := decide_eq_false (by omega)
      have HTX2 := Lib.hid (show txt r [] 1 = .bad 28 by rw [← HTX.out, List.drop_length, txt_nil])
      go_wp2
      go_ret
      rw [HTX2.out]
      exact ⟨rfl, Rst.same HR.out HT.out HB.out hbw⟩
end Go.Proofs.YtggjgikpiljoiaaDoor
