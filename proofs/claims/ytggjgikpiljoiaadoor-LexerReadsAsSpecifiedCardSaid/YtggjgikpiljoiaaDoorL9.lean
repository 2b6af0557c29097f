/- The method that reads names. -/
import Derived.Test.YtggjgikpiljoiaaDoorL8
namespace Go.Proofs.YtggjgikpiljoiaaDoor
open Go.RowKit Hm Wm Lx

theorem is_wdB (c : UInt8) (b : Bool) (h : wd c = b) (w : World) : Calls Tryd.prog 46 #[.int .u8 c.toNat, .int .i64 2] w fun e w' => e = .returned (.bool b) ∧ Below w.heap.size w w' :=
  (is_wd c b h w).mono fun e w' ⟨h1, h2⟩ => ⟨h1, by rw [← h2]; exact Below.refl _ _⟩
theorem is_dgB (c : UInt8) (b : Bool) (h : dg c = b) (w : World) : Calls Tryd.prog 46 #[.int .u8 c.toNat, .int .i64 1] w fun e w' => e = .returned (.bool b) ∧ Below w.heap.size w w' :=
  (is_dg c b h w).mono fun e w' ⟨h1, h2⟩ => ⟨h1, by rw [← h2]; exact Below.refl _ _⟩
set_option maxRecDepth 100000 in
set_option maxHeartbeats 800000 in
theorem name_no (g base p : Nat) (l r : List UInt8) (c : UInt8) (v : Value) (T : List TI) (w : World) (hE : Env w) (hR : Blk w g 46 [.string (sb l), .int .i64 p, v]) (hT : Row w base v T) (_hb6 : 6 ≤ base) (hg : base ≤ g) (hp : p < l.length) (_hl : l.length ≤ 65536) (_hn : T.length ≤ 100000) (hd : l.drop p = c :: r) (hw : wd c = false) :
    Calls Tryd.prog 27 #[.pointer (some ⟨g, 0, none⟩)] w (MetP g base l p T w 8) := by
  have hgl : g < w.heap.size := hR.lt
  have hbw : base ≤ w.heap.size := by omega
  have HR := Lib.hid hR
  have HT := Lib.hid hT
  have HE := Lib.hid hE
  have HW := Lib.hid (Below.refl w.heap.size w)
  have HD := Lib.hid hd
  have HC := Lib.hid (show l[p]? = some c by have := congrArg (·[0]?) hd; simpa using this)
  have hrl : r.length + 1 + p = l.length := by have := congrArg List.length hd; rw [List.length_drop, List.length_cons] at this; omega
  clear hR hT hd hE
  have HWD := Lib.hid hw
  clear hw
  go_enter Tryd.func27, Tryd.ntmps27
  go_wp2_with fail
  refine late_begin (S := fun _ W => Blk W g 46 [.string (sb l), .int .i64 p, v] ∧ Env W) (by kernel_rfl) ?_
  have hR0 := HR.out.drew
  have hT0 := HT.out.below (Below.refl _ _).drew
  have hE0 := HE.out.next (Below.refl _ _).drew
  have hW0 := HW.out.drew
  generalize w.drew = u0 at hR0 hT0 hE0 hW0 ⊢
  clear HR HT HE HW
  refine late_take [] (i := 0) (some 4) rfl rfl (by first | rfl | kernel_rfl) (by kernel_rfl) (by kernel_rfl) (by kernel_rfl) (by kernel_rfl) (by kernel_rfl) (fun Ls W h => h) (.pointer (some ⟨g, 0, none⟩)) (fun _ _ _ h => h) (fun Ls W hl0 hW => exec_move (.tmp 0) rfl _ rfl) ⟨hR0, hE0⟩ ⟨hR0, hE0⟩ ?_
  go_frame
  refine late_take [] (i := 1) (some 5) rfl rfl (by first | rfl | kernel_rfl) (by kernel_rfl) (by kernel_rfl) (by kernel_rfl) (by kernel_rfl) (by kernel_rfl) (fun Ls W h => h) (.pointer (some ⟨g, 0, none⟩)) (fun _ _ _ h => h) (fun Ls W hl0 hW => exec_nilCheck _ rfl  (some ⟨g, 0, none⟩) rfl) ⟨hR0, hE0⟩ ⟨hR0, hE0⟩ ?_
  go_frame
  refine late_take [] (i := 2) (some 6) rfl rfl (by first | rfl | kernel_rfl) (by kernel_rfl) (by kernel_rfl) (by kernel_rfl) (by kernel_rfl) (by kernel_rfl) (fun Ls W h => h) (.pointer (some ⟨g, 0, none⟩)) (fun _ _ _ h => h) (fun Ls W hl0 hW => exec_fieldAddr 46 (.tmp 5) 0 rfl _ _ rfl (fa_lexer_reader_0_0 _ _)) ⟨hR0, hE0⟩ ⟨hR0, hE0⟩ ?_
  go_frame
  refine late_take [] (i := 3) (some 7) rfl rfl (by first | rfl | kernel_rfl) (by kernel_rfl) (by kernel_rfl) (by kernel_rfl) (by kernel_rfl) (by kernel_rfl) (fun Ls W h => h) (.string (sb l)) (fun _ _ _ h => h) (fun Ls W hl0 hW => exec_load 9 (.tmp 6) rfl _ _ rfl (run_load_cell flat_string (hW.1.cell 0))) ⟨hR0, hE0⟩ ⟨hR0, hE0⟩ ?_
  go_frame
  refine late_take [] (i := 4) (some 8) rfl rfl (by first | rfl | kernel_rfl) (by kernel_rfl) (by kernel_rfl) (by kernel_rfl) (by kernel_rfl) (by kernel_rfl) (fun Ls W h => h) (.pointer (some ⟨g, 0, none⟩)) (fun _ _ _ h => h) (fun Ls W hl0 hW => exec_move (.tmp 0) rfl _ rfl) ⟨hR0, hE0⟩ ⟨hR0, hE0⟩ ?_
  go_frame
  refine late_take [] (i := 5) (some 9) rfl rfl (by first | rfl | kernel_rfl) (by kernel_rfl) (by kernel_rfl) (by kernel_rfl) (by kernel_rfl) (by kernel_rfl) (fun Ls W h => h) (.pointer (some ⟨g, 0, none⟩)) (fun _ _ _ h => h) (fun Ls W hl0 hW => exec_nilCheck _ rfl  (some ⟨g, 0, none⟩) rfl) ⟨hR0, hE0⟩ ⟨hR0, hE0⟩ ?_
  go_frame
  refine late_take [] (i := 6) (some 10) rfl rfl (by first | rfl | kernel_rfl) (by kernel_rfl) (by kernel_rfl) (by kernel_rfl) (by kernel_rfl) (by kernel_rfl) (fun Ls W h => h) (.pointer (some ⟨g, 1, none⟩)) (fun _ _ _ h => h) (fun Ls W hl0 hW => exec_fieldAddr 46 (.tmp 9) 1 rfl _ _ rfl (fa_lexer_reader_1_0 _ _)) ⟨hR0, hE0⟩ ⟨hR0, hE0⟩ ?_
  go_frame
  refine late_take [] (i := 7) (some 11) rfl rfl (by first | rfl | kernel_rfl) (by kernel_rfl) (by kernel_rfl) (by kernel_rfl) (by kernel_rfl) (by kernel_rfl) (fun Ls W h => h) (.int .i64 p) (fun _ _ _ h => h) (fun Ls W hl0 hW => exec_load 3 (.tmp 10) rfl _ _ rfl (run_load_cell flat_int (hW.1.cell 1))) ⟨hR0, hE0⟩ ⟨hR0, hE0⟩ ?_
  go_frame
  refine late_take [] (i := 8) (some 12) rfl rfl (by first | rfl | kernel_rfl) (by kernel_rfl) (by kernel_rfl) (by kernel_rfl) (by kernel_rfl) (by kernel_rfl) (fun Ls W h => h) (.int .u8 c.toNat) (fun _ _ _ h => h) (fun Ls W hl0 hW => exec_index 9 (.tmp 7) (.tmp 11) rfl _ _ (.int .u8 c.toNat) rfl rfl (sb_at (sb l) (k := p) (by rw [sb_list]; exact HC.out) W)) ⟨hR0, hE0⟩ ⟨hR0, hE0⟩ ?_
  go_frame
  refine late_one (i := 9) (by kernel_rfl) (op_callG (some 13) rfl rfl (by first | rfl | kernel_rfl) rfl Tryd.func46 (by kernel_rfl) (by kernel_rfl) #[.int .u8 c.toNat, .int .i64 2] rfl (is_wdB c false HWD.out u0) ?_)
  rintro e u1 ⟨rfl, hb⟩
  have hR1 := hR0.next hb
  have hT1 := hT0.below hb
  have hE1 := hE0.next hb
  have hW1 := hW0.trans (hb.mono hW0.size)
  refine ⟨_, rfl, ⟨hR1, hE1⟩, ?_⟩
  go_frame
  clear hR0 hT0 hE0 hW0 hb
  refine late_take [] (i := 10) (some 14) rfl rfl (by first | rfl | kernel_rfl) (by kernel_rfl) (by kernel_rfl) (by kernel_rfl) (by kernel_rfl) (by kernel_rfl) (fun Ls W h => h) (.bool true) (fun _ _ _ h => h) (fun Ls W hl0 hW => exec_not _ _ rfl false rfl) ⟨hR1, hE1⟩ ⟨hR1, hE1⟩ ?_
  go_frame
  refine late_take [] (i := 11) (some 15) rfl rfl (by first | rfl | kernel_rfl) (by kernel_rfl) (by kernel_rfl) (by kernel_rfl) (by kernel_rfl) (by kernel_rfl) (fun Ls W h => h) (.bool true) (fun _ _ _ h => h) (fun Ls W hl0 hW => exec_move (.tmp 14) rfl _ rfl) ⟨hR1, hE1⟩ ⟨hR1, hE1⟩ ?_
  go_frame
  refine late_skip [] (i := 12) (some 16) rfl rfl (by first | rfl | kernel_rfl) (by kernel_rfl) (by kernel_rfl) (by kernel_rfl) (by kernel_rfl) (by kernel_rfl) (fun Ls W h => h) (fun _ _ _ h => h) ⟨hR1, hE1⟩ ⟨hR1, hE1⟩ ?_
  go_frame
  refine late_skip [] (i := 13) (some 17) rfl rfl (by first | rfl | kernel_rfl) (by kernel_rfl) (by kernel_rfl) (by kernel_rfl) (by kernel_rfl) (by kernel_rfl) (fun Ls W h => h) (fun _ _ _ h => h) ⟨hR1, hE1⟩ ⟨hR1, hE1⟩ ?_
  go_frame
  refine late_skip [] (i := 14) (some 18) rfl rfl (by first | rfl | kernel_rfl) (by kernel_rfl) (by kernel_rfl) (by kernel_rfl) (by kernel_rfl) (by kernel_rfl) (fun Ls W h => h) (fun _ _ _ h => h) ⟨hR1, hE1⟩ ⟨hR1, hE1⟩ ?_
  go_frame
  refine late_skip [] (i := 15) (some 19) rfl rfl (by first | rfl | kernel_rfl) (by kernel_rfl) (by kernel_rfl) (by kernel_rfl) (by kernel_rfl) (by kernel_rfl) (fun Ls W h => h) (fun _ _ _ h => h) ⟨hR1, hE1⟩ ⟨hR1, hE1⟩ ?_
  go_frame
  refine late_skip [] (i := 16) (some 20) rfl rfl (by first | rfl | kernel_rfl) (by kernel_rfl) (by kernel_rfl) (by kernel_rfl) (by kernel_rfl) (by kernel_rfl) (fun Ls W h => h) (fun _ _ _ h => h) ⟨hR1, hE1⟩ ⟨hR1, hE1⟩ ?_
  go_frame
  refine late_skip [] (i := 17) (some 21) rfl rfl (by first | rfl | kernel_rfl) (by kernel_rfl) (by kernel_rfl) (by kernel_rfl) (by kernel_rfl) (by kernel_rfl) (fun Ls W h => h) (fun _ _ _ h => h) ⟨hR1, hE1⟩ ⟨hR1, hE1⟩ ?_
  go_frame
  refine late_skip [] (i := 18) (some 22) rfl rfl (by first | rfl | kernel_rfl) (by kernel_rfl) (by kernel_rfl) (by kernel_rfl) (by kernel_rfl) (by kernel_rfl) (fun Ls W h => h) (fun _ _ _ h => h) ⟨hR1, hE1⟩ ⟨hR1, hE1⟩ ?_
  go_frame
  refine late_skip [] (i := 19) (some 23) rfl rfl (by first | rfl | kernel_rfl) (by kernel_rfl) (by kernel_rfl) (by kernel_rfl) (by kernel_rfl) (by kernel_rfl) (fun Ls W h => h) (fun _ _ _ h => h) ⟨hR1, hE1⟩ ⟨hR1, hE1⟩ ?_
  go_frame
  refine late_skip [] (i := 20) (some 24) rfl rfl (by first | rfl | kernel_rfl) (by kernel_rfl) (by kernel_rfl) (by kernel_rfl) (by kernel_rfl) (by kernel_rfl) (fun Ls W h => h) (fun _ _ _ h => h) ⟨hR1, hE1⟩ ⟨hR1, hE1⟩ ?_
  go_frame
  refine late_skip [] (i := 21) (some 25) rfl rfl (by first | rfl | kernel_rfl) (by kernel_rfl) (by kernel_rfl) (by kernel_rfl) (by kernel_rfl) (by kernel_rfl) (fun Ls W h => h) (fun _ _ _ h => h) ⟨hR1, hE1⟩ ⟨hR1, hE1⟩ ?_
  go_frame
  refine late_take [] (i := 22) (some 26) rfl rfl (by first | rfl | kernel_rfl) (by kernel_rfl) (by kernel_rfl) (by kernel_rfl) (by kernel_rfl) (by kernel_rfl) (fun Ls W h => h) (.bool true) (fun _ _ _ h => h) (fun Ls W hl0 hW => exec_pickT _ _ _ rfl (.bool true) rfl rfl) ⟨hR1, hE1⟩ ⟨hR1, hE1⟩ ?_
  refine late_done (by kernel_rfl) ?_ _
  go_frame
  have HR := Lib.hid hR1
  have HT := Lib.hid hT1
  have HE := Lib.hid hE1
  have HW := Lib.hid hW1
  clear hR1 hT1 hE1 hW1
  go_wp2_with fail
  go_ret
  exact ⟨rfl, Rst.same HR.out HT.out HW.out hbw⟩
set_option maxRecDepth 100000 in
set_option maxHeartbeats 800000 in
theorem name_dig (g base p : Nat) (l r : List UInt8) (c : UInt8) (v : Value) (T : List TI) (w : World) (hE : Env w) (hR : Blk w g 46 [.string (sb l), .int .i64 p, v]) (hT : Row w base v T) (_hb6 : 6 ≤ base) (hg : base ≤ g) (hp : p < l.length) (_hl : l.length ≤ 65536) (_hn : T.length ≤ 100000) (hd : l.drop p = c :: r) (hw : wd c = true) (hdg : dg c = true) :
    Calls Tryd.prog 27 #[.pointer (some ⟨g, 0, none⟩)] w (MetP g base l p T w 8) := by
  have hgl : g < w.heap.size := hR.lt
  have hbw : base ≤ w.heap.size := by omega
  have HR := Lib.hid hR
  have HT := Lib.hid hT
  have HE := Lib.hid hE
  have HW := Lib.hid (Below.refl w.heap.size w)
  have HD := Lib.hid hd
  have HC := Lib.hid (show l[p]? = some c by have := congrArg (·[0]?) hd; simpa using this)
  have hrl : r.length + 1 + p = l.length := by have := congrArg List.length hd; rw [List.length_drop, List.length_cons] at this; omega
  clear hR hT hd hE
  have HWD := Lib.hid hw
  have HDG := Lib.hid hdg
  clear hw hdg
  go_enter Tryd.func27, Tryd.ntmps27
  go_wp2_with fail
  refine late_begin (S := fun _ W => Blk W g 46 [.string (sb l), .int .i64 p, v] ∧ Env W) (by kernel_rfl) ?_
  have hR0 := HR.out.drew
  have hT0 := HT.out.below (Below.refl _ _).drew
  have hE0 := HE.out.next (Below.refl _ _).drew
  have hW0 := HW.out.drew
  generalize w.drew = u0 at hR0 hT0 hE0 hW0 ⊢
  clear HR HT HE HW
  refine late_take [] (i := 0) (some 4) rfl rfl (by first | rfl | kernel_rfl) (by kernel_rfl) (by kernel_rfl) (by kernel_rfl) (by kernel_rfl) (by kernel_rfl) (fun Ls W h => h) (.pointer (some ⟨g, 0, none⟩)) (fun _ _ _ h => h) (fun Ls W hl0 hW => exec_move (.tmp 0) rfl _ rfl) ⟨hR0, hE0⟩ ⟨hR0, hE0⟩ ?_
  go_frame
  refine late_take [] (i := 1) (some 5) rfl rfl (by first | rfl | kernel_rfl) (by kernel_rfl) (by kernel_rfl) (by kernel_rfl) (by kernel_rfl) (by kernel_rfl) (fun Ls W h => h) (.pointer (some ⟨g, 0, none⟩)) (fun _ _ _ h => h) (fun Ls W hl0 hW => exec_nilCheck _ rfl  (some ⟨g, 0, none⟩) rfl) ⟨hR0, hE0⟩ ⟨hR0, hE0⟩ ?_
  go_frame
  refine late_take [] (i := 2) (some 6) rfl rfl (by first | rfl | kernel_rfl) (by kernel_rfl) (by kernel_rfl) (by kernel_rfl) (by kernel_rfl) (by kernel_rfl) (fun Ls W h => h) (.pointer (some ⟨g, 0, none⟩)) (fun _ _ _ h => h) (fun Ls W hl0 hW => exec_fieldAddr 46 (.tmp 5) 0 rfl _ _ rfl (fa_lexer_reader_0_0 _ _)) ⟨hR0, hE0⟩ ⟨hR0, hE0⟩ ?_
  go_frame
  refine late_take [] (i := 3) (some 7) rfl rfl (by first | rfl | kernel_rfl) (by kernel_rfl) (by kernel_rfl) (by kernel_rfl) (by kernel_rfl) (by kernel_rfl) (fun Ls W h => h) (.string (sb l)) (fun _ _ _ h => h) (fun Ls W hl0 hW => exec_load 9 (.tmp 6) rfl _ _ rfl (run_load_cell flat_string (hW.1.cell 0))) ⟨hR0, hE0⟩ ⟨hR0, hE0⟩ ?_
  go_frame
  refine late_take [] (i := 4) (some 8) rfl rfl (by first | rfl | kernel_rfl) (by kernel_rfl) (by kernel_rfl) (by kernel_rfl) (by kernel_rfl) (by kernel_rfl) (fun Ls W h => h) (.pointer (some ⟨g, 0, none⟩)) (fun _ _ _ h => h) (fun Ls W hl0 hW => exec_move (.tmp 0) rfl _ rfl) ⟨hR0, hE0⟩ ⟨hR0, hE0⟩ ?_
  go_frame
  refine late_take [] (i := 5) (some 9) rfl rfl (by first | rfl | kernel_rfl) (by kernel_rfl) (by kernel_rfl) (by kernel_rfl) (by kernel_rfl) (by kernel_rfl) (fun Ls W h => h) (.pointer (some ⟨g, 0, none⟩)) (fun _ _ _ h => h) (fun Ls W hl0 hW => exec_nilCheck _ rfl  (some ⟨g, 0, none⟩) rfl) ⟨hR0, hE0⟩ ⟨hR0, hE0⟩ ?_
  go_frame
  refine late_take [] (i := 6) (some 10) rfl rfl (by first | rfl | kernel_rfl) (by kernel_rfl) (by kernel_rfl) (by kernel_rfl) (by kernel_rfl) (by kernel_rfl) (fun Ls W h => h) (.pointer (some ⟨g, 1, none⟩)) (fun _ _ _ h => h) (fun Ls W hl0 hW => exec_fieldAddr 46 (.tmp 9) 1 rfl _ _ rfl (fa_lexer_reader_1_0 _ _)) ⟨hR0, hE0⟩ ⟨hR0, hE0⟩ ?_
  go_frame
  refine late_take [] (i := 7) (some 11) rfl rfl (by first | rfl | kernel_rfl) (by kernel_rfl) (by kernel_rfl) (by kernel_rfl) (by kernel_rfl) (by kernel_rfl) (fun Ls W h => h) (.int .i64 p) (fun _ _ _ h => h) (fun Ls W hl0 hW => exec_load 3 (.tmp 10) rfl _ _ rfl (run_load_cell flat_int (hW.1.cell 1))) ⟨hR0, hE0⟩ ⟨hR0, hE0⟩ ?_
  go_frame
  refine late_take [] (i := 8) (some 12) rfl rfl (by first | rfl | kernel_rfl) (by kernel_rfl) (by kernel_rfl) (by kernel_rfl) (by kernel_rfl) (by kernel_rfl) (fun Ls W h => h) (.int .u8 c.toNat) (fun _ _ _ h => h) (fun Ls W hl0 hW => exec_index 9 (.tmp 7) (.tmp 11) rfl _ _ (.int .u8 c.toNat) rfl rfl (sb_at (sb l) (k := p) (by rw [sb_list]; exact HC.out) W)) ⟨hR0, hE0⟩ ⟨hR0, hE0⟩ ?_
  go_frame
  refine late_one (i := 9) (by kernel_rfl) (op_callG (some 13) rfl rfl (by first | rfl | kernel_rfl) rfl Tryd.func46 (by kernel_rfl) (by kernel_rfl) #[.int .u8 c.toNat, .int .i64 2] rfl (is_wdB c true HWD.out u0) ?_)
  rintro e u1 ⟨rfl, hb⟩
  have hR1 := hR0.next hb
  have hT1 := hT0.below hb
  have hE1 := hE0.next hb
  have hW1 := hW0.trans (hb.mono hW0.size)
  refine ⟨_, rfl, ⟨hR1, hE1⟩, ?_⟩
  go_frame
  clear hR0 hT0 hE0 hW0 hb
  refine late_take [] (i := 10) (some 14) rfl rfl (by first | rfl | kernel_rfl) (by kernel_rfl) (by kernel_rfl) (by kernel_rfl) (by kernel_rfl) (by kernel_rfl) (fun Ls W h => h) (.bool false) (fun _ _ _ h => h) (fun Ls W hl0 hW => exec_not _ _ rfl true rfl) ⟨hR1, hE1⟩ ⟨hR1, hE1⟩ ?_
  go_frame
  refine late_take [] (i := 11) (some 15) rfl rfl (by first | rfl | kernel_rfl) (by kernel_rfl) (by kernel_rfl) (by kernel_rfl) (by kernel_rfl) (by kernel_rfl) (fun Ls W h => h) (.bool false) (fun _ _ _ h => h) (fun Ls W hl0 hW => exec_move (.tmp 14) rfl _ rfl) ⟨hR1, hE1⟩ ⟨hR1, hE1⟩ ?_
  go_frame
  refine late_take [] (i := 12) (some 16) rfl rfl (by first | rfl | kernel_rfl) (by kernel_rfl) (by kernel_rfl) (by kernel_rfl) (by kernel_rfl) (by kernel_rfl) (fun Ls W h => h) (.pointer (some ⟨g, 0, none⟩)) (fun _ _ _ h => h) (fun Ls W hl0 hW => exec_move (.tmp 0) rfl _ rfl) ⟨hR1, hE1⟩ ⟨hR1, hE1⟩ ?_
  go_frame
  refine late_take [] (i := 13) (some 17) rfl rfl (by first | rfl | kernel_rfl) (by kernel_rfl) (by kernel_rfl) (by kernel_rfl) (by kernel_rfl) (by kernel_rfl) (fun Ls W h => h) (.pointer (some ⟨g, 0, none⟩)) (fun _ _ _ h => h) (fun Ls W hl0 hW => exec_nilCheck _ rfl  (some ⟨g, 0, none⟩) rfl) ⟨hR1, hE1⟩ ⟨hR1, hE1⟩ ?_
  go_frame
  refine late_take [] (i := 14) (some 18) rfl rfl (by first | rfl | kernel_rfl) (by kernel_rfl) (by kernel_rfl) (by kernel_rfl) (by kernel_rfl) (by kernel_rfl) (fun Ls W h => h) (.pointer (some ⟨g, 0, none⟩)) (fun _ _ _ h => h) (fun Ls W hl0 hW => exec_fieldAddr 46 (.tmp 17) 0 rfl _ _ rfl (fa_lexer_reader_0_0 _ _)) ⟨hR1, hE1⟩ ⟨hR1, hE1⟩ ?_
  go_frame
  refine late_take [] (i := 15) (some 19) rfl rfl (by first | rfl | kernel_rfl) (by kernel_rfl) (by kernel_rfl) (by kernel_rfl) (by kernel_rfl) (by kernel_rfl) (fun Ls W h => h) (.string (sb l)) (fun _ _ _ h => h) (fun Ls W hl0 hW => exec_load 9 (.tmp 18) rfl _ _ rfl (run_load_cell flat_string (hW.1.cell 0))) ⟨hR1, hE1⟩ ⟨hR1, hE1⟩ ?_
  go_frame
  refine late_take [] (i := 16) (some 20) rfl rfl (by first | rfl | kernel_rfl) (by kernel_rfl) (by kernel_rfl) (by kernel_rfl) (by kernel_rfl) (by kernel_rfl) (fun Ls W h => h) (.pointer (some ⟨g, 0, none⟩)) (fun _ _ _ h => h) (fun Ls W hl0 hW => exec_move (.tmp 0) rfl _ rfl) ⟨hR1, hE1⟩ ⟨hR1, hE1⟩ ?_
  go_frame
  refine late_take [] (i := 17) (some 21) rfl rfl (by first | rfl | kernel_rfl) (by kernel_rfl) (by kernel_rfl) (by kernel_rfl) (by kernel_rfl) (by kernel_rfl) (fun Ls W h => h) (.pointer (some ⟨g, 0, none⟩)) (fun _ _ _ h => h) (fun Ls W hl0 hW => exec_nilCheck _ rfl  (some ⟨g, 0, none⟩) rfl) ⟨hR1, hE1⟩ ⟨hR1, hE1⟩ ?_
  go_frame
  refine late_take [] (i := 18) (some 22) rfl rfl (by first | rfl | kernel_rfl) (by kernel_rfl) (by kernel_rfl) (by kernel_rfl) (by kernel_rfl) (by kernel_rfl) (fun Ls W h => h) (.pointer (some ⟨g, 1, none⟩)) (fun _ _ _ h => h) (fun Ls W hl0 hW => exec_fieldAddr 46 (.tmp 21) 1 rfl _ _ rfl (fa_lexer_reader_1_0 _ _)) ⟨hR1, hE1⟩ ⟨hR1, hE1⟩ ?_
  go_frame
  refine late_take [] (i := 19) (some 23) rfl rfl (by first | rfl | kernel_rfl) (by kernel_rfl) (by kernel_rfl) (by kernel_rfl) (by kernel_rfl) (by kernel_rfl) (fun Ls W h => h) (.int .i64 p) (fun _ _ _ h => h) (fun Ls W hl0 hW => exec_load 3 (.tmp 22) rfl _ _ rfl (run_load_cell flat_int (hW.1.cell 1))) ⟨hR1, hE1⟩ ⟨hR1, hE1⟩ ?_
  go_frame
  refine late_take [] (i := 20) (some 24) rfl rfl (by first | rfl | kernel_rfl) (by kernel_rfl) (by kernel_rfl) (by kernel_rfl) (by kernel_rfl) (by kernel_rfl) (fun Ls W h => h) (.int .u8 c.toNat) (fun _ _ _ h => h) (fun Ls W hl0 hW => exec_index 9 (.tmp 19) (.tmp 23) rfl _ _ (.int .u8 c.toNat) rfl rfl (sb_at (sb l) (k := p) (by rw [sb_list]; exact HC.out) W)) ⟨hR1, hE1⟩ ⟨hR1, hE1⟩ ?_
  go_frame
  refine late_one (i := 21) (by kernel_rfl) (op_callG (some 25) rfl rfl (by first | rfl | kernel_rfl) rfl Tryd.func46 (by kernel_rfl) (by kernel_rfl) #[.int .u8 c.toNat, .int .i64 1] rfl (is_dgB c true HDG.out u1) ?_)
  rintro e u2 ⟨rfl, hb⟩
  have hR2 := hR1.next hb
  have hT2 := hT1.below hb
  have hE2 := hE1.next hb
  have hW2 := hW1.trans (hb.mono hW1.size)
  refine ⟨_, rfl, ⟨hR2, hE2⟩, ?_⟩
  go_frame
  clear hR1 hT1 hE1 hW1 hb
  refine late_take [] (i := 22) (some 26) rfl rfl (by first | rfl | kernel_rfl) (by kernel_rfl) (by kernel_rfl) (by kernel_rfl) (by kernel_rfl) (by kernel_rfl) (fun Ls W h => h) (.bool true) (fun _ _ _ h => h) (fun Ls W hl0 hW => exec_pickF _ _ _ rfl (.bool true) rfl rfl) ⟨hR2, hE2⟩ ⟨hR2, hE2⟩ ?_
  refine late_done (by kernel_rfl) ?_ _
  go_frame
  have HR := Lib.hid hR2
  have HT := Lib.hid hT2
  have HE := Lib.hid hE2
  have HW := Lib.hid hW2
  clear hR2 hT2 hE2 hW2
  go_wp2_with fail
  go_ret
  exact ⟨rfl, Rst.same HR.out HT.out HW.out hbw⟩
set_option maxRecDepth 100000 in
set_option maxHeartbeats 800000 in
theorem name_long (g base p : Nat) (l r : List UInt8) (c : UInt8) (v : Value) (T : List TI) (w : World) (hE : Env w) (hR : Blk w g 46 [.string (sb l), .int .i64 p, v]) (hT : Row w base v T) (_hb6 : 6 ≤ base) (hg : base ≤ g) (hp : p < l.length) (_hl : l.length ≤ 65536) (_hn : T.length ≤ 100000) (hd : l.drop p = c :: r) (hw : wd c = true) (hdg : dg c = false) (hlen : 32 < (word (c :: r)).length) :
    Calls Tryd.prog 27 #[.pointer (some ⟨g, 0, none⟩)] w (MetP g base l p T w 2) := by
  have hgl : g < w.heap.size := hR.lt
  have hbw : base ≤ w.heap.size := by omega
  have HR := Lib.hid hR
  have HT := Lib.hid hT
  have HE := Lib.hid hE
  have HW := Lib.hid (Below.refl w.heap.size w)
  have HD := Lib.hid hd
  have HC := Lib.hid (show l[p]? = some c by have := congrArg (·[0]?) hd; simpa using this)
  have hrl : r.length + 1 + p = l.length := by have := congrArg List.length hd; rw [List.length_drop, List.length_cons] at this; omega
  clear hR hT hd hE
  have HWD := Lib.hid hw
  have HDG := Lib.hid hdg
  clear hw hdg
  have hwl : (word (c :: r)).length ≤ 65536 := by have := tw_le wd (c :: r); simp only [List.length_cons] at this; unfold word; omega
  have hwz : (sb (word (c :: r))).size = (word (c :: r)).length := sb_size _
  go_enter Tryd.func27, Tryd.ntmps27
  go_wp2_with fail
  refine late_begin (S := fun _ W => Blk W g 46 [.string (sb l), .int .i64 p, v] ∧ Env W) (by kernel_rfl) ?_
  have hR0 := HR.out.drew
  have hT0 := HT.out.below (Below.refl _ _).drew
  have hE0 := HE.out.next (Below.refl _ _).drew
  have hW0 := HW.out.drew
  generalize w.drew = u0 at hR0 hT0 hE0 hW0 ⊢
  clear HR HT HE HW
  refine late_take [] (i := 0) (some 4) rfl rfl (by first | rfl | kernel_rfl) (by kernel_rfl) (by kernel_rfl) (by kernel_rfl) (by kernel_rfl) (by kernel_rfl) (fun Ls W h => h) (.pointer (some ⟨g, 0, none⟩)) (fun _ _ _ h => h) (fun Ls W hl0 hW => exec_move (.tmp 0) rfl _ rfl) ⟨hR0, hE0⟩ ⟨hR0, hE0⟩ ?_
  go_frame
  refine late_take [] (i := 1) (some 5) rfl rfl (by first | rfl | kernel_rfl) (by kernel_rfl) (by kernel_rfl) (by kernel_rfl) (by kernel_rfl) (by kernel_rfl) (fun Ls W h => h) (.pointer (some ⟨g, 0, none⟩)) (fun _ _ _ h => h) (fun Ls W hl0 hW => exec_nilCheck _ rfl  (some ⟨g, 0, none⟩) rfl) ⟨hR0, hE0⟩ ⟨hR0, hE0⟩ ?_
  go_frame
  refine late_take [] (i := 2) (some 6) rfl rfl (by first | rfl | kernel_rfl) (by kernel_rfl) (by kernel_rfl) (by kernel_rfl) (by kernel_rfl) (by kernel_rfl) (fun Ls W h => h) (.pointer (some ⟨g, 0, none⟩)) (fun _ _ _ h => h) (fun Ls W hl0 hW => exec_fieldAddr 46 (.tmp 5) 0 rfl _ _ rfl (fa_lexer_reader_0_0 _ _)) ⟨hR0, hE0⟩ ⟨hR0, hE0⟩ ?_
  go_frame
  refine late_take [] (i := 3) (some 7) rfl rfl (by first | rfl | kernel_rfl) (by kernel_rfl) (by kernel_rfl) (by kernel_rfl) (by kernel_rfl) (by kernel_rfl) (fun Ls W h => h) (.string (sb l)) (fun _ _ _ h => h) (fun Ls W hl0 hW => exec_load 9 (.tmp 6) rfl _ _ rfl (run_load_cell flat_string (hW.1.cell 0))) ⟨hR0, hE0⟩ ⟨hR0, hE0⟩ ?_
  go_frame
  refine late_take [] (i := 4) (some 8) rfl rfl (by first | rfl | kernel_rfl) (by kernel_rfl) (by kernel_rfl) (by kernel_rfl) (by kernel_rfl) (by kernel_rfl) (fun Ls W h => h) (.pointer (some ⟨g, 0, none⟩)) (fun _ _ _ h => h) (fun Ls W hl0 hW => exec_move (.tmp 0) rfl _ rfl) ⟨hR0, hE0⟩ ⟨hR0, hE0⟩ ?_
  go_frame
  refine late_take [] (i := 5) (some 9) rfl rfl (by first | rfl | kernel_rfl) (by kernel_rfl) (by kernel_rfl) (by kernel_rfl) (by kernel_rfl) (by kernel_rfl) (fun Ls W h => h) (.pointer (some ⟨g, 0, none⟩)) (fun _ _ _ h => h) (fun Ls W hl0 hW => exec_nilCheck _ rfl  (some ⟨g, 0, none⟩) rfl) ⟨hR0, hE0⟩ ⟨hR0, hE0⟩ ?_
  go_frame
  refine late_take [] (i := 6) (some 10) rfl rfl (by first | rfl | kernel_rfl) (by kernel_rfl) (by kernel_rfl) (by kernel_rfl) (by kernel_rfl) (by kernel_rfl) (fun Ls W h => h) (.pointer (some ⟨g, 1, none⟩)) (fun _ _ _ h => h) (fun Ls W hl0 hW => exec_fieldAddr 46 (.tmp 9) 1 rfl _ _ rfl (fa_lexer_reader_1_0 _ _)) ⟨hR0, hE0⟩ ⟨hR0, hE0⟩ ?_
  go_frame
  refine late_take [] (i := 7) (some 11) rfl rfl (by first | rfl | kernel_rfl) (by kernel_rfl) (by kernel_rfl) (by kernel_rfl) (by kernel_rfl) (by kernel_rfl) (fun Ls W h => h) (.int .i64 p) (fun _ _ _ h => h) (fun Ls W hl0 hW => exec_load 3 (.tmp 10) rfl _ _ rfl (run_load_cell flat_int (hW.1.cell 1))) ⟨hR0, hE0⟩ ⟨hR0, hE0⟩ ?_
  go_frame
  refine late_take [] (i := 8) (some 12) rfl rfl (by first | rfl | kernel_rfl) (by kernel_rfl) (by kernel_rfl) (by kernel_rfl) (by kernel_rfl) (by kernel_rfl) (fun Ls W h => h) (.int .u8 c.toNat) (fun _ _ _ h => h) (fun Ls W hl0 hW => exec_index 9 (.tmp 7) (.tmp 11) rfl _ _ (.int .u8 c.toNat) rfl rfl (sb_at (sb l) (k := p) (by rw [sb_list]; exact HC.out) W)) ⟨hR0, hE0⟩ ⟨hR0, hE0⟩ ?_
  go_frame
  refine late_one (i := 9) (by kernel_rfl) (op_callG (some 13) rfl rfl (by first | rfl | kernel_rfl) rfl Tryd.func46 (by kernel_rfl) (by kernel_rfl) #[.int .u8 c.toNat, .int .i64 2] rfl (is_wdB c true HWD.out u0) ?_)
  rintro e u1 ⟨rfl, hb⟩
  have hR1 := hR0.next hb
  have hT1 := hT0.below hb
  have hE1 := hE0.next hb
  have hW1 := hW0.trans (hb.mono hW0.size)
  refine ⟨_, rfl, ⟨hR1, hE1⟩, ?_⟩
  go_frame
  clear hR0 hT0 hE0 hW0 hb
  refine late_take [] (i := 10) (some 14) rfl rfl (by first | rfl | kernel_rfl) (by kernel_rfl) (by kernel_rfl) (by kernel_rfl) (by kernel_rfl) (by kernel_rfl) (fun Ls W h => h) (.bool false) (fun _ _ _ h => h) (fun Ls W hl0 hW => exec_not _ _ rfl true rfl) ⟨hR1, hE1⟩ ⟨hR1, hE1⟩ ?_
  go_frame
  refine late_take [] (i := 11) (some 15) rfl rfl (by first | rfl | kernel_rfl) (by kernel_rfl) (by kernel_rfl) (by kernel_rfl) (by kernel_rfl) (by kernel_rfl) (fun Ls W h => h) (.bool false) (fun _ _ _ h => h) (fun Ls W hl0 hW => exec_move (.tmp 14) rfl _ rfl) ⟨hR1, hE1⟩ ⟨hR1, hE1⟩ ?_
  go_frame
  refine late_take [] (i := 12) (some 16) rfl rfl (by first | rfl | kernel_rfl) (by kernel_rfl) (by kernel_rfl) (by kernel_rfl) (by kernel_rfl) (by kernel_rfl) (fun Ls W h => h) (.pointer (some ⟨g, 0, none⟩)) (fun _ _ _ h => h) (fun Ls W hl0 hW => exec_move (.tmp 0) rfl _ rfl) ⟨hR1, hE1⟩ ⟨hR1, hE1⟩ ?_
  go_frame
  refine late_take [] (i := 13) (some 17) rfl rfl (by first | rfl | kernel_rfl) (by kernel_rfl) (by kernel_rfl) (by kernel_rfl) (by kernel_rfl) (by kernel_rfl) (fun Ls W h => h) (.pointer (some ⟨g, 0, none⟩)) (fun _ _ _ h => h) (fun Ls W hl0 hW => exec_nilCheck _ rfl  (some ⟨g, 0, none⟩) rfl) ⟨hR1, hE1⟩ ⟨hR1, hE1⟩ ?_
  go_frame
  refine late_take [] (i := 14) (some 18) rfl rfl (by first | rfl | kernel_rfl) (by kernel_rfl) (by kernel_rfl) (by kernel_rfl) (by kernel_rfl) (by kernel_rfl) (fun Ls W h => h) (.pointer (some ⟨g, 0, none⟩)) (fun _ _ _ h => h) (fun Ls W hl0 hW => exec_fieldAddr 46 (.tmp 17) 0 rfl _ _ rfl (fa_lexer_reader_0_0 _ _)) ⟨hR1, hE1⟩ ⟨hR1, hE1⟩ ?_
  go_frame
  refine late_take [] (i := 15) (some 19) rfl rfl (by first | rfl | kernel_rfl) (by kernel_rfl) (by kernel_rfl) (by kernel_rfl) (by kernel_rfl) (by kernel_rfl) (fun Ls W h => h) (.string (sb l)) (fun _ _ _ h => h) (fun Ls W hl0 hW => exec_load 9 (.tmp 18) rfl _ _ rfl (run_load_cell flat_string (hW.1.cell 0))) ⟨hR1, hE1⟩ ⟨hR1, hE1⟩ ?_
  go_frame
  refine late_take [] (i := 16) (some 20) rfl rfl (by first | rfl | kernel_rfl) (by kernel_rfl) (by kernel_rfl) (by kernel_rfl) (by kernel_rfl) (by kernel_rfl) (fun Ls W h => h) (.pointer (some ⟨g, 0, none⟩)) (fun _ _ _ h => h) (fun Ls W hl0 hW => exec_move (.tmp 0) rfl _ rfl) ⟨hR1, hE1⟩ ⟨hR1, hE1⟩ ?_
  go_frame
  refine late_take [] (i := 17) (some 21) rfl rfl (by first | rfl | kernel_rfl) (by kernel_rfl) (by kernel_rfl) (by kernel_rfl) (by kernel_rfl) (by kernel_rfl) (fun Ls W h => h) (.pointer (some ⟨g, 0, none⟩)) (fun _ _ _ h => h) (fun Ls W hl0 hW => exec_nilCheck _ rfl  (some ⟨g, 0, none⟩) rfl) ⟨hR1, hE1⟩ ⟨hR1, hE1⟩ ?_
  go_frame
  refine late_take [] (i := 18) (some 22) rfl rfl (by first | rfl | kernel_rfl) (by kernel_rfl) (by kernel_rfl) (by kernel_rfl) (by kernel_rfl) (by kernel_rfl) (fun Ls W h => h) (.pointer (some ⟨g, 1, none⟩)) (fun _ _ _ h => h) (fun Ls W hl0 hW => exec_fieldAddr 46 (.tmp 21) 1 rfl _ _ rfl (fa_lexer_reader_1_0 _ _)) ⟨hR1, hE1⟩ ⟨hR1, hE1⟩ ?_
  go_frame
  refine late_take [] (i := 19) (some 23) rfl rfl (by first | rfl | kernel_rfl) (by kernel_rfl) (by kernel_rfl) (by kernel_rfl) (by kernel_rfl) (by kernel_rfl) (fun Ls W h => h) (.int .i64 p) (fun _ _ _ h => h) (fun Ls W hl0 hW => exec_load 3 (.tmp 22) rfl _ _ rfl (run_load_cell flat_int (hW.1.cell 1))) ⟨hR1, hE1⟩ ⟨hR1, hE1⟩ ?_
  go_frame
  refine late_take [] (i := 20) (some 24) rfl rfl (by first | rfl | kernel_rfl) (by kernel_rfl) (by kernel_rfl) (by kernel_rfl) (by kernel_rfl) (by kernel_rfl) (fun Ls W h => h) (.int .u8 c.toNat) (fun _ _ _ h => h) (fun Ls W hl0 hW => exec_index 9 (.tmp 19) (.tmp 23) rfl _ _ (.int .u8 c.toNat) rfl rfl (sb_at (sb l) (k := p) (by rw [sb_list]; exact HC.out) W)) ⟨hR1, hE1⟩ ⟨hR1, hE1⟩ ?_
  go_frame
  refine late_one (i := 21) (by kernel_rfl) (op_callG (some 25) rfl rfl (by first | rfl | kernel_rfl) rfl Tryd.func46 (by kernel_rfl) (by kernel_rfl) #[.int .u8 c.toNat, .int .i64 1] rfl (is_dgB c false HDG.out u1) ?_)
  rintro e u2 ⟨rfl, hb⟩
  have hR2 := hR1.next hb
  have hT2 := hT1.below hb
  have hE2 := hE1.next hb
  have hW2 := hW1.trans (hb.mono hW1.size)
  refine ⟨_, rfl, ⟨hR2, hE2⟩, ?_⟩
  go_frame
  clear hR1 hT1 hE1 hW1 hb
  refine late_take [] (i := 22) (some 26) rfl rfl (by first | rfl | kernel_rfl) (by kernel_rfl) (by kernel_rfl) (by kernel_rfl) (by kernel_rfl) (by kernel_rfl) (fun Ls W h => h) (.bool false) (fun _ _ _ h => h) (fun Ls W hl0 hW => exec_pickF _ _ _ rfl (.bool false) rfl rfl) ⟨hR2, hE2⟩ ⟨hR2, hE2⟩ ?_
  refine late_done (by kernel_rfl) ?_ _
  go_frame
  have HR := Lib.hid hR2
  have HT := Lib.hid hT2
  have HE := Lib.hid hE2
  have HW := Lib.hid hW2
  clear hR2 hT2 hE2 hW2
  go_wp2_with (first | (refine (word_any g p l v _ HR.out (by omega) _hl).mono ?_; rintro e w8 ⟨rfl, hb⟩; replace HR := Lib.hid (HR.out.next hb); replace HT := Lib.hid (HT.out.below hb); replace HE := Lib.hid (HE.out.next hb); replace HW := Lib.hid (HW.out.trans (hb.mono HW.out.size)); clear hb; rw [HD.out]))
  go_ret
  exact ⟨rfl, Rst.same HR.out HT.out HW.out hbw⟩
set_option maxRecDepth 100000 in
set_option maxHeartbeats 800000 in
theorem name_yes (g base p : Nat) (l r : List UInt8) (c : UInt8) (v : Value) (T : List TI) (w : World) (hE : Env w) (hR : Blk w g 46 [.string (sb l), .int .i64 p, v]) (hT : Row w base v T) (_hb6 : 6 ≤ base) (hg : base ≤ g) (hp : p < l.length) (_hl : l.length ≤ 65536) (_hn : T.length ≤ 100000) (hd : l.drop p = c :: r) (hw : wd c = true) (hdg : dg c = false) (hlen : (word (c :: r)).length ≤ 32) :
    Calls Tryd.prog 27 #[.pointer (some ⟨g, 0, none⟩)] w (MetP g base l (p + (word (c :: r)).length) (T ++ [⟨1, p, sb (word (c :: r)), 0⟩]) w 0) := by
  have hgl : g < w.heap.size := hR.lt
  have hbw : base ≤ w.heap.size := by omega
  have HR := Lib.hid hR
  have HT := Lib.hid hT
  have HE := Lib.hid hE
  have HW := Lib.hid (Below.refl w.heap.size w)
  have HD := Lib.hid hd
  have HC := Lib.hid (show l[p]? = some c by have := congrArg (·[0]?) hd; simpa using this)
  have hrl : r.length + 1 + p = l.length := by have := congrArg List.length hd; rw [List.length_drop, List.length_cons] at this; omega
  clear hR hT hd hE
  have HWD := Lib.hid hw
  have HDG := Lib.hid hdg
  clear hw hdg
  have hwl : (word (c :: r)).length ≤ 65536 := by have := tw_le wd (c :: r); simp only [List.length_cons] at this; unfold word; omega
  have hwz : (sb (word (c :: r))).size = (word (c :: r)).length := sb_size _
  go_enter Tryd.func27, Tryd.ntmps27
  go_wp2_with fail
  refine late_begin (S := fun _ W => Blk W g 46 [.string (sb l), .int .i64 p, v] ∧ Env W) (by kernel_rfl) ?_
  have hR0 := HR.out.drew
  have hT0 := HT.out.below (Below.refl _ _).drew
  have hE0 := HE.out.next (Below.refl _ _).drew
  have hW0 := HW.out.drew
  generalize w.drew = u0 at hR0 hT0 hE0 hW0 ⊢
  clear HR HT HE HW
  refine late_take [] (i := 0) (some 4) rfl rfl (by first | rfl | kernel_rfl) (by kernel_rfl) (by kernel_rfl) (by kernel_rfl) (by kernel_rfl) (by kernel_rfl) (fun Ls W h => h) (.pointer (some ⟨g, 0, none⟩)) (fun _ _ _ h => h) (fun Ls W hl0 hW => exec_move (.tmp 0) rfl _ rfl) ⟨hR0, hE0⟩ ⟨hR0, hE0⟩ ?_
  go_frame
  refine late_take [] (i := 1) (some 5) rfl rfl (by first | rfl | kernel_rfl) (by kernel_rfl) (by kernel_rfl) (by kernel_rfl) (by kernel_rfl) (by kernel_rfl) (fun Ls W h => h) (.pointer (some ⟨g, 0, none⟩)) (fun _ _ _ h => h) (fun Ls W hl0 hW => exec_nilCheck _ rfl  (some ⟨g, 0, none⟩) rfl) ⟨hR0, hE0⟩ ⟨hR0, hE0⟩ ?_
  go_frame
  refine late_take [] (i := 2) (some 6) rfl rfl (by first | rfl | kernel_rfl) (by kernel_rfl) (by kernel_rfl) (by kernel_rfl) (by kernel_rfl) (by kernel_rfl) (fun Ls W h => h) (.pointer (some ⟨g, 0, none⟩)) (fun _ _ _ h => h) (fun Ls W hl0 hW => exec_fieldAddr 46 (.tmp 5) 0 rfl _ _ rfl (fa_lexer_reader_0_0 _ _)) ⟨hR0, hE0⟩ ⟨hR0, hE0⟩ ?_
  go_frame
  refine late_take [] (i := 3) (some 7) rfl rfl (by first | rfl | kernel_rfl) (by kernel_rfl) (by kernel_rfl) (by kernel_rfl) (by kernel_rfl) (by kernel_rfl) (fun Ls W h => h) (.string (sb l)) (fun _ _ _ h => h) (fun Ls W hl0 hW => exec_load 9 (.tmp 6) rfl _ _ rfl (run_load_cell flat_string (hW.1.cell 0))) ⟨hR0, hE0⟩ ⟨hR0, hE0⟩ ?_
  go_frame
  refine late_take [] (i := 4) (some 8) rfl rfl (by first | rfl | kernel_rfl) (by kernel_rfl) (by kernel_rfl) (by kernel_rfl) (by kernel_rfl) (by kernel_rfl) (fun Ls W h => h) (.pointer (some ⟨g, 0, none⟩)) (fun _ _ _ h => h) (fun Ls W hl0 hW => exec_move (.tmp 0) rfl _ rfl) ⟨hR0, hE0⟩ ⟨hR0, hE0⟩ ?_
  go_frame
  refine late_take [] (i := 5) (some 9) rfl rfl (by first | rfl | kernel_rfl) (by kernel_rfl) (by kernel_rfl) (by kernel_rfl) (by kernel_rfl) (by kernel_rfl) (fun Ls W h => h) (.pointer (some ⟨g, 0, none⟩)) (fun _ _ _ h => h) (fun Ls W hl0 hW => exec_nilCheck _ rfl  (some ⟨g, 0, none⟩) rfl) ⟨hR0, hE0⟩ ⟨hR0, hE0⟩ ?_
  go_frame
  refine late_take [] (i := 6) (some 10) rfl rfl (by first | rfl | kernel_rfl) (by kernel_rfl) (by kernel_rfl) (by kernel_rfl) (by kernel_rfl) (by kernel_rfl) (fun Ls W h => h) (.pointer (some ⟨g, 1, none⟩)) (fun _ _ _ h => h) (fun Ls W hl0 hW => exec_fieldAddr 46 (.tmp 9) 1 rfl _ _ rfl (fa_lexer_reader_1_0 _ _)) ⟨hR0, hE0⟩ ⟨hR0, hE0⟩ ?_
  go_frame
  refine late_take [] (i := 7) (some 11) rfl rfl (by first | rfl | kernel_rfl) (by kernel_rfl) (by kernel_rfl) (by kernel_rfl) (by kernel_rfl) (by kernel_rfl) (fun Ls W h => h) (.int .i64 p) (fun _ _ _ h => h) (fun Ls W hl0 hW => exec_load 3 (.tmp 10) rfl _ _ rfl (run_load_cell flat_int (hW.1.cell 1))) ⟨hR0, hE0⟩ ⟨hR0, hE0⟩ ?_
  go_frame
  refine late_take [] (i := 8) (some 12) rfl rfl (by first | rfl | kernel_rfl) (by kernel_rfl) (by kernel_rfl) (by kernel_rfl) (by kernel_rfl) (by kernel_rfl) (fun Ls W h => h) (.int .u8 c.toNat) (fun _ _ _ h => h) (fun Ls W hl0 hW => exec_index 9 (.tmp 7) (.tmp 11) rfl _ _ (.int .u8 c.toNat) rfl rfl (sb_at (sb l) (k := p) (by rw [sb_list]; exact HC.out) W)) ⟨hR0, hE0⟩ ⟨hR0, hE0⟩ ?_
  go_frame
  refine late_one (i := 9) (by kernel_rfl) (op_callG (some 13) rfl rfl (by first | rfl | kernel_rfl) rfl Tryd.func46 (by kernel_rfl) (by kernel_rfl) #[.int .u8 c.toNat, .int .i64 2] rfl (is_wdB c true HWD.out u0) ?_)
  rintro e u1 ⟨rfl, hb⟩
  have hR1 := hR0.next hb
  have hT1 := hT0.below hb
  have hE1 := hE0.next hb
  have hW1 := hW0.trans (hb.mono hW0.size)
  refine ⟨_, rfl, ⟨hR1, hE1⟩, ?_⟩
  go_frame
  clear hR0 hT0 hE0 hW0 hb
  refine late_take [] (i := 10) (some 14) rfl rfl (by first | rfl | kernel_rfl) (by kernel_rfl) (by kernel_rfl) (by kernel_rfl) (by kernel_rfl) (by kernel_rfl) (fun Ls W h => h) (.bool false) (fun _ _ _ h => h) (fun Ls W hl0 hW => exec_not _ _ rfl true rfl) ⟨hR1, hE1⟩ ⟨hR1, hE1⟩ ?_
  go_frame
  refine late_take [] (i := 11) (some 15) rfl rfl (by first | rfl | kernel_rfl) (by kernel_rfl) (by kernel_rfl) (by kernel_rfl) (by kernel_rfl) (by kernel_rfl) (fun Ls W h => h) (.bool false) (fun _ _ _ h => h) (fun Ls W hl0 hW => exec_move (.tmp 14) rfl _ rfl) ⟨hR1, hE1⟩ ⟨hR1, hE1⟩ ?_
  go_frame
  refine late_take [] (i := 12) (some 16) rfl rfl (by first | rfl | kernel_rfl) (by kernel_rfl) (by kernel_rfl) (by kernel_rfl) (by kernel_rfl) (by kernel_rfl) (fun Ls W h => h) (.pointer (some ⟨g, 0, none⟩)) (fun _ _ _ h => h) (fun Ls W hl0 hW => exec_move (.tmp 0) rfl _ rfl) ⟨hR1, hE1⟩ ⟨hR1, hE1⟩ ?_
  go_frame
  refine late_take [] (i := 13) (some 17) rfl rfl (by first | rfl | kernel_rfl) (by kernel_rfl) (by kernel_rfl) (by kernel_rfl) (by kernel_rfl) (by kernel_rfl) (fun Ls W h => h) (.pointer (some ⟨g, 0, none⟩)) (fun _ _ _ h => h) (fun Ls W hl0 hW => exec_nilCheck _ rfl  (some ⟨g, 0, none⟩) rfl) ⟨hR1, hE1⟩ ⟨hR1, hE1⟩ ?_
  go_frame
  refine late_take [] (i := 14) (some 18) rfl rfl (by first | rfl | kernel_rfl) (by kernel_rfl) (by kernel_rfl) (by kernel_rfl) (by kernel_rfl) (by kernel_rfl) (fun Ls W h => h) (.pointer (some ⟨g, 0, none⟩)) (fun _ _ _ h => h) (fun Ls W hl0 hW => exec_fieldAddr 46 (.tmp 17) 0 rfl _ _ rfl (fa_lexer_reader_0_0 _ _)) ⟨hR1, hE1⟩ ⟨hR1, hE1⟩ ?_
  go_frame
  refine late_take [] (i := 15) (some 19) rfl rfl (by first | rfl | kernel_rfl) (by kernel_rfl) (by kernel_rfl) (by kernel_rfl) (by kernel_rfl) (by kernel_rfl) (fun Ls W h => h) (.string (sb l)) (fun _ _ _ h => h) (fun Ls W hl0 hW => exec_load 9 (.tmp 18) rfl _ _ rfl (run_load_cell flat_string (hW.1.cell 0))) ⟨hR1, hE1⟩ ⟨hR1, hE1⟩ ?_
  go_frame
  refine late_take [] (i := 16) (some 20) rfl rfl (by first | rfl | kernel_rfl) (by kernel_rfl) (by kernel_rfl) (by kernel_rfl) (by kernel_rfl) (by kernel_rfl) (fun Ls W h => h) (.pointer (some ⟨g, 0, none⟩)) (fun _ _ _ h => h) (fun Ls W hl0 hW => exec_move (.tmp 0) rfl _ rfl) ⟨hR1, hE1⟩ ⟨hR1, hE1⟩ ?_
  go_frame
  refine late_take [] (i := 17) (some 21) rfl rfl (by first | rfl | kernel_rfl) (by kernel_rfl) (by kernel_rfl) (by kernel_rfl) (by kernel_rfl) (by kernel_rfl) (fun Ls W h => h) (.pointer (some ⟨g, 0, none⟩)) (fun _ _ _ h => h) (fun Ls W hl0 hW => exec_nilCheck _ rfl  (some ⟨g, 0, none⟩) rfl) ⟨hR1, hE1⟩ ⟨hR1, hE1⟩ ?_
  go_frame
  refine late_take [] (i := 18) (some 22) rfl rfl (by first | rfl | kernel_rfl) (by kernel_rfl) (by kernel_rfl) (by kernel_rfl) (by kernel_rfl) (by kernel_rfl) (fun Ls W h => h) (.pointer (some ⟨g, 1, none⟩)) (fun _ _ _ h => h) (fun Ls W hl0 hW => exec_fieldAddr 46 (.tmp 21) 1 rfl _ _ rfl (fa_lexer_reader_1_0 _ _)) ⟨hR1, hE1⟩ ⟨hR1, hE1⟩ ?_
  go_frame
  refine late_take [] (i := 19) (some 23) rfl rfl (by first | rfl | kernel_rfl) (by kernel_rfl) (by kernel_rfl) (by kernel_rfl) (by kernel_rfl) (by kernel_rfl) (fun Ls W h => h) (.int .i64 p) (fun _ _ _ h => h) (fun Ls W hl0 hW => exec_load 3 (.tmp 22) rfl _ _ rfl (run_load_cell flat_int (hW.1.cell 1))) ⟨hR1, hE1⟩ ⟨hR1, hE1⟩ ?_
  go_frame
  refine late_take [] (i := 20) (some 24) rfl rfl (by first | rfl | kernel_rfl) (by kernel_rfl) (by kernel_rfl) (by kernel_rfl) (by kernel_rfl) (by kernel_rfl) (fun Ls W h => h) (.int .u8 c.toNat) (fun _ _ _ h => h) (fun Ls W hl0 hW => exec_index 9 (.tmp 19) (.tmp 23) rfl _ _ (.int .u8 c.toNat) rfl rfl (sb_at (sb l) (k := p) (by rw [sb_list]; exact HC.out) W)) ⟨hR1, hE1⟩ ⟨hR1, hE1⟩ ?_
  go_frame
  refine late_one (i := 21) (by kernel_rfl) (op_callG (some 25) rfl rfl (by first | rfl | kernel_rfl) rfl Tryd.func46 (by kernel_rfl) (by kernel_rfl) #[.int .u8 c.toNat, .int .i64 1] rfl (is_dgB c false HDG.out u1) ?_)
  rintro e u2 ⟨rfl, hb⟩
  have hR2 := hR1.next hb
  have hT2 := hT1.below hb
  have hE2 := hE1.next hb
  have hW2 := hW1.trans (hb.mono hW1.size)
  refine ⟨_, rfl, ⟨hR2, hE2⟩, ?_⟩
  go_frame
  clear hR1 hT1 hE1 hW1 hb
  refine late_take [] (i := 22) (some 26) rfl rfl (by first | rfl | kernel_rfl) (by kernel_rfl) (by kernel_rfl) (by kernel_rfl) (by kernel_rfl) (by kernel_rfl) (fun Ls W h => h) (.bool false) (fun _ _ _ h => h) (fun Ls W hl0 hW => exec_pickF _ _ _ rfl (.bool false) rfl rfl) ⟨hR2, hE2⟩ ⟨hR2, hE2⟩ ?_
  refine late_done (by kernel_rfl) ?_ _
  go_frame
  have HR := Lib.hid hR2
  have HT := Lib.hid hT2
  have HE := Lib.hid hE2
  have HW := Lib.hid hW2
  clear hR2 hT2 hE2 hW2
  go_wp2_with (first | (refine (word_any g p l v _ HR.out (by omega) _hl).mono ?_; rintro e w8 ⟨rfl, hb⟩; replace HR := Lib.hid (HR.out.next hb); replace HT := Lib.hid (HT.out.below hb); replace HE := Lib.hid (HE.out.next hb); replace HW := Lib.hid (HW.out.trans (hb.mono HW.out.size)); clear hb; rw [HD.out]) | (refine wpList_dst 34 rfl ?_; refine wpList_run 34 rfl rfl _ (exec_buildF 33 #[(0, .const (.int .i64 1)), (2, .tmp 33)] rfl #[(0, .int .i64 1), (2, .string (sb (word (c :: r))))] rfl _ (build_s 1 (sb (word (c :: r))) _)) ?_; go_frame) | (refine (add_any g base p (word (c :: r)).length l v T ⟨1, 0, sb (word (c :: r)), 0⟩ _ HR.out HT.out hg (by omega) (by omega) (by omega)).mono ?_; rintro e w9 ⟨rfl, hq⟩; have HQ := Lib.hid hq; clear hq))
  go_ret
  exact ⟨rfl, HQ.out.pre HW.out hbw⟩
end Go.Proofs.YtggjgikpiljoiaaDoor
