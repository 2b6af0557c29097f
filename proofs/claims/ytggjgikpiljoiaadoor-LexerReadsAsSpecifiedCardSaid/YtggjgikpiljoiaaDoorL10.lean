/- The method that reads numbers. -/
import Derived.Test.YtggjgikpiljoiaaDoorL9
import Derived.Lib.AppendIntMem
namespace Go.Proofs.YtggjgikpiljoiaaDoor
open Go.RowKit Hm Wm Lx

theorem neq_lit (l r : List UInt8) (b : Bool) (h : (!decide (l = r)) = b) (w : World) : (binOp .neq 9 (.string (sb l)) (.string (sb r))).run Tryd.prog w = .ok (.bool b) w := by
  rw [binOp_string_neq]
  have h1 : (sb l).toList = l := by simp [sb]
  have h2 : (sb r).toList = r := by simp [sb]
  rw [h1, h2, Sem.run_pure, ← h]
  congr 3
  rw [Bool.eq_iff_iff]; simp
theorem itoa_any (n : Int) (h0 : -9223372036854775808 ≤ n) (h1 : n ≤ 9223372036854775807) (w : World) (hE : Env w) : Calls Tryd.prog 19 #[.int .i64 n] w fun e w' => e = .returned (.string (sb (Lib.itoa n))) ∧ Below w.heap.size w w' :=
  (Tryd.strconv_Itoa n h0 h1 w hE.pow).mono fun e w' ⟨h1, k, os, h2⟩ => ⟨h1, by rw [h2]; exact Lib.below_grow _ _ (Nat.le_refl _) _ _⟩
theorem atoi_any (s : List UInt8) (hs : s.length ≤ 65536) (w : World) (hE : Env w) : Calls Tryd.prog 48 #[.string (sb s)] w fun e w' => (∃ er, e = .returned (.tuple #[.int .i64 (numA s), er])) ∧ Below w.heap.size w w' := by
  have hz : (sb s).size ≤ 281474976710656 := by rw [sb_size]; omega
  match h : Lib.atoiAll s with
  | .ok v =>
    have e0 : numA s = v := by unfold numA; rw [h]
    rw [e0]
    refine (Tryd.strconv_Atoi_ok (sb s) (by omega) v (by rw [sb_list]; exact h) w).mono fun e w' ⟨h1, h2⟩ => ⟨⟨_, h1⟩, ?_⟩
    rcases h2 with rfl | ⟨t, rfl⟩
    · exact Below.refl _ _
    · exact ⟨rfl, rfl, rfl, by rw [Lib.bytesWorld_size]; omega, fun j hj => Lib.bytesWorld_at_old w _ _ j hj⟩
  | .syntax =>
    have e0 : numA s = 0 := by unfold numA; rw [h]
    rw [e0]
    obtain ⟨t, q, hv⟩ := hE.es
    exact (Tryd.strconv_Atoi_syntax_var (sb s) hz (by rw [sb_list]; exact h) t q w hv).mono fun e w' ⟨N, h1, _, _, h2⟩ => ⟨⟨_, h1⟩, h2⟩
  | .range =>
    have e0 : numA s = Lib.atoiSat s := by unfold numA; rw [h]
    rw [e0]
    obtain ⟨t, q, hv⟩ := hE.er
    refine (Tryd.strconv_Atoi_range_var (sb s) hz (by rw [sb_list]; exact h) t q w hv).mono ?_
    rintro e w' ⟨N, h1, _, _, h2⟩
    rw [sb_list] at h1
    exact ⟨⟨_, h1⟩, h2⟩
theorem numA_lo {c : UInt8} {r : List UInt8} (hc : dg c = true) : 0 ≤ numA (c :: r) ∧ numA (c :: r) ≤ 9223372036854775807 := by
  have hd := dg_eq hc
  unfold numA
  match h : Lib.atoiAll (c :: r) with
  | .syntax => simp
  | .range =>
    unfold Lib.atoiSat
    simp only [List.head?_cons, Option.map_some, Option.some.injEq]
    rw [if_neg (by omega)]
    omega
  | .ok v =>
    simp only
    unfold Lib.atoiAll at h
    simp only at h
    rw [if_neg (by omega)] at h
    split at h
    · cases h
    · cases h
    · split at h
      · cases h
      · split at h
        · cases h
        · injection h with h
          rw [if_neg (by omega)] at h
          rename_i u _ h1 _
          have : ¬ 9223372036854775808 ≤ u := fun h2 => h1 ⟨by omega, h2⟩
          omega
set_option maxRecDepth 100000 in
set_option maxHeartbeats 800000 in
theorem number_no (g base p : Nat) (l r : List UInt8) (c : UInt8) (v : Value) (T : List TI) (w : World) (hE : Env w) (hR : Blk w g 46 [.string (sb l), .int .i64 p, v]) (hT : Row w base v T) (_hb6 : 6 ≤ base) (hg : base ≤ g) (hp : p < l.length) (_hl : l.length ≤ 65536) (_hn : T.length ≤ 100000) (hd : l.drop p = c :: r) (hdg : dg c = false) :
    Calls Tryd.prog 28 #[.pointer (some ⟨g, 0, none⟩)] w (MetP g base l p T w 8) := by
  have hgl : g < w.heap.size := hR.lt
  have hbw : base ≤ w.heap.size := by omega
  have HR := Lib.hid hR
  have HT := Lib.hid hT
  have HE := Lib.hid hE
  have HW := Lib.hid (Below.refl w.heap.size w)
  have HD := Lib.hid hd
  have HC := Lib.hid (show l[p]? = some c by have := congrArg (·[0]?) hd; simpa using this)
  have hrl : r.length + 1 + p = l.length := by have := congrArg List.length hd; rw [List.length_drop, List.length_cons] at this; omega
  clear hR hT hd hE
  have HDG := Lib.hid hdg
  clear hdg
  go_enter Tryd.func28, Tryd.ntmps28
  go_wp2_with fail
  refine late_begin (S := fun _ W => Blk W g 46 [.string (sb l), .int .i64 p, v] ∧ Env W) (by kernel_rfl) ?_
  have hR0 := HR.out.drew
  have hT0 := HT.out.below (Below.refl _ _).drew
  have hE0 := HE.out.next (Below.refl _ _).drew
  have hW0 := HW.out.drew
  generalize w.drew = u0 at hR0 hT0 hE0 hW0 ⊢
  clear HR HT HE HW
  refine late_take [] (i := 0) (some 6) rfl rfl (by first | rfl | kernel_rfl) (by kernel_rfl) (by kernel_rfl) (by kernel_rfl) (by kernel_rfl) (by kernel_rfl) (fun Ls W h => h) (.pointer (some ⟨g, 0, none⟩)) (fun _ _ _ h => h) (fun Ls W hl0 hW => exec_move (.tmp 0) rfl _ rfl) ⟨hR0, hE0⟩ ⟨hR0, hE0⟩ ?_
  go_frame
  refine late_take [] (i := 1) (some 7) rfl rfl (by first | rfl | kernel_rfl) (by kernel_rfl) (by kernel_rfl) (by kernel_rfl) (by kernel_rfl) (by kernel_rfl) (fun Ls W h => h) (.pointer (some ⟨g, 0, none⟩)) (fun _ _ _ h => h) (fun Ls W hl0 hW => exec_nilCheck _ rfl  (some ⟨g, 0, none⟩) rfl) ⟨hR0, hE0⟩ ⟨hR0, hE0⟩ ?_
  go_frame
  refine late_take [] (i := 2) (some 8) rfl rfl (by first | rfl | kernel_rfl) (by kernel_rfl) (by kernel_rfl) (by kernel_rfl) (by kernel_rfl) (by kernel_rfl) (fun Ls W h => h) (.pointer (some ⟨g, 0, none⟩)) (fun _ _ _ h => h) (fun Ls W hl0 hW => exec_fieldAddr 46 (.tmp 7) 0 rfl _ _ rfl (fa_lexer_reader_0_0 _ _)) ⟨hR0, hE0⟩ ⟨hR0, hE0⟩ ?_
  go_frame
  refine late_take [] (i := 3) (some 9) rfl rfl (by first | rfl | kernel_rfl) (by kernel_rfl) (by kernel_rfl) (by kernel_rfl) (by kernel_rfl) (by kernel_rfl) (fun Ls W h => h) (.string (sb l)) (fun _ _ _ h => h) (fun Ls W hl0 hW => exec_load 9 (.tmp 8) rfl _ _ rfl (run_load_cell flat_string (hW.1.cell 0))) ⟨hR0, hE0⟩ ⟨hR0, hE0⟩ ?_
  go_frame
  refine late_take [] (i := 4) (some 10) rfl rfl (by first | rfl | kernel_rfl) (by kernel_rfl) (by kernel_rfl) (by kernel_rfl) (by kernel_rfl) (by kernel_rfl) (fun Ls W h => h) (.pointer (some ⟨g, 0, none⟩)) (fun _ _ _ h => h) (fun Ls W hl0 hW => exec_move (.tmp 0) rfl _ rfl) ⟨hR0, hE0⟩ ⟨hR0, hE0⟩ ?_
  go_frame
  refine late_take [] (i := 5) (some 11) rfl rfl (by first | rfl | kernel_rfl) (by kernel_rfl) (by kernel_rfl) (by kernel_rfl) (by kernel_rfl) (by kernel_rfl) (fun Ls W h => h) (.pointer (some ⟨g, 0, none⟩)) (fun _ _ _ h => h) (fun Ls W hl0 hW => exec_nilCheck _ rfl  (some ⟨g, 0, none⟩) rfl) ⟨hR0, hE0⟩ ⟨hR0, hE0⟩ ?_
  go_frame
  refine late_take [] (i := 6) (some 12) rfl rfl (by first | rfl | kernel_rfl) (by kernel_rfl) (by kernel_rfl) (by kernel_rfl) (by kernel_rfl) (by kernel_rfl) (fun Ls W h => h) (.pointer (some ⟨g, 1, none⟩)) (fun _ _ _ h => h) (fun Ls W hl0 hW => exec_fieldAddr 46 (.tmp 11) 1 rfl _ _ rfl (fa_lexer_reader_1_0 _ _)) ⟨hR0, hE0⟩ ⟨hR0, hE0⟩ ?_
  go_frame
  refine late_take [] (i := 7) (some 13) rfl rfl (by first | rfl | kernel_rfl) (by kernel_rfl) (by kernel_rfl) (by kernel_rfl) (by kernel_rfl) (by kernel_rfl) (fun Ls W h => h) (.int .i64 p) (fun _ _ _ h => h) (fun Ls W hl0 hW => exec_load 3 (.tmp 12) rfl _ _ rfl (run_load_cell flat_int (hW.1.cell 1))) ⟨hR0, hE0⟩ ⟨hR0, hE0⟩ ?_
  go_frame
  refine late_take [] (i := 8) (some 14) rfl rfl (by first | rfl | kernel_rfl) (by kernel_rfl) (by kernel_rfl) (by kernel_rfl) (by kernel_rfl) (by kernel_rfl) (fun Ls W h => h) (.int .u8 c.toNat) (fun _ _ _ h => h) (fun Ls W hl0 hW => exec_index 9 (.tmp 9) (.tmp 13) rfl _ _ (.int .u8 c.toNat) rfl rfl (sb_at (sb l) (k := p) (by rw [sb_list]; exact HC.out) W)) ⟨hR0, hE0⟩ ⟨hR0, hE0⟩ ?_
  go_frame
  refine late_one (i := 9) (by kernel_rfl) (op_callG (some 15) rfl rfl (by first | rfl | kernel_rfl) rfl Tryd.func46 (by kernel_rfl) (by kernel_rfl) #[.int .u8 c.toNat, .int .i64 1] rfl (is_dgB c false HDG.out u0) ?_)
  rintro e u1 ⟨rfl, hb⟩
  have hR1 := hR0.next hb
  have hT1 := hT0.below hb
  have hE1 := hE0.next hb
  have hW1 := hW0.trans (hb.mono hW0.size)
  refine ⟨_, rfl, ⟨hR1, hE1⟩, ?_⟩
  go_frame
  clear hR0 hT0 hE0 hW0 hb
  refine late_take [] (i := 10) (some 16) rfl rfl (by first | rfl | kernel_rfl) (by kernel_rfl) (by kernel_rfl) (by kernel_rfl) (by kernel_rfl) (by kernel_rfl) (fun Ls W h => h) (.bool true) (fun _ _ _ h => h) (fun Ls W hl0 hW => exec_not _ _ rfl false rfl) ⟨hR1, hE1⟩ ⟨hR1, hE1⟩ ?_
  refine late_done (by kernel_rfl) ?_ _
  go_frame
  have HR := Lib.hid hR1
  have HT := Lib.hid hT1
  have HE := Lib.hid hE1
  have HW := Lib.hid hW1
  clear hR1 hT1 hE1 hW1
  go_wp2_with fail
  go_ret
  exact ⟨rfl, Rst.same HR.out HT.out HW.out hbw⟩
set_option maxRecDepth 100000 in
set_option maxHeartbeats 800000 in
theorem number_big (g base p : Nat) (l r : List UInt8) (c : UInt8) (v : Value) (T : List TI) (w : World) (hE : Env w) (hR : Blk w g 46 [.string (sb l), .int .i64 p, v]) (hT : Row w base v T) (_hb6 : 6 ≤ base) (hg : base ≤ g) (hp : p < l.length) (_hl : l.length ≤ 65536) (_hn : T.length ≤ 100000) (hd : l.drop p = c :: r) (hdg : dg c = true) (hz : 999999999999999 < numA (word (c :: r))) :
    Calls Tryd.prog 28 #[.pointer (some ⟨g, 0, none⟩)] w (MetP g base l p T w 27) := by
  have hgl : g < w.heap.size := hR.lt
  have hbw : base ≤ w.heap.size := by omega
  have HR := Lib.hid hR
  have HT := Lib.hid hT
  have HE := Lib.hid hE
  have HW := Lib.hid (Below.refl w.heap.size w)
  have HD := Lib.hid hd
  have HC := Lib.hid (show l[p]? = some c by have := congrArg (·[0]?) hd; simpa using this)
  have hrl : r.length + 1 + p = l.length := by have := congrArg List.length hd; rw [List.length_drop, List.length_cons] at this; omega
  clear hR hT hd hE
  have hwc : word (c :: r) = c :: r.takeWhile wd := by unfold word; rw [List.takeWhile_cons, if_pos (dg_wd hdg)]
  have HDG := Lib.hid hdg
  have hwl : (word (c :: r)).length ≤ 65536 := by have := tw_le wd (c :: r); simp only [List.length_cons] at this; unfold word; omega
  have hwz : (sb (word (c :: r))).size = (word (c :: r)).length := sb_size _
  generalize hz1 : numA (word (c :: r)) = z at hz
  have HN := Lib.hid hz1
  clear hz1
  clear hdg hwc
  go_enter Tryd.func28, Tryd.ntmps28
  go_wp2_with fail
  refine late_begin (S := fun _ W => Blk W g 46 [.string (sb l), .int .i64 p, v] ∧ Env W) (by kernel_rfl) ?_
  have hR0 := HR.out.drew
  have hT0 := HT.out.below (Below.refl _ _).drew
  have hE0 := HE.out.next (Below.refl _ _).drew
  have hW0 := HW.out.drew
  generalize w.drew = u0 at hR0 hT0 hE0 hW0 ⊢
  clear HR HT HE HW
  refine late_take [] (i := 0) (some 6) rfl rfl (by first | rfl | kernel_rfl) (by kernel_rfl) (by kernel_rfl) (by kernel_rfl) (by kernel_rfl) (by kernel_rfl) (fun Ls W h => h) (.pointer (some ⟨g, 0, none⟩)) (fun _ _ _ h => h) (fun Ls W hl0 hW => exec_move (.tmp 0) rfl _ rfl) ⟨hR0, hE0⟩ ⟨hR0, hE0⟩ ?_
  go_frame
  refine late_take [] (i := 1) (some 7) rfl rfl (by first | rfl | kernel_rfl) (by kernel_rfl) (by kernel_rfl) (by kernel_rfl) (by kernel_rfl) (by kernel_rfl) (fun Ls W h => h) (.pointer (some ⟨g, 0, none⟩)) (fun _ _ _ h => h) (fun Ls W hl0 hW => exec_nilCheck _ rfl  (some ⟨g, 0, none⟩) rfl) ⟨hR0, hE0⟩ ⟨hR0, hE0⟩ ?_
  go_frame
  refine late_take [] (i := 2) (some 8) rfl rfl (by first | rfl | kernel_rfl) (by kernel_rfl) (by kernel_rfl) (by kernel_rfl) (by kernel_rfl) (by kernel_rfl) (fun Ls W h => h) (.pointer (some ⟨g, 0, none⟩)) (fun _ _ _ h => h) (fun Ls W hl0 hW => exec_fieldAddr 46 (.tmp 7) 0 rfl _ _ rfl (fa_lexer_reader_0_0 _ _)) ⟨hR0, hE0⟩ ⟨hR0, hE0⟩ ?_
  go_frame
  refine late_take [] (i := 3) (some 9) rfl rfl (by first | rfl | kernel_rfl) (by kernel_rfl) (by kernel_rfl) (by kernel_rfl) (by kernel_rfl) (by kernel_rfl) (fun Ls W h => h) (.string (sb l)) (fun _ _ _ h => h) (fun Ls W hl0 hW => exec_load 9 (.tmp 8) rfl _ _ rfl (run_load_cell flat_string (hW.1.cell 0))) ⟨hR0, hE0⟩ ⟨hR0, hE0⟩ ?_
  go_frame
  refine late_take [] (i := 4) (some 10) rfl rfl (by first | rfl | kernel_rfl) (by kernel_rfl) (by kernel_rfl) (by kernel_rfl) (by kernel_rfl) (by kernel_rfl) (fun Ls W h => h) (.pointer (some ⟨g, 0, none⟩)) (fun _ _ _ h => h) (fun Ls W hl0 hW => exec_move (.tmp 0) rfl _ rfl) ⟨hR0, hE0⟩ ⟨hR0, hE0⟩ ?_
  go_frame
  refine late_take [] (i := 5) (some 11) rfl rfl (by first | rfl | kernel_rfl) (by kernel_rfl) (by kernel_rfl) (by kernel_rfl) (by kernel_rfl) (by kernel_rfl) (fun Ls W h => h) (.pointer (some ⟨g, 0, none⟩)) (fun _ _ _ h => h) (fun Ls W hl0 hW => exec_nilCheck _ rfl  (some ⟨g, 0, none⟩) rfl) ⟨hR0, hE0⟩ ⟨hR0, hE0⟩ ?_
  go_frame
  refine late_take [] (i := 6) (some 12) rfl rfl (by first | rfl | kernel_rfl) (by kernel_rfl) (by kernel_rfl) (by kernel_rfl) (by kernel_rfl) (by kernel_rfl) (fun Ls W h => h) (.pointer (some ⟨g, 1, none⟩)) (fun _ _ _ h => h) (fun Ls W hl0 hW => exec_fieldAddr 46 (.tmp 11) 1 rfl _ _ rfl (fa_lexer_reader_1_0 _ _)) ⟨hR0, hE0⟩ ⟨hR0, hE0⟩ ?_
  go_frame
  refine late_take [] (i := 7) (some 13) rfl rfl (by first | rfl | kernel_rfl) (by kernel_rfl) (by kernel_rfl) (by kernel_rfl) (by kernel_rfl) (by kernel_rfl) (fun Ls W h => h) (.int .i64 p) (fun _ _ _ h => h) (fun Ls W hl0 hW => exec_load 3 (.tmp 12) rfl _ _ rfl (run_load_cell flat_int (hW.1.cell 1))) ⟨hR0, hE0⟩ ⟨hR0, hE0⟩ ?_
  go_frame
  refine late_take [] (i := 8) (some 14) rfl rfl (by first | rfl | kernel_rfl) (by kernel_rfl) (by kernel_rfl) (by kernel_rfl) (by kernel_rfl) (by kernel_rfl) (fun Ls W h => h) (.int .u8 c.toNat) (fun _ _ _ h => h) (fun Ls W hl0 hW => exec_index 9 (.tmp 9) (.tmp 13) rfl _ _ (.int .u8 c.toNat) rfl rfl (sb_at (sb l) (k := p) (by rw [sb_list]; exact HC.out) W)) ⟨hR0, hE0⟩ ⟨hR0, hE0⟩ ?_
  go_frame
  refine late_one (i := 9) (by kernel_rfl) (op_callG (some 15) rfl rfl (by first | rfl | kernel_rfl) rfl Tryd.func46 (by kernel_rfl) (by kernel_rfl) #[.int .u8 c.toNat, .int .i64 1] rfl (is_dgB c true HDG.out u0) ?_)
  rintro e u1 ⟨rfl, hb⟩
  have hR1 := hR0.next hb
  have hT1 := hT0.below hb
  have hE1 := hE0.next hb
  have hW1 := hW0.trans (hb.mono hW0.size)
  refine ⟨_, rfl, ⟨hR1, hE1⟩, ?_⟩
  go_frame
  clear hR0 hT0 hE0 hW0 hb
  refine late_take [] (i := 10) (some 16) rfl rfl (by first | rfl | kernel_rfl) (by kernel_rfl) (by kernel_rfl) (by kernel_rfl) (by kernel_rfl) (by kernel_rfl) (fun Ls W h => h) (.bool false) (fun _ _ _ h => h) (fun Ls W hl0 hW => exec_not _ _ rfl true rfl) ⟨hR1, hE1⟩ ⟨hR1, hE1⟩ ?_
  refine late_done (by kernel_rfl) ?_ _
  go_frame
  have HR := Lib.hid hR1
  have HT := Lib.hid hT1
  have HE := Lib.hid hE1
  have HW := Lib.hid hW1
  clear hR1 hT1 hE1 hW1
  go_wp2_with (first | (refine (word_any g p l v _ HR.out (by omega) _hl).mono ?_; rintro e w8 ⟨rfl, hb⟩; replace HR := Lib.hid (HR.out.next hb); replace HT := Lib.hid (HT.out.below hb); replace HE := Lib.hid (HE.out.next hb); replace HW := Lib.hid (HW.out.trans (hb.mono HW.out.size)); clear hb; rw [HD.out]) | (refine (atoi_any (word (c :: r)) hwl _ HE.out).mono ?_; rintro e w8 ⟨⟨er, rfl⟩, hb⟩; replace HR := Lib.hid (HR.out.next hb); replace HT := Lib.hid (HT.out.below hb); replace HE := Lib.hid (HE.out.next hb); replace HW := Lib.hid (HW.out.trans (hb.mono HW.out.size)); clear hb; rw [HN.out]))
  go_ret
  exact ⟨rfl, Rst.same HR.out HT.out HW.out hbw⟩
set_option maxRecDepth 100000 in
set_option maxHeartbeats 800000 in
theorem number_bad (g base p : Nat) (l r : List UInt8) (c : UInt8) (v : Value) (T : List TI) (w : World) (hE : Env w) (hR : Blk w g 46 [.string (sb l), .int .i64 p, v]) (hT : Row w base v T) (_hb6 : 6 ≤ base) (hg : base ≤ g) (hp : p < l.length) (_hl : l.length ≤ 65536) (_hn : T.length ≤ 100000) (hd : l.drop p = c :: r) (hdg : dg c = true) (hz : numA (word (c :: r)) ≤ 999999999999999) (hi : Lib.itoa (numA (word (c :: r))) ≠ word (c :: r)) :
    Calls Tryd.prog 28 #[.pointer (some ⟨g, 0, none⟩)] w (MetP g base l p T w 27) := by
  have hgl : g < w.heap.size := hR.lt
  have hbw : base ≤ w.heap.size := by omega
  have HR := Lib.hid hR
  have HT := Lib.hid hT
  have HE := Lib.hid hE
  have HW := Lib.hid (Below.refl w.heap.size w)
  have HD := Lib.hid hd
  have HC := Lib.hid (show l[p]? = some c by have := congrArg (·[0]?) hd; simpa using this)
  have hrl : r.length + 1 + p = l.length := by have := congrArg List.length hd; rw [List.length_drop, List.length_cons] at this; omega
  clear hR hT hd hE
  have hwc : word (c :: r) = c :: r.takeWhile wd := by unfold word; rw [List.takeWhile_cons, if_pos (dg_wd hdg)]
  have HDG := Lib.hid hdg
  have hwl : (word (c :: r)).length ≤ 65536 := by have := tw_le wd (c :: r); simp only [List.length_cons] at this; unfold word; omega
  have hwz : (sb (word (c :: r))).size = (word (c :: r)).length := sb_size _
  have hz0 := (numA_lo (r := r.takeWhile wd) hdg).1
  rw [← hwc] at hz0
  have HNE := Lib.hid (show (!decide (Lib.itoa (numA (word (c :: r))) = word (c :: r))) = true by simp [hi])
  clear hi
  generalize hz1 : numA (word (c :: r)) = z at hz hz0 HNE
  have hz5 : decide ((999999999999999 : Int) < z) = false := decide_eq_false (by omega)
  have HN := Lib.hid hz1
  clear hz1
  clear hdg hwc
  go_enter Tryd.func28, Tryd.ntmps28
  go_wp2_with fail
  refine late_begin (S := fun _ W => Blk W g 46 [.string (sb l), .int .i64 p, v] ∧ Env W) (by kernel_rfl) ?_
  have hR0 := HR.out.drew
  have hT0 := HT.out.below (Below.refl _ _).drew
  have hE0 := HE.out.next (Below.refl _ _).drew
  have hW0 := HW.out.drew
  generalize w.drew = u0 at hR0 hT0 hE0 hW0 ⊢
  clear HR HT HE HW
  refine late_take [] (i := 0) (some 6) rfl rfl (by first | rfl | kernel_rfl) (by kernel_rfl) (by kernel_rfl) (by kernel_rfl) (by kernel_rfl) (by kernel_rfl) (fun Ls W h => h) (.pointer (some ⟨g, 0, none⟩)) (fun _ _ _ h => h) (fun Ls W hl0 hW => exec_move (.tmp 0) rfl _ rfl) ⟨hR0, hE0⟩ ⟨hR0, hE0⟩ ?_
  go_frame
  refine late_take [] (i := 1) (some 7) rfl rfl (by first | rfl | kernel_rfl) (by kernel_rfl) (by kernel_rfl) (by kernel_rfl) (by kernel_rfl) (by kernel_rfl) (fun Ls W h => h) (.pointer (some ⟨g, 0, none⟩)) (fun _ _ _ h => h) (fun Ls W hl0 hW => exec_nilCheck _ rfl  (some ⟨g, 0, none⟩) rfl) ⟨hR0, hE0⟩ ⟨hR0, hE0⟩ ?_
  go_frame
  refine late_take [] (i := 2) (some 8) rfl rfl (by first | rfl | kernel_rfl) (by kernel_rfl) (by kernel_rfl) (by kernel_rfl) (by kernel_rfl) (by kernel_rfl) (fun Ls W h => h) (.pointer (some ⟨g, 0, none⟩)) (fun _ _ _ h => h) (fun Ls W hl0 hW => exec_fieldAddr 46 (.tmp 7) 0 rfl _ _ rfl (fa_lexer_reader_0_0 _ _)) ⟨hR0, hE0⟩ ⟨hR0, hE0⟩ ?_
  go_frame
  refine late_take [] (i := 3) (some 9) rfl rfl (by first | rfl | kernel_rfl) (by kernel_rfl) (by kernel_rfl) (by kernel_rfl) (by kernel_rfl) (by kernel_rfl) (fun Ls W h => h) (.string (sb l)) (fun _ _ _ h => h) (fun Ls W hl0 hW => exec_load 9 (.tmp 8) rfl _ _ rfl (run_load_cell flat_string (hW.1.cell 0))) ⟨hR0, hE0⟩ ⟨hR0, hE0⟩ ?_
  go_frame
  refine late_take [] (i := 4) (some 10) rfl rfl (by first | rfl | kernel_rfl) (by kernel_rfl) (by kernel_rfl) (by kernel_rfl) (by kernel_rfl) (by kernel_rfl) (fun Ls W h => h) (.pointer (some ⟨g, 0, none⟩)) (fun _ _ _ h => h) (fun Ls W hl0 hW => exec_move (.tmp 0) rfl _ rfl) ⟨hR0, hE0⟩ ⟨hR0, hE0⟩ ?_
  go_frame
  refine late_take [] (i := 5) (some 11) rfl rfl (by first | rfl | kernel_rfl) (by kernel_rfl) (by kernel_rfl) (by kernel_rfl) (by kernel_rfl) (by kernel_rfl) (fun Ls W h => h) (.pointer (some ⟨g, 0, none⟩)) (fun _ _ _ h => h) (fun Ls W hl0 hW => exec_nilCheck _ rfl  (some ⟨g, 0, none⟩) rfl) ⟨hR0, hE0⟩ ⟨hR0, hE0⟩ ?_
  go_frame
  refine late_take [] (i := 6) (some 12) rfl rfl (by first | rfl | kernel_rfl) (by kernel_rfl) (by kernel_rfl) (by kernel_rfl) (by kernel_rfl) (by kernel_rfl) (fun Ls W h => h) (.pointer (some ⟨g, 1, none⟩)) (fun _ _ _ h => h) (fun Ls W hl0 hW => exec_fieldAddr 46 (.tmp 11) 1 rfl _ _ rfl (fa_lexer_reader_1_0 _ _)) ⟨hR0, hE0⟩ ⟨hR0, hE0⟩ ?_
  go_frame
  refine late_take [] (i := 7) (some 13) rfl rfl (by first | rfl | kernel_rfl) (by kernel_rfl) (by kernel_rfl) (by kernel_rfl) (by kernel_rfl) (by kernel_rfl) (fun Ls W h => h) (.int .i64 p) (fun _ _ _ h => h) (fun Ls W hl0 hW => exec_load 3 (.tmp 12) rfl _ _ rfl (run_load_cell flat_int (hW.1.cell 1))) ⟨hR0, hE0⟩ ⟨hR0, hE0⟩ ?_
  go_frame
  refine late_take [] (i := 8) (some 14) rfl rfl (by first | rfl | kernel_rfl) (by kernel_rfl) (by kernel_rfl) (by kernel_rfl) (by kernel_rfl) (by kernel_rfl) (fun Ls W h => h) (.int .u8 c.toNat) (fun _ _ _ h => h) (fun Ls W hl0 hW => exec_index 9 (.tmp 9) (.tmp 13) rfl _ _ (.int .u8 c.toNat) rfl rfl (sb_at (sb l) (k := p) (by rw [sb_list]; exact HC.out) W)) ⟨hR0, hE0⟩ ⟨hR0, hE0⟩ ?_
  go_frame
  refine late_one (i := 9) (by kernel_rfl) (op_callG (some 15) rfl rfl (by first | rfl | kernel_rfl) rfl Tryd.func46 (by kernel_rfl) (by kernel_rfl) #[.int .u8 c.toNat, .int .i64 1] rfl (is_dgB c true HDG.out u0) ?_)
  rintro e u1 ⟨rfl, hb⟩
  have hR1 := hR0.next hb
  have hT1 := hT0.below hb
  have hE1 := hE0.next hb
  have hW1 := hW0.trans (hb.mono hW0.size)
  refine ⟨_, rfl, ⟨hR1, hE1⟩, ?_⟩
  go_frame
  clear hR0 hT0 hE0 hW0 hb
  refine late_take [] (i := 10) (some 16) rfl rfl (by first | rfl | kernel_rfl) (by kernel_rfl) (by kernel_rfl) (by kernel_rfl) (by kernel_rfl) (by kernel_rfl) (fun Ls W h => h) (.bool false) (fun _ _ _ h => h) (fun Ls W hl0 hW => exec_not _ _ rfl true rfl) ⟨hR1, hE1⟩ ⟨hR1, hE1⟩ ?_
  refine late_done (by kernel_rfl) ?_ _
  go_frame
  have HR := Lib.hid hR1
  have HT := Lib.hid hT1
  have HE := Lib.hid hE1
  have HW := Lib.hid hW1
  clear hR1 hT1 hE1 hW1
  go_wp2_with (first | (refine (word_any g p l v _ HR.out (by omega) _hl).mono ?_; rintro e w8 ⟨rfl, hb⟩; replace HR := Lib.hid (HR.out.next hb); replace HT := Lib.hid (HT.out.below hb); replace HE := Lib.hid (HE.out.next hb); replace HW := Lib.hid (HW.out.trans (hb.mono HW.out.size)); clear hb; rw [HD.out]) | (refine (atoi_any (word (c :: r)) hwl _ HE.out).mono ?_; rintro e w8 ⟨⟨er, rfl⟩, hb⟩; replace HR := Lib.hid (HR.out.next hb); replace HT := Lib.hid (HT.out.below hb); replace HE := Lib.hid (HE.out.next hb); replace HW := Lib.hid (HW.out.trans (hb.mono HW.out.size)); clear hb; rw [HN.out]) | (refine (itoa_any z (by omega) (by omega) _ HE.out).mono ?_; rintro e w8 ⟨rfl, hb⟩; replace HR := Lib.hid (HR.out.next hb); replace HT := Lib.hid (HT.out.below hb); replace HE := Lib.hid (HE.out.next hb); replace HW := Lib.hid (HW.out.trans (hb.mono HW.out.size)); clear hb) | (refine wpList_dst 30 rfl ?_; refine wpList_runG 30 rfl rfl _ (exec_bin .neq 9 _ (.tmp 28) (.tmp 29) rfl (.string (sb (Lib.itoa z))) (.string (sb (word (c :: r)))) (.bool true) rfl rfl rfl (neq_lit _ _ true HNE.out _)) ?_; go_frame))
  go_ret
  exact ⟨rfl, Rst.same HR.out HT.out HW.out hbw⟩
set_option maxRecDepth 100000 in
set_option maxHeartbeats 800000 in
theorem number_yes (g base p : Nat) (l r : List UInt8) (c : UInt8) (v : Value) (T : List TI) (w : World) (hE : Env w) (hR : Blk w g 46 [.string (sb l), .int .i64 p, v]) (hT : Row w base v T) (_hb6 : 6 ≤ base) (hg : base ≤ g) (hp : p < l.length) (_hl : l.length ≤ 65536) (_hn : T.length ≤ 100000) (hd : l.drop p = c :: r) (hdg : dg c = true) (ho : numOk (word (c :: r)) = true) :
    Calls Tryd.prog 28 #[.pointer (some ⟨g, 0, none⟩)] w (MetP g base l (p + (word (c :: r)).length) (T ++ [⟨2, p, ByteArray.empty, (numV (word (c :: r)) : Nat)⟩]) w 0) := by
  have hgl : g < w.heap.size := hR.lt
  have hbw : base ≤ w.heap.size := by omega
  have HR := Lib.hid hR
  have HT := Lib.hid hT
  have HE := Lib.hid hE
  have HW := Lib.hid (Below.refl w.heap.size w)
  have HD := Lib.hid hd
  have HC := Lib.hid (show l[p]? = some c by have := congrArg (·[0]?) hd; simpa using this)
  have hrl : r.length + 1 + p = l.length := by have := congrArg List.length hd; rw [List.length_drop, List.length_cons] at this; omega
  clear hR hT hd hE
  have hwc : word (c :: r) = c :: r.takeWhile wd := by unfold word; rw [List.takeWhile_cons, if_pos (dg_wd hdg)]
  have HDG := Lib.hid hdg
  have hwl : (word (c :: r)).length ≤ 65536 := by have := tw_le wd (c :: r); simp only [List.length_cons] at this; unfold word; omega
  have hwz : (sb (word (c :: r))).size = (word (c :: r)).length := sb_size _
  have hz1 : numA (word (c :: r)) = (numV (word (c :: r)) : Nat) := by rw [hwc] at ho ⊢; exact numA_val ho
  have hz2 : Lib.itoa (numV (word (c :: r)) : Nat) = word (c :: r) := by rw [hwc] at ho ⊢; exact itoa_num hdg ho
  have hz3 := numV_lt ho
  clear ho
  generalize numV (word (c :: r)) = z at hz1 hz2 hz3 ⊢
  have HN := Lib.hid hz1
  have HI := Lib.hid hz2
  clear hz1 hz2
  clear hdg hwc
  go_enter Tryd.func28, Tryd.ntmps28
  go_wp2_with fail
  refine late_begin (S := fun _ W => Blk W g 46 [.string (sb l), .int .i64 p, v] ∧ Env W) (by kernel_rfl) ?_
  have hR0 := HR.out.drew
  have hT0 := HT.out.below (Below.refl _ _).drew
  have hE0 := HE.out.next (Below.refl _ _).drew
  have hW0 := HW.out.drew
  generalize w.drew = u0 at hR0 hT0 hE0 hW0 ⊢
  clear HR HT HE HW
  refine late_take [] (i := 0) (some 6) rfl rfl (by first | rfl | kernel_rfl) (by kernel_rfl) (by kernel_rfl) (by kernel_rfl) (by kernel_rfl) (by kernel_rfl) (fun Ls W h => h) (.pointer (some ⟨g, 0, none⟩)) (fun _ _ _ h => h) (fun Ls W hl0 hW => exec_move (.tmp 0) rfl _ rfl) ⟨hR0, hE0⟩ ⟨hR0, hE0⟩ ?_
  go_frame
  refine late_take [] (i := 1) (some 7) rfl rfl (by first | rfl | kernel_rfl) (by kernel_rfl) (by kernel_rfl) (by kernel_rfl) (by kernel_rfl) (by kernel_rfl) (fun Ls W h => h) (.pointer (some ⟨g, 0, none⟩)) (fun _ _ _ h => h) (fun Ls W hl0 hW => exec_nilCheck _ rfl  (some ⟨g, 0, none⟩) rfl) ⟨hR0, hE0⟩ ⟨hR0, hE0⟩ ?_
  go_frame
  refine late_take [] (i := 2) (some 8) rfl rfl (by first | rfl | kernel_rfl) (by kernel_rfl) (by kernel_rfl) (by kernel_rfl) (by kernel_rfl) (by kernel_rfl) (fun Ls W h => h) (.pointer (some ⟨g, 0, none⟩)) (fun _ _ _ h => h) (fun Ls W hl0 hW => exec_fieldAddr 46 (.tmp 7) 0 rfl _ _ rfl (fa_lexer_reader_0_0 _ _)) ⟨hR0, hE0⟩ ⟨hR0, hE0⟩ ?_
  go_frame
  refine late_take [] (i := 3) (some 9) rfl rfl (by first | rfl | kernel_rfl) (by kernel_rfl) (by kernel_rfl) (by kernel_rfl) (by kernel_rfl) (by kernel_rfl) (fun Ls W h => h) (.string (sb l)) (fun _ _ _ h => h) (fun Ls W hl0 hW => exec_load 9 (.tmp 8) rfl _ _ rfl (run_load_cell flat_string (hW.1.cell 0))) ⟨hR0, hE0⟩ ⟨hR0, hE0⟩ ?_
  go_frame
  refine late_take [] (i := 4) (some 10) rfl rfl (by first | rfl | kernel_rfl) (by kernel_rfl) (by kernel_rfl) (by kernel_rfl) (by kernel_rfl) (by kernel_rfl) (fun Ls W h => h) (.pointer (some ⟨g, 0, none⟩)) (fun _ _ _ h => h) (fun Ls W hl0 hW => exec_move (.tmp 0) rfl _ rfl) ⟨hR0, hE0⟩ ⟨hR0, hE0⟩ ?_
  go_frame
  refine late_take [] (i := 5) (some 11) rfl rfl (by first | rfl | kernel_rfl) (by kernel_rfl) (by kernel_rfl) (by kernel_rfl) (by kernel_rfl) (by kernel_rfl) (fun Ls W h => h) (.pointer (some ⟨g, 0, none⟩)) (fun _ _ _ h => h) (fun Ls W hl0 hW => exec_nilCheck _ rfl  (some ⟨g, 0, none⟩) rfl) ⟨hR0, hE0⟩ ⟨hR0, hE0⟩ ?_
  go_frame
  refine late_take [] (i := 6) (some 12) rfl rfl (by first | rfl | kernel_rfl) (by kernel_rfl) (by kernel_rfl) (by kernel_rfl) (by kernel_rfl) (by kernel_rfl) (fun Ls W h => h) (.pointer (some ⟨g, 1, none⟩)) (fun _ _ _ h => h) (fun Ls W hl0 hW => exec_fieldAddr 46 (.tmp 11) 1 rfl _ _ rfl (fa_lexer_reader_1_0 _ _)) ⟨hR0, hE0⟩ ⟨hR0, hE0⟩ ?_
  go_frame
  refine late_take [] (i := 7) (some 13) rfl rfl (by first | rfl | kernel_rfl) (by kernel_rfl) (by kernel_rfl) (by kernel_rfl) (by kernel_rfl) (by kernel_rfl) (fun Ls W h => h) (.int .i64 p) (fun _ _ _ h => h) (fun Ls W hl0 hW => exec_load 3 (.tmp 12) rfl _ _ rfl (run_load_cell flat_int (hW.1.cell 1))) ⟨hR0, hE0⟩ ⟨hR0, hE0⟩ ?_
  go_frame
  refine late_take [] (i := 8) (some 14) rfl rfl (by first | rfl | kernel_rfl) (by kernel_rfl) (by kernel_rfl) (by kernel_rfl) (by kernel_rfl) (by kernel_rfl) (fun Ls W h => h) (.int .u8 c.toNat) (fun _ _ _ h => h) (fun Ls W hl0 hW => exec_index 9 (.tmp 9) (.tmp 13) rfl _ _ (.int .u8 c.toNat) rfl rfl (sb_at (sb l) (k := p) (by rw [sb_list]; exact HC.out) W)) ⟨hR0, hE0⟩ ⟨hR0, hE0⟩ ?_
  go_frame
  refine late_one (i := 9) (by kernel_rfl) (op_callG (some 15) rfl rfl (by first | rfl | kernel_rfl) rfl Tryd.func46 (by kernel_rfl) (by kernel_rfl) #[.int .u8 c.toNat, .int .i64 1] rfl (is_dgB c true HDG.out u0) ?_)
  rintro e u1 ⟨rfl, hb⟩
  have hR1 := hR0.next hb
  have hT1 := hT0.below hb
  have hE1 := hE0.next hb
  have hW1 := hW0.trans (hb.mono hW0.size)
  refine ⟨_, rfl, ⟨hR1, hE1⟩, ?_⟩
  go_frame
  clear hR0 hT0 hE0 hW0 hb
  refine late_take [] (i := 10) (some 16) rfl rfl (by first | rfl | kernel_rfl) (by kernel_rfl) (by kernel_rfl) (by kernel_rfl) (by kernel_rfl) (by kernel_rfl) (fun Ls W h => h) (.bool false) (fun _ _ _ h => h) (fun Ls W hl0 hW => exec_not _ _ rfl true rfl) ⟨hR1, hE1⟩ ⟨hR1, hE1⟩ ?_
  refine late_done (by kernel_rfl) ?_ _
  go_frame
  have HR := Lib.hid hR1
  have HT := Lib.hid hT1
  have HE := Lib.hid hE1
  have HW := Lib.hid hW1
  clear hR1 hT1 hE1 hW1
  go_wp2_with (first | (refine (word_any g p l v _ HR.out (by omega) _hl).mono ?_; rintro e w8 ⟨rfl, hb⟩; replace HR := Lib.hid (HR.out.next hb); replace HT := Lib.hid (HT.out.below hb); replace HE := Lib.hid (HE.out.next hb); replace HW := Lib.hid (HW.out.trans (hb.mono HW.out.size)); clear hb; rw [HD.out]) | (refine (atoi_any (word (c :: r)) hwl _ HE.out).mono ?_; rintro e w8 ⟨⟨er, rfl⟩, hb⟩; replace HR := Lib.hid (HR.out.next hb); replace HT := Lib.hid (HT.out.below hb); replace HE := Lib.hid (HE.out.next hb); replace HW := Lib.hid (HW.out.trans (hb.mono HW.out.size)); clear hb; rw [HN.out]) | (refine (itoa_any z (by omega) (by omega) _ HE.out).mono ?_; rintro e w8 ⟨rfl, hb⟩; replace HR := Lib.hid (HR.out.next hb); replace HT := Lib.hid (HT.out.below hb); replace HE := Lib.hid (HE.out.next hb); replace HW := Lib.hid (HW.out.trans (hb.mono HW.out.size)); clear hb; rw [HI.out]) | (refine wpList_dst 30 rfl ?_; refine wpList_runG 30 rfl rfl _ (exec_bin .neq 9 _ (.tmp 28) (.tmp 29) rfl (.string (sb (word (c :: r)))) (.string (sb (word (c :: r)))) (.bool false) rfl rfl rfl (neq_lit _ _ false (by simp) _)) ?_; go_frame) | (refine wpList_dst 34 rfl ?_; refine wpList_run 34 rfl rfl _ (exec_buildF 33 #[(0, .const (.int .i64 2)), (3, .tmp 33)] rfl #[(0, .int .i64 2), (3, .int .i64 ((z : Nat)))] rfl _ (build_n 2 ((z : Nat)) _)) ?_; go_frame) | (refine (add_any g base p (word (c :: r)).length l v T ⟨2, 0, ByteArray.empty, (z : Nat)⟩ _ HR.out HT.out hg (by omega) (by omega) (by omega)).mono ?_; rintro e w9 ⟨rfl, hq⟩; have HQ := Lib.hid hq; clear hq))
  go_ret
  exact ⟨rfl, HQ.out.pre HW.out hbw⟩
end Go.Proofs.YtggjgikpiljoiaaDoor
