/- The laws' sanity. -/
import Derived.Test.YtmifpaafpmibmaaDoorCL
namespace Go.Proofs.YtmifpaafpmibmaaDoor
open Go.RowKit Hm Wm Cm

theorem op_runG {P : Program} {ops : Array Oper} {i : Nat} {oi : Oper} {a : Act} {w : World} {Q : Exit → Act → World → Prop} {K : Act → World → Prop} (d : Option Tmp) (hi : ops[i]? = some oi) (hd : oi.dst = d) (hw : Region.wanted oi (yielded ops a.tmps) = true) (v : Value) (w' : World) (hrun : (execOp a.eval oi).run P w = .ok (.value v) w')
    (h : K (a.put d v) w') : wpOp P ops Q i K a w := by
  subst hd
  unfold wpOp
  rw [hi]
  dsimp only
  rw [if_pos hw]
  refine .inl ?_
  unfold Oper.wp
  rw [hrun]
  exact h
theorem exec_buildS {P : Program} {oi : Oper} {a : Act} {w w' : World} (ty : TypeId) (n : Nat) (xs : Array (Nat × Operand)) (ho : oi.op = .buildSlice ty n xs) (vs : Array (Nat × Value)) (hx : xs.toList.map (fun p => (p.1, a.eval p.2)) = vs.toList) (v : Value) (hl : (Instr.buildSlice ty n vs).run P w = .ok v w') : (execOp a.eval oi).run P w = .ok (.value v) w' := by
  obtain rfl : xs.map (fun p => (p.1, a.eval p.2)) = vs := by apply Array.toList_inj.1; simpa using hx
  simp [execOp, ho, hl]
theorem run_bs4 (w : World) : (Instr.buildSlice 33 4 #[(0, .agg #[.int .i64 0, .int .i64 4, .int .i64 5]), (1, .agg #[.int .i64 0, .int .i64 5, .int .i64 6]), (2, .agg #[.int .i64 0, .int .i64 6, .int .i64 7]), (3, .agg #[.int .i64 0, .int .i64 7, .int .i64 8])]).run Tryd.prog w = .ok (.slice (some ⟨w.heap.size, 0, none⟩) 4 4) (w.alloc (.cells #[.int .i64 0, .int .i64 4, .int .i64 5, .int .i64 0, .int .i64 5, .int .i64 6, .int .i64 0, .int .i64 6, .int .i64 7, .int .i64 0, .int .i64 7, .int .i64 8] 23)) := by kernel_rfl
theorem run_bs2 (w : World) : (Instr.buildSlice 33 2 #[(0, .agg #[.int .i64 2, .int .i64 96, .int .i64 192]), (1, .agg #[.int .i64 2, .int .i64 192, .int .i64 288])]).run Tryd.prog w = .ok (.slice (some ⟨w.heap.size, 0, none⟩) 2 2) (w.alloc (.cells #[.int .i64 2, .int .i64 96, .int .i64 192, .int .i64 2, .int .i64 192, .int .i64 288] 23)) := by kernel_rfl
theorem run_bs1 (w : World) : (Instr.buildSlice 33 1 #[(0, .agg #[.int .i64 4, .int .i64 0, .int .i64 35136])]).run Tryd.prog w = .ok (.slice (some ⟨w.heap.size, 0, none⟩) 1 1) (w.alloc (.cells #[.int .i64 4, .int .i64 0, .int .i64 35136] 23)) := by kernel_rfl
theorem bn_same (l f t : Int) (W : World) : (binOp .eql 23 (.agg #[.int .i64 l, .int .i64 f, .int .i64 t]) (.agg #[.int .i64 l, .int .i64 f, .int .i64 t])).run Tryd.prog W = .ok (.bool true) W := by
  rw [bn_eq, decide_eq_true ⟨rfl, rfl, rfl⟩]
theorem same_lit (l : List I3) (A B : Option Addr) (c d : Nat) (w : World) (ha : RdB w A l) (hb : RdB w B l) (hl : l.length ≤ 1000) : Calls Tryd.prog 13 #[.slice A l.length c, .slice B l.length d] w fun e w' => e = .returned (.bool true) ∧ Below w.heap.size w w' := by
  have := same_any A B c d l l w ha hb (by omega)
  rwa [decide_eq_true rfl] at this
theorem wpList_runW {w : World} {ops : Array Oper} {rest : List Oper} {o : Oper} {a : Act} {Q : Exit → Act → World → Prop} (d : Tmp) (hd : o.dst = some d) (hw : Region.wanted o (yielded ops a.tmps) = true) (v : Value) (w' : World) (hrun : (execOp a.eval o).run Tryd.prog w = .ok (.value v) w') (h : wpList Tryd.prog ops Q rest (a.put (some d) v) w') : wpList Tryd.prog ops Q (o :: rest) a w := by
  refine wpList_want hw fun K hK => ?_
  unfold Oper.wp
  rw [hrun]
  have := hK _ _ h
  rw [← hd] at this
  exact this
theorem s_child : wi 0 4 8 = [(0, 4, 5), (0, 5, 6), (0, 6, 7), (0, 7, 8)] := by decide +kernel
theorem s_blocks : wi 2 90 300 = [(2, 96, 192), (2, 192, 288)] := by decide +kernel
theorem s_year : g 4 0 35136 = [(4, 0, 35136)] := by decide +kernel
theorem s_len : (g 4 3 97).length = 25 := by decide +kernel
theorem s_m0 : (g 4 3 97)[0]? = some (0, 3, 4) := by decide +kernel
theorem s_m1 : (g 4 3 97)[1]? = some (1, 4, 8) := by decide +kernel
theorem s_m23 : (g 4 3 97)[23]? = some (1, 92, 96) := by decide +kernel
theorem s_m24 : (g 4 3 97)[24]? = some (0, 96, 97) := by decide +kernel
theorem s_b7 : fV 1 7 = bV 1 4 8 := by unfold fV; rw [show fl 1 7 = 4 from by decide, show nx 1 7 = 8 from by decide]; rfl
theorem s_b3000 : fV 3 3000 = bV 3 2976 5760 := by unfold fV; rw [show fl 3 3000 = 2976 from by decide +kernel, show nx 3 3000 = 5760 from by decide +kernel]; rfl
theorem s_b24 : fV 2 4 = bV 2 0 96 := by unfold fV; rw [show fl 2 4 = 0 from by decide, show nx 2 4 = 96 from by decide]; rfl
theorem s_ok : okB 1 4 8 = true := by decide +kernel
theorem s_no : okB 1 5 9 = false := by decide +kernel
theorem Row.get {W : World} {base : Nat} {v : Value} {l : List Bk} (h : Row W base v l) (hn : l ≠ []) : ∃ b off c, v = .slice (some ⟨b, off, none⟩) l.length c ∧ ∀ k x, l[k]? = some x → W.rangeAt b (off + k * 3) (cI (toI x)) := by
  obtain ⟨A, c, rfl, hc, hr⟩ := h.reads
  have hl : 0 < l.length := List.length_pos_iff.2 hn
  obtain ⟨b, off, rfl, _⟩ := hr.range (k := 0) (by simpa using hl)
  refine ⟨b, off, c, rfl, fun k x hx => ?_⟩
  obtain ⟨b', off', e, h2⟩ := hr.at (k := k) (x := toI x) (by rw [List.getElem?_map, hx]; rfl)
  injection e with e
  injection e with e1 e2
  subst e1 e2
  exact h2
set_option maxRecDepth 1000000 in
set_option maxHeartbeats 4000000 in
theorem sanity_any (w : World) (hL : Lens w) : Calls Tryd.prog 15 #[] w fun e w' => e = .returned (.bool true) ∧ Below w.heap.size w w' := by
  have HN := Lib.hid hL
  have HW := Lib.hid (Below.refl w.heap.size w)
  have F22 := Lib.hid (day_no 2001 2 29 w hL (by unfold dateOk; rw [show mlI 2001 (2 - 1 : Int).toNat = 28 from by decide]; omega))
  have F25 := Lib.hid (dated_any 0 2000 1 1 0 0 0 0 w hL (by decide) (by decide +kernel) (by decide +kernel) (by decide +kernel) (by decide) (by decide) (by decide) (by decide))
  have F27 := Lib.hid (dated_any 59 2000 2 29 59 0 1 28 w hL (by decide) (by decide +kernel) (by decide +kernel) (by decide +kernel) (by decide) (by decide) (by decide) (by decide))
  have F30 := Lib.hid (dated_any 60 2000 3 1 60 0 2 0 w hL (by decide) (by decide +kernel) (by decide +kernel) (by decide +kernel) (by decide) (by decide) (by decide) (by decide))
  have F33 := Lib.hid (dated_any 365 2000 12 31 365 0 11 30 w hL (by decide) (by decide +kernel) (by decide +kernel) (by decide +kernel) (by decide) (by decide) (by decide) (by decide))
  have F36 := Lib.hid (dated_any 1520 2004 2 29 1520 4 1 28 w hL (by decide) (by decide +kernel) (by decide +kernel) (by decide +kernel) (by decide) (by decide) (by decide) (by decide))
  have F39 := Lib.hid (dated_any 14609 2039 12 31 14609 39 11 30 w hL (by decide) (by decide +kernel) (by decide +kernel) (by decide +kernel) (by decide) (by decide) (by decide) (by decide))
  have F48 := Lib.hid (leap_any 2000 w)
  rw [show lpI 2000 = true from by decide] at F48
  have F52 := Lib.hid (leap_any 1900 w)
  rw [show lpI 1900 = false from by decide] at F52
  have F55 := Lib.hid (leap_any 2001 w)
  rw [show lpI 2001 = false from by decide] at F55
  have F58 := Lib.hid (fun W (h : Lens W) => block_yes 1 7 W h (by decide) (by decide))
  rw [s_b7] at F58
  have F62 := Lib.hid (fun W (h : Lens W) => block_yes 3 3000 W h (by decide) (by decide))
  rw [s_b3000] at F62
  have F67 := Lib.hid (fun W (h : Lens W) => parent_raw 1 4 8 0 96 s_ok (by decide) (by decide) (fun X h' => by have := find_any 2 4 X h' (by decide) (by decide); rw [s_b24] at this; exact this) W h)
  rw [show (1 : Int) + 1 = 2 from rfl] at F67
  have F72 := Lib.hid (fun W (h : Lens W) => child_raw 0 4 8 1 4 8 s_ok (by decide) (by decide) (by decide) (by decide) (by decide) (by decide) W h)
  have F76 := Lib.hid (fun W (h : Lens W) => blocks_any 2 90 300 W (by decide) (by decide) (by decide) h)
  have F80 := Lib.hid (fun W (h : Lens W) => Cover_yes 3 97 W (by decide) (by decide) h)
  have F84 := Lib.hid (fun W (h : Lens W) => Cover_yes 0 35136 W (by decide) (by decide) h)
  clear hL
  go_enter Tryd.func15, Tryd.ntmps15
  go_wp2_with fail
  refine F22.out.mono ?_
  rintro e w0 ⟨rfl, h0⟩
  subst h0
  go_wp2_with fail
  refine F25.out.mono ?_
  rintro e w0 ⟨rfl, h0⟩
  subst h0
  go_wp2_with fail
  refine F27.out.mono ?_
  rintro e w0 ⟨rfl, h0⟩
  subst h0
  go_wp2_with fail
  refine F30.out.mono ?_
  rintro e w0 ⟨rfl, h0⟩
  subst h0
  go_wp2_with fail
  refine F33.out.mono ?_
  rintro e w0 ⟨rfl, h0⟩
  subst h0
  go_wp2_with fail
  refine F36.out.mono ?_
  rintro e w0 ⟨rfl, h0⟩
  subst h0
  go_wp2_with fail
  refine F39.out.mono ?_
  rintro e w0 ⟨rfl, h0⟩
  subst h0
  go_wp2_with fail
  refine F48.out.mono ?_
  rintro e w0 ⟨rfl, h0⟩
  subst h0
  go_wp2_with fail
  refine F52.out.mono ?_
  rintro e w0 ⟨rfl, h0⟩
  subst h0
  go_wp2_with fail
  refine F55.out.mono ?_
  rintro e w0 ⟨rfl, h0⟩
  subst h0
  go_wp2_with fail
  clear F22 F25 F27 F30 F33 F36 F39 F48 F52 F55
  refine (F58.out _ HN.out).mono ?_
  rintro e w1 ⟨rfl, hb⟩
  replace HN := Lib.hid (HN.out.next hb)
  replace HW := Lib.hid (HW.out.trans (hb.mono HW.out.size))
  clear hb
  go_wp2_with (first | (refine wpList_var rfl rfl 23 4 rfl rfl rfl (.tmp 59) rfl bZ (b3 1 4 8) bn_zero rfl rfl rfl bn_size (b_one _ _ _) ?_; intro w2 HX4 HB2; replace HN := Lib.hid (HN.out.next HB2.out); replace HW := Lib.hid (HW.out.trans (HB2.out.mono HW.out.size)); clear HB2))
  refine (F62.out _ HN.out).mono ?_
  rintro e w3 ⟨rfl, hb⟩
  replace HN := Lib.hid (HN.out.next hb)
  replace HW := Lib.hid (HW.out.trans (hb.mono HW.out.size))
  replace HX4 := Lib.hid (HX4.out.next hb)
  clear hb
  go_wp2_with (first | (refine wpList_var rfl rfl 23 6 rfl rfl rfl (.tmp 63) rfl bZ (b3 3 2976 5760) bn_zero rfl rfl rfl bn_size (b_one _ _ _) ?_; intro w4 HX6 HB4; replace HN := Lib.hid (HN.out.next HB4.out); replace HW := Lib.hid (HW.out.trans (HB4.out.mono HW.out.size)); replace HX4 := Lib.hid (HX4.out.next HB4.out); clear HB4) | (refine wpList_dst 66 rfl ?_; refine wpList_run 66 rfl rfl _ (exec_load 23 (.tmp 4) rfl _ _ rfl (run_load_part _ 23 _ 0 3 23 (b3 1 4 8) _ HX4.out (by simp) Tryd.underlying23 rfl bn_size)) ?_))
  refine (F67.out _ HN.out).mono ?_
  rintro e w5 ⟨rfl, hb⟩
  replace HN := Lib.hid (HN.out.next hb)
  replace HW := Lib.hid (HW.out.trans (hb.mono HW.out.size))
  replace HX4 := Lib.hid (HX4.out.next hb)
  replace HX6 := Lib.hid (HX6.out.next hb)
  clear hb
  go_wp2_with (first | (refine wpList_var rfl rfl 23 8 rfl rfl rfl (.tmp 68) rfl bZ (b3 2 0 96) bn_zero rfl rfl rfl bn_size (b_one _ _ _) ?_; intro w6 HX8 HB6; replace HN := Lib.hid (HN.out.next HB6.out); replace HW := Lib.hid (HW.out.trans (HB6.out.mono HW.out.size)); replace HX4 := Lib.hid (HX4.out.next HB6.out); replace HX6 := Lib.hid (HX6.out.next HB6.out); clear HB6) | (refine wpList_dst 71 rfl ?_; refine wpList_run 71 rfl rfl _ (exec_load 23 (.tmp 4) rfl _ _ rfl (run_load_part _ 23 _ 0 3 23 (b3 1 4 8) _ HX4.out (by simp) Tryd.underlying23 rfl bn_size)) ?_))
  refine (F72.out _ HN.out).mono ?_
  rintro e w7 ⟨⟨v7, rfl, hr⟩, hb⟩
  replace HN := Lib.hid (HN.out.next hb)
  replace HW := Lib.hid (HW.out.trans (hb.mono HW.out.size))
  replace HX4 := Lib.hid (HX4.out.next hb)
  replace HX6 := Lib.hid (HX6.out.next hb)
  replace HX8 := Lib.hid (HX8.out.next hb)
  rw [s_child] at hr
  obtain ⟨A7, c7, e7, _, hd⟩ := hr.reads
  rw [show ([(0, 4, 5), (0, 5, 6), (0, 6, 7), (0, 7, 8)] : List Bk).length = 4 from rfl] at e7
  subst e7
  have HD := Lib.hid hd
  clear hr hd
  clear hb
  go_wp2_with fail
  refine (F76.out _ HN.out).mono ?_
  rintro e w8 ⟨⟨v8, k8, rfl, hor⟩, hb⟩
  replace HN := Lib.hid (HN.out.next hb)
  replace HW := Lib.hid (HW.out.trans (hb.mono HW.out.size))
  replace HX4 := Lib.hid (HX4.out.next hb)
  replace HX6 := Lib.hid (HX6.out.next hb)
  replace HX8 := Lib.hid (HX8.out.next hb)
  replace HD := Lib.hid (HD.out.below hb)
  rw [s_blocks] at hor
  rcases hor with ⟨_, rfl, hr⟩ | ⟨h, _⟩
  case inr => exact absurd h (by decide)
  obtain ⟨A8, c8, e8, _, hd⟩ := hr.reads
  rw [show ([(2, 96, 192), (2, 192, 288)] : List Bk).length = 2 from rfl] at e8
  subst e8
  have HL := Lib.hid hd
  clear hr hd
  clear hb
  go_wp2_with fail
  refine (F80.out _ HN.out).mono ?_
  rintro e w9 ⟨⟨v9, rfl, hr⟩, hb⟩
  replace HN := Lib.hid (HN.out.next hb)
  replace HW := Lib.hid (HW.out.trans (hb.mono HW.out.size))
  replace HX4 := Lib.hid (HX4.out.next hb)
  replace HX6 := Lib.hid (HX6.out.next hb)
  replace HX8 := Lib.hid (HX8.out.next hb)
  replace HD := Lib.hid (HD.out.below hb)
  replace HL := Lib.hid (HL.out.below hb)
  obtain ⟨b9, o9, c9, e9, hget⟩ := hr.get (by intro e; have := s_len; rw [e] at this; cases this)
  rw [s_len] at e9
  subst e9
  have HR0 : Hid (World.rangeAt w9 b9 (o9 + 0 * 3) (b3 0 3 4)) := Lib.hid (hget 0 (0, 3, 4) s_m0)
  have HR1 : Hid (World.rangeAt w9 b9 (o9 + 1 * 3) (b3 1 4 8)) := Lib.hid (hget 1 (1, 4, 8) s_m1)
  have HR23 : Hid (World.rangeAt w9 b9 (o9 + 23 * 3) (b3 1 92 96)) := Lib.hid (hget 23 (1, 92, 96) s_m23)
  have HR24 : Hid (World.rangeAt w9 b9 (o9 + 24 * 3) (b3 0 96 97)) := Lib.hid (hget 24 (0, 96, 97) s_m24)
  clear hr hget
  clear hb
  go_wp2_with fail
  refine (F84.out _ HN.out).mono ?_
  rintro e w10 ⟨⟨va, rfl, hr⟩, hb⟩
  replace HN := Lib.hid (HN.out.next hb)
  replace HW := Lib.hid (HW.out.trans (hb.mono HW.out.size))
  replace HX4 := Lib.hid (HX4.out.next hb)
  replace HX6 := Lib.hid (HX6.out.next hb)
  replace HX8 := Lib.hid (HX8.out.next hb)
  replace HD := Lib.hid (HD.out.below hb)
  replace HL := Lib.hid (HL.out.below hb)
  replace HR0 := Lib.hid (range_below' HR0.out hb)
  replace HR1 := Lib.hid (range_below' HR1.out hb)
  replace HR23 := Lib.hid (range_below' HR23.out hb)
  replace HR24 := Lib.hid (range_below' HR24.out hb)
  rw [s_year] at hr
  obtain ⟨Aa, ca, ea, _, hd⟩ := hr.reads
  rw [show ([(4, 0, 35136)] : List Bk).length = 1 from rfl] at ea
  subst ea
  have HY := Lib.hid hd
  clear hr hd
  clear hb
  go_wp2_with fail
  refine late_begin (S := fun _ W => Blk W w1.heap.size 23 (b3 1 4 8) ∧ Blk W w3.heap.size 23 (b3 3 2976 5760) ∧ Blk W w5.heap.size 23 (b3 2 0 96)) (by kernel_rfl) ?_
  have hN0 := (show Lens w10.drew from HN.out)
  have hW0 := HW.out.drew
  have hX40 := HX4.out.drew
  have hX60 := HX6.out.drew
  have hX80 := HX8.out.drew
  have hD0 := HD.out.below (Below.refl _ _).drew
  have hL0 := HL.out.below (Below.refl _ _).drew
  have hR00 := range_below' HR0.out (Below.refl _ _).drew
  have hR10 := range_below' HR1.out (Below.refl _ _).drew
  have hR230 := range_below' HR23.out (Below.refl _ _).drew
  have hR240 := range_below' HR24.out (Below.refl _ _).drew
  have hY0 := HY.out.below (Below.refl _ _).drew
  generalize w10.drew = u0 at hN0 hW0 hX40 hX60 hX80 hD0 hL0 hR00 hR10 hR230 hR240 hY0 ⊢
  clear HN HW HX4 HX6 HX8 HD HL HR0 HR1 HR23 HR24 HY
  refine late_take [] (i := 0) (some 113) rfl rfl (by first | rfl | kernel_rfl) (by kernel_rfl) (by kernel_rfl) (by kernel_rfl) (by kernel_rfl) (by kernel_rfl) (fun Ls W h => h) (.agg #[.int .i64 1, .int .i64 4, .int .i64 8]) (fun _ _ _ h => h) (fun Ls W hl0 hW => exec_load 23 (.tmp 4) rfl _ _ rfl (run_load_part W 23 _ 0 3 23 (b3 1 4 8) _ hW.1 (by simp) Tryd.underlying23 rfl bn_size)) ⟨hX40, hX60, hX80⟩ ⟨hX40, hX60, hX80⟩ ?_
  go_frame
  refine late_one (i := 1) (by kernel_rfl) (op_callG (some 114) rfl rfl (by first | rfl | kernel_rfl) rfl Tryd.func30 (by kernel_rfl) (by kernel_rfl) #[.int .i64 1, .int .i64 4, .int .i64 8] rfl (lbin_any _ _ _ _) ?_)
  rintro e u1 ⟨rfl, hb⟩
  have hN1 := hN0.next hb
  have hW1 := hW0.trans (hb.mono hW0.size)
  have hX41 := hX40.next hb
  have hX61 := hX60.next hb
  have hX81 := hX80.next hb
  have hD1 := hD0.below hb
  have hL1 := hL0.below hb
  have hR01 := range_below' hR00 hb
  have hR11 := range_below' hR10 hb
  have hR231 := range_below' hR230 hb
  have hR241 := range_below' hR240 hb
  have hY1 := hY0.below hb
  refine ⟨_, rfl, ⟨hX41, hX61, hX81⟩, ?_⟩
  go_frame
  clear hN0 hW0 hX40 hX60 hX80 hD0 hL0 hR00 hR10 hR230 hR240 hY0 hb
  refine late_one (i := 2) (by kernel_rfl) (op_valueG (some 115) rfl rfl (by first | rfl | kernel_rfl) (.bool true) (exec_bin .eql 23 _ (.tmp 113) (.tmp 114) rfl _ _ _ rfl rfl (bn_guard _ _ _ _ _ _) (bn_same 1 4 8 _)) ⟨⟨hX41, hX61, hX81⟩, ?_⟩)
  go_frame
  refine late_one (i := 3) (by kernel_rfl) (op_valueG (some 116) rfl rfl (by first | rfl | kernel_rfl) (.bool true) (exec_move (.tmp 115) rfl _ rfl) ⟨⟨hX41, hX61, hX81⟩, ?_⟩)
  go_frame
  refine late_take [] (i := 4) (some 117) rfl rfl (by first | rfl | kernel_rfl) (by kernel_rfl) (by kernel_rfl) (by kernel_rfl) (by kernel_rfl) (by kernel_rfl) (fun Ls W h => h) (.agg #[.int .i64 3, .int .i64 2976, .int .i64 5760]) (fun _ _ _ h => h) (fun Ls W hl0 hW => exec_load 23 (.tmp 6) rfl _ _ rfl (run_load_part W 23 _ 0 3 23 (b3 3 2976 5760) _ hW.2.1 (by simp) Tryd.underlying23 rfl bn_size)) ⟨hX41, hX61, hX81⟩ ⟨hX41, hX61, hX81⟩ ?_
  go_frame
  refine late_one (i := 5) (by kernel_rfl) (op_callG (some 118) rfl rfl (by first | rfl | kernel_rfl) rfl Tryd.func30 (by kernel_rfl) (by kernel_rfl) #[.int .i64 3, .int .i64 2976, .int .i64 5760] rfl (lbin_any _ _ _ _) ?_)
  rintro e u2 ⟨rfl, hb⟩
  have hN2 := hN1.next hb
  have hW2 := hW1.trans (hb.mono hW1.size)
  have hX42 := hX41.next hb
  have hX62 := hX61.next hb
  have hX82 := hX81.next hb
  have hD2 := hD1.below hb
  have hL2 := hL1.below hb
  have hR02 := range_below' hR01 hb
  have hR12 := range_below' hR11 hb
  have hR232 := range_below' hR231 hb
  have hR242 := range_below' hR241 hb
  have hY2 := hY1.below hb
  refine ⟨_, rfl, ⟨hX42, hX62, hX82⟩, ?_⟩
  go_frame
  clear hN1 hW1 hX41 hX61 hX81 hD1 hL1 hR01 hR11 hR231 hR241 hY1 hb
  refine late_one (i := 6) (by kernel_rfl) (op_valueG (some 119) rfl rfl (by first | rfl | kernel_rfl) (.bool true) (exec_bin .eql 23 _ (.tmp 117) (.tmp 118) rfl _ _ _ rfl rfl (bn_guard _ _ _ _ _ _) (bn_same 3 2976 5760 _)) ⟨⟨hX42, hX62, hX82⟩, ?_⟩)
  go_frame
  refine late_one (i := 7) (by kernel_rfl) (op_valueG (some 120) rfl rfl (by first | rfl | kernel_rfl) (.bool true) (exec_pickT _ _ _ rfl (.bool true) rfl rfl) ⟨⟨hX42, hX62, hX82⟩, ?_⟩)
  go_frame
  refine late_one (i := 8) (by kernel_rfl) (op_valueG (some 121) rfl rfl (by first | rfl | kernel_rfl) (.bool true) (exec_move (.tmp 120) rfl _ rfl) ⟨⟨hX42, hX62, hX82⟩, ?_⟩)
  go_frame
  refine late_take [] (i := 9) (some 122) rfl rfl (by first | rfl | kernel_rfl) (by kernel_rfl) (by kernel_rfl) (by kernel_rfl) (by kernel_rfl) (by kernel_rfl) (fun Ls W h => h) (.agg #[.int .i64 2, .int .i64 0, .int .i64 96]) (fun _ _ _ h => h) (fun Ls W hl0 hW => exec_load 23 (.tmp 8) rfl _ _ rfl (run_load_part W 23 _ 0 3 23 (b3 2 0 96) _ hW.2.2 (by simp) Tryd.underlying23 rfl bn_size)) ⟨hX42, hX62, hX82⟩ ⟨hX42, hX62, hX82⟩ ?_
  go_frame
  refine late_one (i := 10) (by kernel_rfl) (op_callG (some 123) rfl rfl (by first | rfl | kernel_rfl) rfl Tryd.func30 (by kernel_rfl) (by kernel_rfl) #[.int .i64 2, .int .i64 0, .int .i64 96] rfl (lbin_any _ _ _ _) ?_)
  rintro e u3 ⟨rfl, hb⟩
  have hN3 := hN2.next hb
  have hW3 := hW2.trans (hb.mono hW2.size)
  have hX43 := hX42.next hb
  have hX63 := hX62.next hb
  have hX83 := hX82.next hb
  have hD3 := hD2.below hb
  have hL3 := hL2.below hb
  have hR03 := range_below' hR02 hb
  have hR13 := range_below' hR12 hb
  have hR233 := range_below' hR232 hb
  have hR243 := range_below' hR242 hb
  have hY3 := hY2.below hb
  refine ⟨_, rfl, ⟨hX43, hX63, hX83⟩, ?_⟩
  go_frame
  clear hN2 hW2 hX42 hX62 hX82 hD2 hL2 hR02 hR12 hR232 hR242 hY2 hb
  refine late_one (i := 11) (by kernel_rfl) (op_valueG (some 124) rfl rfl (by first | rfl | kernel_rfl) (.bool true) (exec_bin .eql 23 _ (.tmp 122) (.tmp 123) rfl _ _ _ rfl rfl (bn_guard _ _ _ _ _ _) (bn_same 2 0 96 _)) ⟨⟨hX43, hX63, hX83⟩, ?_⟩)
  go_frame
  refine late_one (i := 12) (by kernel_rfl) (op_valueG (some 125) rfl rfl (by first | rfl | kernel_rfl) (.bool true) (exec_pickT _ _ _ rfl (.bool true) rfl rfl) ⟨⟨hX43, hX63, hX83⟩, ?_⟩)
  go_frame
  refine late_one (i := 13) (by kernel_rfl) (op_valueG (some 126) rfl rfl (by first | rfl | kernel_rfl) (.bool true) (exec_move (.tmp 125) rfl _ rfl) ⟨⟨hX43, hX63, hX83⟩, ?_⟩)
  go_frame
  refine late_take [] (i := 14) (some 127) rfl rfl (by first | rfl | kernel_rfl) (by kernel_rfl) (by kernel_rfl) (by kernel_rfl) (by kernel_rfl) (by kernel_rfl) (fun Ls W h => h) (.slice A7 4 c7) (fun _ _ _ h => h) (fun Ls W hl0 hW => exec_move (.tmp 10) rfl _ rfl) ⟨hX43, hX63, hX83⟩ ⟨hX43, hX63, hX83⟩ ?_
  go_frame
  refine late_one (i := 15) (by kernel_rfl) (op_callG (some 128) rfl rfl (by first | rfl | kernel_rfl) rfl Tryd.func30 (by kernel_rfl) (by kernel_rfl) #[.int .i64 0, .int .i64 4, .int .i64 5] rfl (lbin_any _ _ _ _) ?_)
  rintro e u4 ⟨rfl, hb⟩
  have hN4 := hN3.next hb
  have hW4 := hW3.trans (hb.mono hW3.size)
  have hX44 := hX43.next hb
  have hX64 := hX63.next hb
  have hX84 := hX83.next hb
  have hD4 := hD3.below hb
  have hL4 := hL3.below hb
  have hR04 := range_below' hR03 hb
  have hR14 := range_below' hR13 hb
  have hR234 := range_below' hR233 hb
  have hR244 := range_below' hR243 hb
  have hY4 := hY3.below hb
  refine ⟨_, rfl, ⟨hX44, hX64, hX84⟩, ?_⟩
  go_frame
  clear hN3 hW3 hX43 hX63 hX83 hD3 hL3 hR03 hR13 hR233 hR243 hY3 hb
  refine late_one (i := 16) (by kernel_rfl) (op_callG (some 129) rfl rfl (by first | rfl | kernel_rfl) rfl Tryd.func30 (by kernel_rfl) (by kernel_rfl) #[.int .i64 0, .int .i64 5, .int .i64 6] rfl (lbin_any _ _ _ _) ?_)
  rintro e u5 ⟨rfl, hb⟩
  have hN5 := hN4.next hb
  have hW5 := hW4.trans (hb.mono hW4.size)
  have hX45 := hX44.next hb
  have hX65 := hX64.next hb
  have hX85 := hX84.next hb
  have hD5 := hD4.below hb
  have hL5 := hL4.below hb
  have hR05 := range_below' hR04 hb
  have hR15 := range_below' hR14 hb
  have hR235 := range_below' hR234 hb
  have hR245 := range_below' hR244 hb
  have hY5 := hY4.below hb
  refine ⟨_, rfl, ⟨hX45, hX65, hX85⟩, ?_⟩
  go_frame
  clear hN4 hW4 hX44 hX64 hX84 hD4 hL4 hR04 hR14 hR234 hR244 hY4 hb
  refine late_one (i := 17) (by kernel_rfl) (op_callG (some 130) rfl rfl (by first | rfl | kernel_rfl) rfl Tryd.func30 (by kernel_rfl) (by kernel_rfl) #[.int .i64 0, .int .i64 6, .int .i64 7] rfl (lbin_any _ _ _ _) ?_)
  rintro e u6 ⟨rfl, hb⟩
  have hN6 := hN5.next hb
  have hW6 := hW5.trans (hb.mono hW5.size)
  have hX46 := hX45.next hb
  have hX66 := hX65.next hb
  have hX86 := hX85.next hb
  have hD6 := hD5.below hb
  have hL6 := hL5.below hb
  have hR06 := range_below' hR05 hb
  have hR16 := range_below' hR15 hb
  have hR236 := range_below' hR235 hb
  have hR246 := range_below' hR245 hb
  have hY6 := hY5.below hb
  refine ⟨_, rfl, ⟨hX46, hX66, hX86⟩, ?_⟩
  go_frame
  clear hN5 hW5 hX45 hX65 hX85 hD5 hL5 hR05 hR15 hR235 hR245 hY5 hb
  refine late_one (i := 18) (by kernel_rfl) (op_callG (some 131) rfl rfl (by first | rfl | kernel_rfl) rfl Tryd.func30 (by kernel_rfl) (by kernel_rfl) #[.int .i64 0, .int .i64 7, .int .i64 8] rfl (lbin_any _ _ _ _) ?_)
  rintro e u7 ⟨rfl, hb⟩
  have hN7 := hN6.next hb
  have hW7 := hW6.trans (hb.mono hW6.size)
  have hX47 := hX46.next hb
  have hX67 := hX66.next hb
  have hX87 := hX86.next hb
  have hD7 := hD6.below hb
  have hL7 := hL6.below hb
  have hR07 := range_below' hR06 hb
  have hR17 := range_below' hR16 hb
  have hR237 := range_below' hR236 hb
  have hR247 := range_below' hR246 hb
  have hY7 := hY6.below hb
  refine ⟨_, rfl, ⟨hX47, hX67, hX87⟩, ?_⟩
  go_frame
  clear hN6 hW6 hX46 hX66 hX86 hD6 hL6 hR06 hR16 hR236 hR246 hY6 hb
  refine late_one (i := 19) (by kernel_rfl) (op_runG (some 132) rfl rfl (by first | rfl | kernel_rfl) (.slice (some ⟨u7.heap.size, 0, none⟩) 4 4) (u7.alloc (.cells #[.int .i64 0, .int .i64 4, .int .i64 5, .int .i64 0, .int .i64 5, .int .i64 6, .int .i64 0, .int .i64 6, .int .i64 7, .int .i64 0, .int .i64 7, .int .i64 8] 23)) (exec_buildS 33 4 _ rfl (#[(0, .agg #[.int .i64 0, .int .i64 4, .int .i64 5]), (1, .agg #[.int .i64 0, .int .i64 5, .int .i64 6]), (2, .agg #[.int .i64 0, .int .i64 6, .int .i64 7]), (3, .agg #[.int .i64 0, .int .i64 7, .int .i64 8])]) rfl _ (run_bs4 _)) ?_)
  have hb : Below u7.heap.size u7 (u7.alloc (.cells #[.int .i64 0, .int .i64 4, .int .i64 5, .int .i64 0, .int .i64 5, .int .i64 6, .int .i64 0, .int .i64 6, .int .i64 7, .int .i64 0, .int .i64 7, .int .i64 8] 23)) := (Below.refl _ _).alloc (Nat.le_refl _) _
  have hN8 := hN7.next hb
  have hW8 := hW7.trans (hb.mono hW7.size)
  have hX48 := hX47.next hb
  have hX68 := hX67.next hb
  have hX88 := hX87.next hb
  have hD8 := hD7.below hb
  have hL8 := hL7.below hb
  have hR08 := range_below' hR07 hb
  have hR18 := range_below' hR17 hb
  have hR238 := range_below' hR237 hb
  have hR248 := range_below' hR247 hb
  have hY8 := hY7.below hb
  have hB8 : RdB (u7.alloc (.cells #[.int .i64 0, .int .i64 4, .int .i64 5, .int .i64 0, .int .i64 5, .int .i64 6, .int .i64 0, .int .i64 6, .int .i64 7, .int .i64 0, .int .i64 7, .int .i64 8] 23)) (some ⟨u7.heap.size, 0, none⟩) ([(0, 4, 5), (0, 5, 6), (0, 6, 7), (0, 7, 8)].map toI) := Rd.of_new u7 (bI ([(0, 4, 5), (0, 5, 6), (0, 6, 7), (0, 7, 8)].map toI)) 23
  refine ⟨⟨hX48, hX68, hX88⟩, ?_⟩
  go_frame
  clear hN7 hW7 hX47 hX67 hX87 hD7 hL7 hR07 hR17 hR237 hR247 hY7 hb
  generalize u7.alloc (.cells #[.int .i64 0, .int .i64 4, .int .i64 5, .int .i64 0, .int .i64 5, .int .i64 6, .int .i64 0, .int .i64 6, .int .i64 7, .int .i64 0, .int .i64 7, .int .i64 8] 23) = u8 at hN8 hW8 hX48 hX68 hX88 hD8 hL8 hR08 hR18 hR238 hR248 hY8 hB8 ⊢
  refine late_one (i := 20) (by kernel_rfl) (op_callG (some 133) rfl rfl (by first | rfl | kernel_rfl) rfl Tryd.func13 (by kernel_rfl) (by kernel_rfl) #[.slice A7 4 c7, .slice (some ⟨u7.heap.size, 0, none⟩) 4 4] rfl (same_lit ([(0, 4, 5), (0, 5, 6), (0, 6, 7), (0, 7, 8)].map toI) _ _ _ _ _ hD8 hB8 (by decide)) ?_)
  rintro e u9 ⟨rfl, hb⟩
  have hN9 := hN8.next hb
  have hW9 := hW8.trans (hb.mono hW8.size)
  have hX49 := hX48.next hb
  have hX69 := hX68.next hb
  have hX89 := hX88.next hb
  have hD9 := hD8.below hb
  have hL9 := hL8.below hb
  have hR09 := range_below' hR08 hb
  have hR19 := range_below' hR18 hb
  have hR239 := range_below' hR238 hb
  have hR249 := range_below' hR248 hb
  have hY9 := hY8.below hb
  refine ⟨_, rfl, ⟨hX49, hX69, hX89⟩, ?_⟩
  go_frame
  clear hN8 hW8 hX48 hX68 hX88 hD8 hL8 hR08 hR18 hR238 hR248 hY8 hb
  refine late_one (i := 21) (by kernel_rfl) (op_valueG (some 134) rfl rfl (by first | rfl | kernel_rfl) (.bool true) (exec_pickT _ _ _ rfl (.bool true) rfl rfl) ⟨⟨hX49, hX69, hX89⟩, ?_⟩)
  go_frame
  refine late_one (i := 22) (by kernel_rfl) (op_valueG (some 19) rfl rfl (by first | rfl | kernel_rfl) (.bool true) (exec_assign (.tmp 134) rfl _ rfl) ⟨⟨hX49, hX69, hX89⟩, late_done (by kernel_rfl) ?_ _⟩)
  go_frame
  have HN := Lib.hid hN9
  have HW := Lib.hid hW9
  have HX4 := Lib.hid hX49
  have HX6 := Lib.hid hX69
  have HX8 := Lib.hid hX89
  have HD := Lib.hid hD9
  have HL := Lib.hid hL9
  have HR0 := Lib.hid hR09
  have HR1 := Lib.hid hR19
  have HR23 := Lib.hid hR239
  have HR24 := Lib.hid hR249
  have HY := Lib.hid hY9
  clear hN9 hW9 hX49 hX69 hX89 hD9 hL9 hR09 hR19 hR239 hR249 hY9
  go_wp2_with fail
  refine (lbin_any 2 96 192 _).mono ?_
  rintro e p1 ⟨rfl, hb⟩
  replace HN := Lib.hid (HN.out.next hb)
  replace HW := Lib.hid (HW.out.trans (hb.mono HW.out.size))
  replace HX4 := Lib.hid (HX4.out.next hb)
  replace HX6 := Lib.hid (HX6.out.next hb)
  replace HX8 := Lib.hid (HX8.out.next hb)
  replace HD := Lib.hid (HD.out.below hb)
  replace HL := Lib.hid (HL.out.below hb)
  replace HR0 := Lib.hid (range_below' HR0.out hb)
  replace HR1 := Lib.hid (range_below' HR1.out hb)
  replace HR23 := Lib.hid (range_below' HR23.out hb)
  replace HR24 := Lib.hid (range_below' HR24.out hb)
  replace HY := Lib.hid (HY.out.below hb)
  clear hb
  go_wp2_with fail
  refine (lbin_any 2 192 288 _).mono ?_
  rintro e p2 ⟨rfl, hb⟩
  replace HN := Lib.hid (HN.out.next hb)
  replace HW := Lib.hid (HW.out.trans (hb.mono HW.out.size))
  replace HX4 := Lib.hid (HX4.out.next hb)
  replace HX6 := Lib.hid (HX6.out.next hb)
  replace HX8 := Lib.hid (HX8.out.next hb)
  replace HD := Lib.hid (HD.out.below hb)
  replace HL := Lib.hid (HL.out.below hb)
  replace HR0 := Lib.hid (range_below' HR0.out hb)
  replace HR1 := Lib.hid (range_below' HR1.out hb)
  replace HR23 := Lib.hid (range_below' HR23.out hb)
  replace HR24 := Lib.hid (range_below' HR24.out hb)
  replace HY := Lib.hid (HY.out.below hb)
  clear hb
  go_wp2_with (refine wpList_dst 138 rfl ?_; refine wpList_runW 138 rfl (by first | rfl | kernel_rfl) _ _ (exec_buildS 33 2 _ rfl (#[(0, .agg #[.int .i64 2, .int .i64 96, .int .i64 192]), (1, .agg #[.int .i64 2, .int .i64 192, .int .i64 288])]) rfl _ (run_bs2 _)) ?_)
  have hb : Below p2.heap.size p2 (p2.alloc (.cells #[.int .i64 2, .int .i64 96, .int .i64 192, .int .i64 2, .int .i64 192, .int .i64 288] 23)) := (Below.refl _ _).alloc (Nat.le_refl _) _
  replace HN := Lib.hid (HN.out.next hb)
  replace HW := Lib.hid (HW.out.trans (hb.mono HW.out.size))
  replace HX4 := Lib.hid (HX4.out.next hb)
  replace HX6 := Lib.hid (HX6.out.next hb)
  replace HX8 := Lib.hid (HX8.out.next hb)
  replace HD := Lib.hid (HD.out.below hb)
  replace HL := Lib.hid (HL.out.below hb)
  replace HR0 := Lib.hid (range_below' HR0.out hb)
  replace HR1 := Lib.hid (range_below' HR1.out hb)
  replace HR23 := Lib.hid (range_below' HR23.out hb)
  replace HR24 := Lib.hid (range_below' HR24.out hb)
  replace HY := Lib.hid (HY.out.below hb)
  have HZ2 : Hid (RdB (p2.alloc (.cells #[.int .i64 2, .int .i64 96, .int .i64 192, .int .i64 2, .int .i64 192, .int .i64 288] 23)) (some ⟨p2.heap.size, 0, none⟩) ([(2, 96, 192), (2, 192, 288)].map toI)) := Lib.hid (Rd.of_new p2 (bI ([(2, 96, 192), (2, 192, 288)].map toI)) 23)
  clear hb
  generalize p2.alloc (.cells #[.int .i64 2, .int .i64 96, .int .i64 192, .int .i64 2, .int .i64 192, .int .i64 288] 23) = p3 at HN HW HX4 HX6 HX8 HD HL HR0 HR1 HR23 HR24 HY HZ2 ⊢
  refine (same_lit ([(2, 96, 192), (2, 192, 288)].map toI) _ _ _ _ _ HL.out HZ2.out (by decide)).mono ?_
  rintro e p4 ⟨rfl, hb⟩
  replace HN := Lib.hid (HN.out.next hb)
  replace HW := Lib.hid (HW.out.trans (hb.mono HW.out.size))
  replace HX4 := Lib.hid (HX4.out.next hb)
  replace HX6 := Lib.hid (HX6.out.next hb)
  replace HX8 := Lib.hid (HX8.out.next hb)
  replace HD := Lib.hid (HD.out.below hb)
  replace HL := Lib.hid (HL.out.below hb)
  replace HR0 := Lib.hid (range_below' HR0.out hb)
  replace HR1 := Lib.hid (range_below' HR1.out hb)
  replace HR23 := Lib.hid (range_below' HR23.out hb)
  replace HR24 := Lib.hid (range_below' HR24.out hb)
  replace HY := Lib.hid (HY.out.below hb)
  clear hb
  go_wp2_with fail
  refine (lbin_any 4 0 35136 _).mono ?_
  rintro e p5 ⟨rfl, hb⟩
  replace HN := Lib.hid (HN.out.next hb)
  replace HW := Lib.hid (HW.out.trans (hb.mono HW.out.size))
  replace HX4 := Lib.hid (HX4.out.next hb)
  replace HX6 := Lib.hid (HX6.out.next hb)
  replace HX8 := Lib.hid (HX8.out.next hb)
  replace HD := Lib.hid (HD.out.below hb)
  replace HL := Lib.hid (HL.out.below hb)
  replace HR0 := Lib.hid (range_below' HR0.out hb)
  replace HR1 := Lib.hid (range_below' HR1.out hb)
  replace HR23 := Lib.hid (range_below' HR23.out hb)
  replace HR24 := Lib.hid (range_below' HR24.out hb)
  replace HY := Lib.hid (HY.out.below hb)
  clear hb
  go_wp2_with (refine wpList_dst 148 rfl ?_; refine wpList_runW 148 rfl (by first | rfl | kernel_rfl) _ _ (exec_buildS 33 1 _ rfl (#[(0, .agg #[.int .i64 4, .int .i64 0, .int .i64 35136])]) rfl _ (run_bs1 _)) ?_)
  have hb : Below p5.heap.size p5 (p5.alloc (.cells #[.int .i64 4, .int .i64 0, .int .i64 35136] 23)) := (Below.refl _ _).alloc (Nat.le_refl _) _
  replace HN := Lib.hid (HN.out.next hb)
  replace HW := Lib.hid (HW.out.trans (hb.mono HW.out.size))
  replace HX4 := Lib.hid (HX4.out.next hb)
  replace HX6 := Lib.hid (HX6.out.next hb)
  replace HX8 := Lib.hid (HX8.out.next hb)
  replace HD := Lib.hid (HD.out.below hb)
  replace HL := Lib.hid (HL.out.below hb)
  replace HR0 := Lib.hid (range_below' HR0.out hb)
  replace HR1 := Lib.hid (range_below' HR1.out hb)
  replace HR23 := Lib.hid (range_below' HR23.out hb)
  replace HR24 := Lib.hid (range_below' HR24.out hb)
  replace HY := Lib.hid (HY.out.below hb)
  have HZ1 : Hid (RdB (p5.alloc (.cells #[.int .i64 4, .int .i64 0, .int .i64 35136] 23)) (some ⟨p5.heap.size, 0, none⟩) ([(4, 0, 35136)].map toI)) := Lib.hid (Rd.of_new p5 (bI ([(4, 0, 35136)].map toI)) 23)
  clear hb
  generalize p5.alloc (.cells #[.int .i64 4, .int .i64 0, .int .i64 35136] 23) = p6 at HN HW HX4 HX6 HX8 HD HL HR0 HR1 HR23 HR24 HY HZ1 ⊢
  refine (same_lit ([(4, 0, 35136)].map toI) _ _ _ _ _ HY.out HZ1.out (by decide)).mono ?_
  rintro e p7 ⟨rfl, hb⟩
  replace HN := Lib.hid (HN.out.next hb)
  replace HW := Lib.hid (HW.out.trans (hb.mono HW.out.size))
  replace HX4 := Lib.hid (HX4.out.next hb)
  replace HX6 := Lib.hid (HX6.out.next hb)
  replace HX8 := Lib.hid (HX8.out.next hb)
  replace HD := Lib.hid (HD.out.below hb)
  replace HL := Lib.hid (HL.out.below hb)
  replace HR0 := Lib.hid (range_below' HR0.out hb)
  replace HR1 := Lib.hid (range_below' HR1.out hb)
  replace HR23 := Lib.hid (range_below' HR23.out hb)
  replace HR24 := Lib.hid (range_below' HR24.out hb)
  replace HY := Lib.hid (HY.out.below hb)
  clear hb
  go_wp2_with (first | (refine wpList_dst 152 rfl ?_; refine wpList_runG 152 rfl (by first | rfl | kernel_rfl) _ (exec_load 23 (.tmp 4) rfl _ _ rfl (run_load_part _ 23 _ 0 3 23 (b3 1 4 8) _ HX4.out (by simp) Tryd.underlying23 rfl bn_size)) ?_))
  have hv := valid_any 1 4 8 _ HN.out
  rw [s_ok] at hv
  refine (hv).mono ?_
  rintro e p8 ⟨rfl, hb⟩
  replace HN := Lib.hid (HN.out.next hb)
  replace HW := Lib.hid (HW.out.trans (hb.mono HW.out.size))
  replace HX4 := Lib.hid (HX4.out.next hb)
  replace HX6 := Lib.hid (HX6.out.next hb)
  replace HX8 := Lib.hid (HX8.out.next hb)
  replace HD := Lib.hid (HD.out.below hb)
  replace HL := Lib.hid (HL.out.below hb)
  replace HR0 := Lib.hid (range_below' HR0.out hb)
  replace HR1 := Lib.hid (range_below' HR1.out hb)
  replace HR23 := Lib.hid (range_below' HR23.out hb)
  replace HR24 := Lib.hid (range_below' HR24.out hb)
  replace HY := Lib.hid (HY.out.below hb)
  clear hb
  clear hv
  go_wp2_with fail
  refine (lbin_any 1 5 9 _).mono ?_
  rintro e p9 ⟨rfl, hb⟩
  replace HN := Lib.hid (HN.out.next hb)
  replace HW := Lib.hid (HW.out.trans (hb.mono HW.out.size))
  replace HX4 := Lib.hid (HX4.out.next hb)
  replace HX6 := Lib.hid (HX6.out.next hb)
  replace HX8 := Lib.hid (HX8.out.next hb)
  replace HD := Lib.hid (HD.out.below hb)
  replace HL := Lib.hid (HL.out.below hb)
  replace HR0 := Lib.hid (range_below' HR0.out hb)
  replace HR1 := Lib.hid (range_below' HR1.out hb)
  replace HR23 := Lib.hid (range_below' HR23.out hb)
  replace HR24 := Lib.hid (range_below' HR24.out hb)
  replace HY := Lib.hid (HY.out.below hb)
  clear hb
  go_wp2_with fail
  have hv := valid_any 1 5 9 _ HN.out
  rw [s_no] at hv
  refine (hv).mono ?_
  rintro e p10 ⟨rfl, hb⟩
  replace HN := Lib.hid (HN.out.next hb)
  replace HW := Lib.hid (HW.out.trans (hb.mono HW.out.size))
  replace HX4 := Lib.hid (HX4.out.next hb)
  replace HX6 := Lib.hid (HX6.out.next hb)
  replace HX8 := Lib.hid (HX8.out.next hb)
  replace HD := Lib.hid (HD.out.below hb)
  replace HL := Lib.hid (HL.out.below hb)
  replace HR0 := Lib.hid (range_below' HR0.out hb)
  replace HR1 := Lib.hid (range_below' HR1.out hb)
  replace HR23 := Lib.hid (range_below' HR23.out hb)
  replace HR24 := Lib.hid (range_below' HR24.out hb)
  replace HY := Lib.hid (HY.out.below hb)
  clear hb
  clear hv
  go_wp2_with fail
  have hr0 : World.rangeAt p10 b9 (o9) (b3 0 3 4) := HR0.out
  clear HR0
  have HR0 := Lib.hid hr0
  clear hr0
  have hr1 : World.rangeAt p10 b9 (o9 + 3) (b3 1 4 8) := HR1.out
  clear HR1
  have HR1 := Lib.hid hr1
  clear hr1
  have hr23 : World.rangeAt p10 b9 (o9 + 69) (b3 1 92 96) := HR23.out
  clear HR23
  have HR23 := Lib.hid hr23
  clear hr23
  have hr24 : World.rangeAt p10 b9 (o9 + 72) (b3 0 96 97) := HR24.out
  clear HR24
  have HR24 := Lib.hid hr24
  clear hr24
  refine late_begin (S := fun _ W => World.rangeAt W b9 (o9) (b3 0 3 4) ∧ World.rangeAt W b9 (o9 + 3) (b3 1 4 8) ∧ World.rangeAt W b9 (o9 + 69) (b3 1 92 96) ∧ World.rangeAt W b9 (o9 + 72) (b3 0 96 97)) (by kernel_rfl) ?_
  have hR00 := range_below' HR0.out (Below.refl _ _).drew
  have hR10 := range_below' HR1.out (Below.refl _ _).drew
  have hR230 := range_below' HR23.out (Below.refl _ _).drew
  have hR240 := range_below' HR24.out (Below.refl _ _).drew
  have hW0 := HW.out.drew
  generalize p10.drew = u0 at hR00 hR10 hR230 hR240 hW0 ⊢
  clear HR0 HR1 HR23 HR24 HW
  refine late_take [] (i := 0) (some 160) rfl rfl (by first | rfl | kernel_rfl) (by kernel_rfl) (by kernel_rfl) (by kernel_rfl) (by kernel_rfl) (by kernel_rfl) (fun Ls W h => h) (.bool true) (fun _ _ _ h => h) (fun Ls W hl0 hW => exec_move (.tmp 18) rfl _ rfl) ⟨hR00, hR10, hR230, hR240⟩ ⟨hR00, hR10, hR230, hR240⟩ ?_
  go_frame
  refine late_take [] (i := 1) (some 161) rfl rfl (by first | rfl | kernel_rfl) (by kernel_rfl) (by kernel_rfl) (by kernel_rfl) (by kernel_rfl) (by kernel_rfl) (fun Ls W h => h) (.bool true) (fun _ _ _ h => h) (fun Ls W hl0 hW => exec_move (.tmp 160) rfl _ rfl) ⟨hR00, hR10, hR230, hR240⟩ ⟨hR00, hR10, hR230, hR240⟩ ?_
  go_frame
  refine late_take [] (i := 2) (some 162) rfl rfl (by first | rfl | kernel_rfl) (by kernel_rfl) (by kernel_rfl) (by kernel_rfl) (by kernel_rfl) (by kernel_rfl) (fun Ls W h => h) (.bool true) (fun _ _ _ h => h) (fun Ls W hl0 hW => exec_move (.tmp 19) rfl _ rfl) ⟨hR00, hR10, hR230, hR240⟩ ⟨hR00, hR10, hR230, hR240⟩ ?_
  go_frame
  refine late_take [] (i := 3) (some 163) rfl rfl (by first | rfl | kernel_rfl) (by kernel_rfl) (by kernel_rfl) (by kernel_rfl) (by kernel_rfl) (by kernel_rfl) (fun Ls W h => h) (.bool true) (fun _ _ _ h => h) (fun Ls W hl0 hW => exec_pickT _ _ _ rfl (.bool true) rfl rfl) ⟨hR00, hR10, hR230, hR240⟩ ⟨hR00, hR10, hR230, hR240⟩ ?_
  go_frame
  refine late_take [] (i := 4) (some 164) rfl rfl (by first | rfl | kernel_rfl) (by kernel_rfl) (by kernel_rfl) (by kernel_rfl) (by kernel_rfl) (by kernel_rfl) (fun Ls W h => h) (.bool true) (fun _ _ _ h => h) (fun Ls W hl0 hW => exec_move (.tmp 163) rfl _ rfl) ⟨hR00, hR10, hR230, hR240⟩ ⟨hR00, hR10, hR230, hR240⟩ ?_
  go_frame
  refine late_take [] (i := 5) (some 165) rfl rfl (by first | rfl | kernel_rfl) (by kernel_rfl) (by kernel_rfl) (by kernel_rfl) (by kernel_rfl) (by kernel_rfl) (fun Ls W h => h) (.bool true) (fun _ _ _ h => h) (fun Ls W hl0 hW => exec_move (.tmp 20) rfl _ rfl) ⟨hR00, hR10, hR230, hR240⟩ ⟨hR00, hR10, hR230, hR240⟩ ?_
  go_frame
  refine late_take [] (i := 6) (some 166) rfl rfl (by first | rfl | kernel_rfl) (by kernel_rfl) (by kernel_rfl) (by kernel_rfl) (by kernel_rfl) (by kernel_rfl) (fun Ls W h => h) (.bool true) (fun _ _ _ h => h) (fun Ls W hl0 hW => exec_pickT _ _ _ rfl (.bool true) rfl rfl) ⟨hR00, hR10, hR230, hR240⟩ ⟨hR00, hR10, hR230, hR240⟩ ?_
  go_frame
  refine late_take [] (i := 7) (some 167) rfl rfl (by first | rfl | kernel_rfl) (by kernel_rfl) (by kernel_rfl) (by kernel_rfl) (by kernel_rfl) (by kernel_rfl) (fun Ls W h => h) (.bool true) (fun _ _ _ h => h) (fun Ls W hl0 hW => exec_move (.tmp 166) rfl _ rfl) ⟨hR00, hR10, hR230, hR240⟩ ⟨hR00, hR10, hR230, hR240⟩ ?_
  go_frame
  refine late_take [] (i := 8) (some 168) rfl rfl (by first | rfl | kernel_rfl) (by kernel_rfl) (by kernel_rfl) (by kernel_rfl) (by kernel_rfl) (by kernel_rfl) (fun Ls W h => h) (.slice (some ⟨b9, o9, none⟩) 25 c9) (fun _ _ _ h => h) (fun Ls W hl0 hW => exec_move (.tmp 14) rfl _ rfl) ⟨hR00, hR10, hR230, hR240⟩ ⟨hR00, hR10, hR230, hR240⟩ ?_
  go_frame
  refine late_take [] (i := 9) (some 169) rfl rfl (by first | rfl | kernel_rfl) (by kernel_rfl) (by kernel_rfl) (by kernel_rfl) (by kernel_rfl) (by kernel_rfl) (fun Ls W h => h) (.pointer (some ⟨b9, o9, none⟩)) (fun _ _ _ h => h) (fun Ls W hl0 hW => exec_atB (.tmp 168) (.const (.int .i64 0)) rfl b9 o9 25 c9 0 (by decide) rfl rfl) ⟨hR00, hR10, hR230, hR240⟩ ⟨hR00, hR10, hR230, hR240⟩ ?_
  go_frame
  refine late_take [] (i := 10) (some 170) rfl rfl (by first | rfl | kernel_rfl) (by kernel_rfl) (by kernel_rfl) (by kernel_rfl) (by kernel_rfl) (by kernel_rfl) (fun Ls W h => h) (.agg #[.int .i64 0, .int .i64 3, .int .i64 4]) (fun _ _ _ h => h) (fun Ls W hl0 hW => exec_load 23 (.tmp 169) rfl _ _ rfl (run_loadAt_mid W b9 (o9) _ (b3 0 3 4) _ hW.1 bin_under rfl bn_size)) ⟨hR00, hR10, hR230, hR240⟩ ⟨hR00, hR10, hR230, hR240⟩ ?_
  go_frame
  refine late_one (i := 11) (by kernel_rfl) (op_callG (some 171) rfl rfl (by first | rfl | kernel_rfl) rfl Tryd.func30 (by kernel_rfl) (by kernel_rfl) #[.int .i64 0, .int .i64 3, .int .i64 4] rfl (lbin_any _ _ _ _) ?_)
  rintro e u1 ⟨rfl, hb⟩
  have hR01 := range_below' hR00 hb
  have hR11 := range_below' hR10 hb
  have hR231 := range_below' hR230 hb
  have hR241 := range_below' hR240 hb
  have hW1 := hW0.trans (hb.mono hW0.size)
  refine ⟨_, rfl, ⟨hR01, hR11, hR231, hR241⟩, ?_⟩
  go_frame
  clear hR00 hR10 hR230 hR240 hW0 hb
  refine late_one (i := 12) (by kernel_rfl) (op_valueG (some 172) rfl rfl (by first | rfl | kernel_rfl) (.bool true) (exec_bin .eql 23 _ (.tmp 170) (.tmp 171) rfl _ _ _ rfl rfl (bn_guard _ _ _ _ _ _) (bn_same 0 3 4 _)) ⟨⟨hR01, hR11, hR231, hR241⟩, ?_⟩)
  go_frame
  refine late_one (i := 13) (by kernel_rfl) (op_valueG (some 173) rfl rfl (by first | rfl | kernel_rfl) (.bool true) (exec_pickT _ _ _ rfl (.bool true) rfl rfl) ⟨⟨hR01, hR11, hR231, hR241⟩, ?_⟩)
  go_frame
  refine late_one (i := 14) (by kernel_rfl) (op_valueG (some 174) rfl rfl (by first | rfl | kernel_rfl) (.bool true) (exec_move (.tmp 173) rfl _ rfl) ⟨⟨hR01, hR11, hR231, hR241⟩, ?_⟩)
  go_frame
  refine late_take [] (i := 15) (some 175) rfl rfl (by first | rfl | kernel_rfl) (by kernel_rfl) (by kernel_rfl) (by kernel_rfl) (by kernel_rfl) (by kernel_rfl) (fun Ls W h => h) (.slice (some ⟨b9, o9, none⟩) 25 c9) (fun _ _ _ h => h) (fun Ls W hl0 hW => exec_move (.tmp 14) rfl _ rfl) ⟨hR01, hR11, hR231, hR241⟩ ⟨hR01, hR11, hR231, hR241⟩ ?_
  go_frame
  refine late_take [] (i := 16) (some 176) rfl rfl (by first | rfl | kernel_rfl) (by kernel_rfl) (by kernel_rfl) (by kernel_rfl) (by kernel_rfl) (by kernel_rfl) (fun Ls W h => h) (.pointer (some ⟨b9, o9 + 3, none⟩)) (fun _ _ _ h => h) (fun Ls W hl0 hW => exec_atB (.tmp 175) (.const (.int .i64 1)) rfl b9 o9 25 c9 1 (by decide) rfl rfl) ⟨hR01, hR11, hR231, hR241⟩ ⟨hR01, hR11, hR231, hR241⟩ ?_
  go_frame
  refine late_take [] (i := 17) (some 177) rfl rfl (by first | rfl | kernel_rfl) (by kernel_rfl) (by kernel_rfl) (by kernel_rfl) (by kernel_rfl) (by kernel_rfl) (fun Ls W h => h) (.agg #[.int .i64 1, .int .i64 4, .int .i64 8]) (fun _ _ _ h => h) (fun Ls W hl0 hW => exec_load 23 (.tmp 176) rfl _ _ rfl (run_loadAt_mid W b9 (o9 + 3) _ (b3 1 4 8) _ hW.2.1 bin_under rfl bn_size)) ⟨hR01, hR11, hR231, hR241⟩ ⟨hR01, hR11, hR231, hR241⟩ ?_
  go_frame
  refine late_one (i := 18) (by kernel_rfl) (op_callG (some 178) rfl rfl (by first | rfl | kernel_rfl) rfl Tryd.func30 (by kernel_rfl) (by kernel_rfl) #[.int .i64 1, .int .i64 4, .int .i64 8] rfl (lbin_any _ _ _ _) ?_)
  rintro e u2 ⟨rfl, hb⟩
  have hR02 := range_below' hR01 hb
  have hR12 := range_below' hR11 hb
  have hR232 := range_below' hR231 hb
  have hR242 := range_below' hR241 hb
  have hW2 := hW1.trans (hb.mono hW1.size)
  refine ⟨_, rfl, ⟨hR02, hR12, hR232, hR242⟩, ?_⟩
  go_frame
  clear hR01 hR11 hR231 hR241 hW1 hb
  refine late_one (i := 19) (by kernel_rfl) (op_valueG (some 179) rfl rfl (by first | rfl | kernel_rfl) (.bool true) (exec_bin .eql 23 _ (.tmp 177) (.tmp 178) rfl _ _ _ rfl rfl (bn_guard _ _ _ _ _ _) (bn_same 1 4 8 _)) ⟨⟨hR02, hR12, hR232, hR242⟩, ?_⟩)
  go_frame
  refine late_one (i := 20) (by kernel_rfl) (op_valueG (some 180) rfl rfl (by first | rfl | kernel_rfl) (.bool true) (exec_pickT _ _ _ rfl (.bool true) rfl rfl) ⟨⟨hR02, hR12, hR232, hR242⟩, ?_⟩)
  go_frame
  refine late_one (i := 21) (by kernel_rfl) (op_valueG (some 181) rfl rfl (by first | rfl | kernel_rfl) (.bool true) (exec_move (.tmp 180) rfl _ rfl) ⟨⟨hR02, hR12, hR232, hR242⟩, ?_⟩)
  go_frame
  refine late_take [] (i := 22) (some 182) rfl rfl (by first | rfl | kernel_rfl) (by kernel_rfl) (by kernel_rfl) (by kernel_rfl) (by kernel_rfl) (by kernel_rfl) (fun Ls W h => h) (.slice (some ⟨b9, o9, none⟩) 25 c9) (fun _ _ _ h => h) (fun Ls W hl0 hW => exec_move (.tmp 14) rfl _ rfl) ⟨hR02, hR12, hR232, hR242⟩ ⟨hR02, hR12, hR232, hR242⟩ ?_
  go_frame
  refine late_take [] (i := 23) (some 183) rfl rfl (by first | rfl | kernel_rfl) (by kernel_rfl) (by kernel_rfl) (by kernel_rfl) (by kernel_rfl) (by kernel_rfl) (fun Ls W h => h) (.pointer (some ⟨b9, o9 + 69, none⟩)) (fun _ _ _ h => h) (fun Ls W hl0 hW => exec_atB (.tmp 182) (.const (.int .i64 23)) rfl b9 o9 25 c9 23 (by decide) rfl rfl) ⟨hR02, hR12, hR232, hR242⟩ ⟨hR02, hR12, hR232, hR242⟩ ?_
  go_frame
  refine late_take [] (i := 24) (some 184) rfl rfl (by first | rfl | kernel_rfl) (by kernel_rfl) (by kernel_rfl) (by kernel_rfl) (by kernel_rfl) (by kernel_rfl) (fun Ls W h => h) (.agg #[.int .i64 1, .int .i64 92, .int .i64 96]) (fun _ _ _ h => h) (fun Ls W hl0 hW => exec_load 23 (.tmp 183) rfl _ _ rfl (run_loadAt_mid W b9 (o9 + 69) _ (b3 1 92 96) _ hW.2.2.1 bin_under rfl bn_size)) ⟨hR02, hR12, hR232, hR242⟩ ⟨hR02, hR12, hR232, hR242⟩ ?_
  go_frame
  refine late_one (i := 25) (by kernel_rfl) (op_callG (some 185) rfl rfl (by first | rfl | kernel_rfl) rfl Tryd.func30 (by kernel_rfl) (by kernel_rfl) #[.int .i64 1, .int .i64 92, .int .i64 96] rfl (lbin_any _ _ _ _) ?_)
  rintro e u3 ⟨rfl, hb⟩
  have hR03 := range_below' hR02 hb
  have hR13 := range_below' hR12 hb
  have hR233 := range_below' hR232 hb
  have hR243 := range_below' hR242 hb
  have hW3 := hW2.trans (hb.mono hW2.size)
  refine ⟨_, rfl, ⟨hR03, hR13, hR233, hR243⟩, ?_⟩
  go_frame
  clear hR02 hR12 hR232 hR242 hW2 hb
  refine late_one (i := 26) (by kernel_rfl) (op_valueG (some 186) rfl rfl (by first | rfl | kernel_rfl) (.bool true) (exec_bin .eql 23 _ (.tmp 184) (.tmp 185) rfl _ _ _ rfl rfl (bn_guard _ _ _ _ _ _) (bn_same 1 92 96 _)) ⟨⟨hR03, hR13, hR233, hR243⟩, ?_⟩)
  go_frame
  refine late_one (i := 27) (by kernel_rfl) (op_valueG (some 187) rfl rfl (by first | rfl | kernel_rfl) (.bool true) (exec_pickT _ _ _ rfl (.bool true) rfl rfl) ⟨⟨hR03, hR13, hR233, hR243⟩, ?_⟩)
  go_frame
  refine late_one (i := 28) (by kernel_rfl) (op_valueG (some 188) rfl rfl (by first | rfl | kernel_rfl) (.bool true) (exec_move (.tmp 187) rfl _ rfl) ⟨⟨hR03, hR13, hR233, hR243⟩, ?_⟩)
  go_frame
  refine late_take [] (i := 29) (some 189) rfl rfl (by first | rfl | kernel_rfl) (by kernel_rfl) (by kernel_rfl) (by kernel_rfl) (by kernel_rfl) (by kernel_rfl) (fun Ls W h => h) (.slice (some ⟨b9, o9, none⟩) 25 c9) (fun _ _ _ h => h) (fun Ls W hl0 hW => exec_move (.tmp 14) rfl _ rfl) ⟨hR03, hR13, hR233, hR243⟩ ⟨hR03, hR13, hR233, hR243⟩ ?_
  go_frame
  refine late_take [] (i := 30) (some 190) rfl rfl (by first | rfl | kernel_rfl) (by kernel_rfl) (by kernel_rfl) (by kernel_rfl) (by kernel_rfl) (by kernel_rfl) (fun Ls W h => h) (.pointer (some ⟨b9, o9 + 72, none⟩)) (fun _ _ _ h => h) (fun Ls W hl0 hW => exec_atB (.tmp 189) (.const (.int .i64 24)) rfl b9 o9 25 c9 24 (by decide) rfl rfl) ⟨hR03, hR13, hR233, hR243⟩ ⟨hR03, hR13, hR233, hR243⟩ ?_
  go_frame
  refine late_take [] (i := 31) (some 191) rfl rfl (by first | rfl | kernel_rfl) (by kernel_rfl) (by kernel_rfl) (by kernel_rfl) (by kernel_rfl) (by kernel_rfl) (fun Ls W h => h) (.agg #[.int .i64 0, .int .i64 96, .int .i64 97]) (fun _ _ _ h => h) (fun Ls W hl0 hW => exec_load 23 (.tmp 190) rfl _ _ rfl (run_loadAt_mid W b9 (o9 + 72) _ (b3 0 96 97) _ hW.2.2.2 bin_under rfl bn_size)) ⟨hR03, hR13, hR233, hR243⟩ ⟨hR03, hR13, hR233, hR243⟩ ?_
  go_frame
  refine late_one (i := 32) (by kernel_rfl) (op_callG (some 192) rfl rfl (by first | rfl | kernel_rfl) rfl Tryd.func30 (by kernel_rfl) (by kernel_rfl) #[.int .i64 0, .int .i64 96, .int .i64 97] rfl (lbin_any _ _ _ _) ?_)
  rintro e u4 ⟨rfl, hb⟩
  have hR04 := range_below' hR03 hb
  have hR14 := range_below' hR13 hb
  have hR234 := range_below' hR233 hb
  have hR244 := range_below' hR243 hb
  have hW4 := hW3.trans (hb.mono hW3.size)
  refine ⟨_, rfl, ⟨hR04, hR14, hR234, hR244⟩, ?_⟩
  go_frame
  clear hR03 hR13 hR233 hR243 hW3 hb
  refine late_one (i := 33) (by kernel_rfl) (op_valueG (some 193) rfl rfl (by first | rfl | kernel_rfl) (.bool true) (exec_bin .eql 23 _ (.tmp 191) (.tmp 192) rfl _ _ _ rfl rfl (bn_guard _ _ _ _ _ _) (bn_same 0 96 97 _)) ⟨⟨hR04, hR14, hR234, hR244⟩, ?_⟩)
  go_frame
  refine late_one (i := 34) (by kernel_rfl) (op_valueG (some 194) rfl rfl (by first | rfl | kernel_rfl) (.bool true) (exec_pickT _ _ _ rfl (.bool true) rfl rfl) ⟨⟨hR04, hR14, hR234, hR244⟩, ?_⟩)
  go_frame
  refine late_one (i := 35) (by kernel_rfl) (op_valueG (some 0) rfl rfl (by first | rfl | kernel_rfl) (.bool true) (exec_assign (.tmp 194) rfl _ rfl) ⟨⟨hR04, hR14, hR234, hR244⟩, late_done (by kernel_rfl) ?_ _⟩)
  go_frame
  have HR0 := Lib.hid hR04
  have HR1 := Lib.hid hR14
  have HR23 := Lib.hid hR234
  have HR24 := Lib.hid hR244
  have HW := Lib.hid hW4
  clear hR04 hR14 hR234 hR244 hW4
  go_wp2
  go_ret
  exact ⟨rfl, HW.out⟩
end Go.Proofs.YtmifpaafpmibmaaDoor
