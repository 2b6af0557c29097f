/- The walk of RatsAreOrdered: what it does not look at. -/
import Derived.Test.YtibfmcohodhkbaaGreatDoorQ30
namespace Go.Proofs.YtibfmcohodhkbaaGreatDoor
open Go.RowKit Hm Wm Wn

section
variable {P : Program} {md : Region.Mode} {ops : Array Oper} {late : List Nat} {S : Array Bool → World → Prop} {Q : Exit → Act → World → Prop} {fuel i : Nat} {oi : Oper} {listed : Array Bool} {a : Act} {w : World}
theorem late_skip (late : List Nat) (d : Option Tmp) (hi : ops[i]? = some oi) (hd : oi.dst = d) (hw : Region.wanted oi (yielded ops a.tmps) = false) (hs : Region.noSelect ops = true) (hf : Region.free md ops listed i = true) (hr : (Region.ready md ops listed).contains i = true)
    (hwt : waitsFor md ops late i = true) (hlf : lateFreeB late listed = true) (hSi : ∀ L W, S (L.setIfInBounds i true) W → S L W) (hQ : ∀ c a w, Q (.panic c) (a.put d undef) w → Q (.panic c) a w) (hS : S listed w) (hS' : S (listed.setIfInBounds i true) w)
    (h : wpAnyT P md ops Q S fuel (listed.setIfInBounds i true) (a.put d undef) w) : wpAnyT P md ops Q S (fuel + 1) listed a w := by
  subst hd
  exact wpAnyT_first hi (Region.noSelect_spec hs) hQ (waitsFor_spec hwt) hSi fuel listed a w (Region.free_spec hi hf) (by simpa using hr) (.inr ⟨hw, rfl⟩) (lateFreeB_spec hlf) hS hS' h
end
section
variable {P : Program} {oi : Oper} {a : Act} {w : World}
theorem exec_gtrI (t : TypeId) (x y : Operand) (rt : TypeId) (ho : oi.op = .binOp .gtr t x y rt) (k : IntKind) (m n : Int) (r : Bool) (hr : decide (n < m) = r) (hx : a.eval x = .int k m) (hy : a.eval y = .int k n) : (execOp a.eval oi).run P w = .ok (.value (.bool r)) w := by
  subst hr
  exact exec_bin .gtr t rt x y ho _ _ _ hx hy (by simp [go_sem]) (by simp [go_sem])
theorem exec_geqI (t : TypeId) (x y : Operand) (rt : TypeId) (ho : oi.op = .binOp .geq t x y rt) (k : IntKind) (m n : Int) (r : Bool) (hr : decide (n ≤ m) = r) (hx : a.eval x = .int k m) (hy : a.eval y = .int k n) : (execOp a.eval oi).run P w = .ok (.value (.bool r)) w := by
  subst hr
  exact exec_bin .geq t rt x y ho _ _ _ hx hy (by simp [go_sem]) (by simp [go_sem])
theorem exec_leqI (t : TypeId) (x y : Operand) (rt : TypeId) (ho : oi.op = .binOp .leq t x y rt) (k : IntKind) (m n : Int) (r : Bool) (hr : decide (m ≤ n) = r) (hx : a.eval x = .int k m) (hy : a.eval y = .int k n) : (execOp a.eval oi).run P w = .ok (.value (.bool r)) w := by
  subst hr
  exact exec_bin .leq t rt x y ho _ _ _ hx hy (by simp [go_sem]) (by simp [go_sem])
theorem run_subI (t : TypeId) (m n d : Int) (h : m - n = d) (hd : 0 ≤ d ∧ d ≤ 1) (W : World) : (binOp .sub t (.int .i64 m) (.int .i64 n)).run P W = .ok (.int .i64 d) W := by
  have hw : IntKind.i64.wrap (m - n) = d := by
    rw [h]
    have : d = 0 ∨ d = 1 := by omega
    rcases this with rfl | rfl <;> decide
  simp [binOp, go_sem, hw]
end
set_option maxRecDepth 100000 in
set_option maxHeartbeats 800000 in
theorem ord_out0 (x y z : Rv) (w : World) (hE : Env w) (h18 : (∀ W, Calls Tryz.prog 6 #[.agg #[.bool x.neg, .string x.n, .string x.d], .int .i64 25] W fun e w' => e = .returned (.bool false) ∧ Below W.heap.size W w')) : Calls Tryz.prog 5 #[.agg #[.bool x.neg, .string x.n, .string x.d], .agg #[.bool y.neg, .string y.n, .string y.d], .agg #[.bool z.neg, .string z.n, .string z.d]] w fun e w' => e = .returned (.bool true) ∧ Below w.heap.size w w' := by
  obtain ⟨W0, hW0, kx, ky, kz, kw⟩ := three_vars w 23 23 23 [.bool x.neg, .string x.n, .string x.d] [.bool y.neg, .string y.n, .string y.d] [.bool z.neg, .string z.n, .string z.d]
  have HX := Lib.hid kx
  have HY := Lib.hid ky
  have HC := Lib.hid kz
  have HW := Lib.hid kw
  have HE := Lib.hid (hE.next kw)
  have HE0 := Lib.hid hE
  clear kx ky kz kw hE
  have F18 := Lib.hid h18
  clear h18
  go_enter Tryz.func5, Tryz.ntmps5
  go_wp2_with fail
  try rw [← hW0]
  clear hW0
  go_wp2_with (first | (refine wpList_dst 17 rfl ?_; refine wpList_run 17 rfl rfl _ (exec_load 23 (.tmp 3) rfl _ (.agg #[.bool x.neg, .string x.n, .string x.d]) rfl (run_load_part _ 23 _ 0 3 _ [.bool x.neg, .string x.n, .string x.d] _ HX.out (by simp) Tryz.underlying23 rfl size_api_Rat)) ?_; go_frame))
  refine (F18.out _).mono ?_
  rintro e w1 ⟨rfl, hb⟩
  replace HX := Lib.hid (HX.out.next hb)
  replace HY := Lib.hid (HY.out.next hb)
  replace HC := Lib.hid (HC.out.next hb)
  replace HW := Lib.hid (HW.out.trans (hb.mono HW.out.size))
  replace HE := Lib.hid (HE.out.next hb)
  clear hb
  go_wp2_with fail
  refine ((qsanity_any _ HE.out)).mono ?_
  rintro e w2 ⟨rfl, hb⟩
  replace HX := Lib.hid (HX.out.next hb)
  replace HY := Lib.hid (HY.out.next hb)
  replace HC := Lib.hid (HC.out.next hb)
  replace HW := Lib.hid (HW.out.trans (hb.mono HW.out.size))
  replace HE := Lib.hid (HE.out.next hb)
  clear hb
  go_wp2_with fail
  go_ret
  exact ⟨rfl, HW.out⟩
set_option maxRecDepth 100000 in
set_option maxHeartbeats 800000 in
theorem ord_out1 (x y z : Rv) (w : World) (hE : Env w) (h18 : (∀ W, Calls Tryz.prog 6 #[.agg #[.bool x.neg, .string x.n, .string x.d], .int .i64 25] W fun e w' => e = .returned (.bool true) ∧ Below W.heap.size W w')) (h22 : (∀ W, Calls Tryz.prog 6 #[.agg #[.bool y.neg, .string y.n, .string y.d], .int .i64 25] W fun e w' => e = .returned (.bool false) ∧ Below W.heap.size W w')) : Calls Tryz.prog 5 #[.agg #[.bool x.neg, .string x.n, .string x.d], .agg #[.bool y.neg, .string y.n, .string y.d], .agg #[.bool z.neg, .string z.n, .string z.d]] w fun e w' => e = .returned (.bool true) ∧ Below w.heap.size w w' := by
  obtain ⟨W0, hW0, kx, ky, kz, kw⟩ := three_vars w 23 23 23 [.bool x.neg, .string x.n, .string x.d] [.bool y.neg, .string y.n, .string y.d] [.bool z.neg, .string z.n, .string z.d]
  have HX := Lib.hid kx
  have HY := Lib.hid ky
  have HC := Lib.hid kz
  have HW := Lib.hid kw
  have HE := Lib.hid (hE.next kw)
  have HE0 := Lib.hid hE
  clear kx ky kz kw hE
  have F18 := Lib.hid h18
  have F22 := Lib.hid h22
  clear h18 h22
  go_enter Tryz.func5, Tryz.ntmps5
  go_wp2_with fail
  try rw [← hW0]
  clear hW0
  go_wp2_with (first | (refine wpList_dst 17 rfl ?_; refine wpList_run 17 rfl rfl _ (exec_load 23 (.tmp 3) rfl _ (.agg #[.bool x.neg, .string x.n, .string x.d]) rfl (run_load_part _ 23 _ 0 3 _ [.bool x.neg, .string x.n, .string x.d] _ HX.out (by simp) Tryz.underlying23 rfl size_api_Rat)) ?_; go_frame))
  refine (F18.out _).mono ?_
  rintro e w1 ⟨rfl, hb⟩
  replace HX := Lib.hid (HX.out.next hb)
  replace HY := Lib.hid (HY.out.next hb)
  replace HC := Lib.hid (HC.out.next hb)
  replace HW := Lib.hid (HW.out.trans (hb.mono HW.out.size))
  replace HE := Lib.hid (HE.out.next hb)
  clear hb
  go_wp2_with (first | (refine wpList_dst 21 rfl ?_; refine wpList_runG 21 rfl rfl _ (exec_load 23 (.tmp 4) rfl _ (.agg #[.bool y.neg, .string y.n, .string y.d]) rfl (run_load_part _ 23 _ 0 3 _ [.bool y.neg, .string y.n, .string y.d] _ HY.out (by simp) Tryz.underlying23 rfl size_api_Rat)) ?_; go_frame))
  refine (F22.out _).mono ?_
  rintro e w2 ⟨rfl, hb⟩
  replace HX := Lib.hid (HX.out.next hb)
  replace HY := Lib.hid (HY.out.next hb)
  replace HC := Lib.hid (HC.out.next hb)
  replace HW := Lib.hid (HW.out.trans (hb.mono HW.out.size))
  replace HE := Lib.hid (HE.out.next hb)
  clear hb
  go_wp2_with fail
  refine ((qsanity_any _ HE.out)).mono ?_
  rintro e w3 ⟨rfl, hb⟩
  replace HX := Lib.hid (HX.out.next hb)
  replace HY := Lib.hid (HY.out.next hb)
  replace HC := Lib.hid (HC.out.next hb)
  replace HW := Lib.hid (HW.out.trans (hb.mono HW.out.size))
  replace HE := Lib.hid (HE.out.next hb)
  clear hb
  go_wp2_with fail
  go_ret
  exact ⟨rfl, HW.out⟩
set_option maxRecDepth 100000 in
set_option maxHeartbeats 800000 in
theorem ord_out2 (x y z : Rv) (w : World) (hE : Env w) (h18 : (∀ W, Calls Tryz.prog 6 #[.agg #[.bool x.neg, .string x.n, .string x.d], .int .i64 25] W fun e w' => e = .returned (.bool true) ∧ Below W.heap.size W w')) (h22 : (∀ W, Calls Tryz.prog 6 #[.agg #[.bool y.neg, .string y.n, .string y.d], .int .i64 25] W fun e w' => e = .returned (.bool true) ∧ Below W.heap.size W w')) (h27 : (∀ W, Calls Tryz.prog 6 #[.agg #[.bool z.neg, .string z.n, .string z.d], .int .i64 25] W fun e w' => e = .returned (.bool false) ∧ Below W.heap.size W w')) : Calls Tryz.prog 5 #[.agg #[.bool x.neg, .string x.n, .string x.d], .agg #[.bool y.neg, .string y.n, .string y.d], .agg #[.bool z.neg, .string z.n, .string z.d]] w fun e w' => e = .returned (.bool true) ∧ Below w.heap.size w w' := by
  obtain ⟨W0, hW0, kx, ky, kz, kw⟩ := three_vars w 23 23 23 [.bool x.neg, .string x.n, .string x.d] [.bool y.neg, .string y.n, .string y.d] [.bool z.neg, .string z.n, .string z.d]
  have HX := Lib.hid kx
  have HY := Lib.hid ky
  have HC := Lib.hid kz
  have HW := Lib.hid kw
  have HE := Lib.hid (hE.next kw)
  have HE0 := Lib.hid hE
  clear kx ky kz kw hE
  have F18 := Lib.hid h18
  have F22 := Lib.hid h22
  have F27 := Lib.hid h27
  clear h18 h22 h27
  go_enter Tryz.func5, Tryz.ntmps5
  go_wp2_with fail
  try rw [← hW0]
  clear hW0
  go_wp2_with (first | (refine wpList_dst 17 rfl ?_; refine wpList_run 17 rfl rfl _ (exec_load 23 (.tmp 3) rfl _ (.agg #[.bool x.neg, .string x.n, .string x.d]) rfl (run_load_part _ 23 _ 0 3 _ [.bool x.neg, .string x.n, .string x.d] _ HX.out (by simp) Tryz.underlying23 rfl size_api_Rat)) ?_; go_frame))
  refine (F18.out _).mono ?_
  rintro e w1 ⟨rfl, hb⟩
  replace HX := Lib.hid (HX.out.next hb)
  replace HY := Lib.hid (HY.out.next hb)
  replace HC := Lib.hid (HC.out.next hb)
  replace HW := Lib.hid (HW.out.trans (hb.mono HW.out.size))
  replace HE := Lib.hid (HE.out.next hb)
  clear hb
  go_wp2_with (first | (refine wpList_dst 21 rfl ?_; refine wpList_runG 21 rfl rfl _ (exec_load 23 (.tmp 4) rfl _ (.agg #[.bool y.neg, .string y.n, .string y.d]) rfl (run_load_part _ 23 _ 0 3 _ [.bool y.neg, .string y.n, .string y.d] _ HY.out (by simp) Tryz.underlying23 rfl size_api_Rat)) ?_; go_frame))
  refine (F22.out _).mono ?_
  rintro e w2 ⟨rfl, hb⟩
  replace HX := Lib.hid (HX.out.next hb)
  replace HY := Lib.hid (HY.out.next hb)
  replace HC := Lib.hid (HC.out.next hb)
  replace HW := Lib.hid (HW.out.trans (hb.mono HW.out.size))
  replace HE := Lib.hid (HE.out.next hb)
  clear hb
  go_wp2_with (first | (refine wpList_dst 26 rfl ?_; refine wpList_runG 26 rfl rfl _ (exec_load 23 (.tmp 5) rfl _ (.agg #[.bool z.neg, .string z.n, .string z.d]) rfl (run_load_part _ 23 _ 0 3 _ [.bool z.neg, .string z.n, .string z.d] _ HC.out (by simp) Tryz.underlying23 rfl size_api_Rat)) ?_; go_frame))
  refine (F27.out _).mono ?_
  rintro e w3 ⟨rfl, hb⟩
  replace HX := Lib.hid (HX.out.next hb)
  replace HY := Lib.hid (HY.out.next hb)
  replace HC := Lib.hid (HC.out.next hb)
  replace HW := Lib.hid (HW.out.trans (hb.mono HW.out.size))
  replace HE := Lib.hid (HE.out.next hb)
  clear hb
  go_wp2_with fail
  refine ((qsanity_any _ HE.out)).mono ?_
  rintro e w4 ⟨rfl, hb⟩
  replace HX := Lib.hid (HX.out.next hb)
  replace HY := Lib.hid (HY.out.next hb)
  replace HC := Lib.hid (HC.out.next hb)
  replace HW := Lib.hid (HW.out.trans (hb.mono HW.out.size))
  replace HE := Lib.hid (HE.out.next hb)
  clear hb
  go_wp2_with fail
  go_ret
  exact ⟨rfl, HW.out⟩
set_option maxRecDepth 100000 in
set_option maxHeartbeats 800000 in
theorem ord_out3 (x y z : Rv) (w : World) (hE : Env w) (h18 : (∀ W, Calls Tryz.prog 6 #[.agg #[.bool x.neg, .string x.n, .string x.d], .int .i64 25] W fun e w' => e = .returned (.bool true) ∧ Below W.heap.size W w')) (h22 : (∀ W, Calls Tryz.prog 6 #[.agg #[.bool y.neg, .string y.n, .string y.d], .int .i64 25] W fun e w' => e = .returned (.bool true) ∧ Below W.heap.size W w')) (h27 : (∀ W, Calls Tryz.prog 6 #[.agg #[.bool z.neg, .string z.n, .string z.d], .int .i64 25] W fun e w' => e = .returned (.bool true) ∧ Below W.heap.size W w')) (h32 : (∀ W, Calls Tryz.prog 17 #[.agg #[.bool x.neg, .string x.n, .string x.d]] W fun e w' => e = .returned (.bool false) ∧ Below W.heap.size W w')) : Calls Tryz.prog 5 #[.agg #[.bool x.neg, .string x.n, .string x.d], .agg #[.bool y.neg, .string y.n, .string y.d], .agg #[.bool z.neg, .string z.n, .string z.d]] w fun e w' => e = .returned (.bool true) ∧ Below w.heap.size w w' := by
  obtain ⟨W0, hW0, kx, ky, kz, kw⟩ := three_vars w 23 23 23 [.bool x.neg, .string x.n, .string x.d] [.bool y.neg, .string y.n, .string y.d] [.bool z.neg, .string z.n, .string z.d]
  have HX := Lib.hid kx
  have HY := Lib.hid ky
  have HC := Lib.hid kz
  have HW := Lib.hid kw
  have HE := Lib.hid (hE.next kw)
  have HE0 := Lib.hid hE
  clear kx ky kz kw hE
  have F18 := Lib.hid h18
  have F22 := Lib.hid h22
  have F27 := Lib.hid h27
  have F32 := Lib.hid h32
  clear h18 h22 h27 h32
  go_enter Tryz.func5, Tryz.ntmps5
  go_wp2_with fail
  try rw [← hW0]
  clear hW0
  go_wp2_with (first | (refine wpList_dst 17 rfl ?_; refine wpList_run 17 rfl rfl _ (exec_load 23 (.tmp 3) rfl _ (.agg #[.bool x.neg, .string x.n, .string x.d]) rfl (run_load_part _ 23 _ 0 3 _ [.bool x.neg, .string x.n, .string x.d] _ HX.out (by simp) Tryz.underlying23 rfl size_api_Rat)) ?_; go_frame))
  refine (F18.out _).mono ?_
  rintro e w1 ⟨rfl, hb⟩
  replace HX := Lib.hid (HX.out.next hb)
  replace HY := Lib.hid (HY.out.next hb)
  replace HC := Lib.hid (HC.out.next hb)
  replace HW := Lib.hid (HW.out.trans (hb.mono HW.out.size))
  replace HE := Lib.hid (HE.out.next hb)
  clear hb
  go_wp2_with (first | (refine wpList_dst 21 rfl ?_; refine wpList_runG 21 rfl rfl _ (exec_load 23 (.tmp 4) rfl _ (.agg #[.bool y.neg, .string y.n, .string y.d]) rfl (run_load_part _ 23 _ 0 3 _ [.bool y.neg, .string y.n, .string y.d] _ HY.out (by simp) Tryz.underlying23 rfl size_api_Rat)) ?_; go_frame))
  refine (F22.out _).mono ?_
  rintro e w2 ⟨rfl, hb⟩
  replace HX := Lib.hid (HX.out.next hb)
  replace HY := Lib.hid (HY.out.next hb)
  replace HC := Lib.hid (HC.out.next hb)
  replace HW := Lib.hid (HW.out.trans (hb.mono HW.out.size))
  replace HE := Lib.hid (HE.out.next hb)
  clear hb
  go_wp2_with (first | (refine wpList_dst 26 rfl ?_; refine wpList_runG 26 rfl rfl _ (exec_load 23 (.tmp 5) rfl _ (.agg #[.bool z.neg, .string z.n, .string z.d]) rfl (run_load_part _ 23 _ 0 3 _ [.bool z.neg, .string z.n, .string z.d] _ HC.out (by simp) Tryz.underlying23 rfl size_api_Rat)) ?_; go_frame))
  refine (F27.out _).mono ?_
  rintro e w3 ⟨rfl, hb⟩
  replace HX := Lib.hid (HX.out.next hb)
  replace HY := Lib.hid (HY.out.next hb)
  replace HC := Lib.hid (HC.out.next hb)
  replace HW := Lib.hid (HW.out.trans (hb.mono HW.out.size))
  replace HE := Lib.hid (HE.out.next hb)
  clear hb
  go_wp2_with (first | (refine wpList_dst 31 rfl ?_; refine wpList_runG 31 rfl rfl _ (exec_load 23 (.tmp 3) rfl _ (.agg #[.bool x.neg, .string x.n, .string x.d]) rfl (run_load_part _ 23 _ 0 3 _ [.bool x.neg, .string x.n, .string x.d] _ HX.out (by simp) Tryz.underlying23 rfl size_api_Rat)) ?_; go_frame))
  refine (F32.out _).mono ?_
  rintro e w4 ⟨rfl, hb⟩
  replace HX := Lib.hid (HX.out.next hb)
  replace HY := Lib.hid (HY.out.next hb)
  replace HC := Lib.hid (HC.out.next hb)
  replace HW := Lib.hid (HW.out.trans (hb.mono HW.out.size))
  replace HE := Lib.hid (HE.out.next hb)
  clear hb
  go_wp2_with fail
  refine ((qsanity_any _ HE.out)).mono ?_
  rintro e w5 ⟨rfl, hb⟩
  replace HX := Lib.hid (HX.out.next hb)
  replace HY := Lib.hid (HY.out.next hb)
  replace HC := Lib.hid (HC.out.next hb)
  replace HW := Lib.hid (HW.out.trans (hb.mono HW.out.size))
  replace HE := Lib.hid (HE.out.next hb)
  clear hb
  go_wp2_with fail
  go_ret
  exact ⟨rfl, HW.out⟩
set_option maxRecDepth 100000 in
set_option maxHeartbeats 800000 in
theorem ord_out4 (x y z : Rv) (w : World) (hE : Env w) (h18 : (∀ W, Calls Tryz.prog 6 #[.agg #[.bool x.neg, .string x.n, .string x.d], .int .i64 25] W fun e w' => e = .returned (.bool true) ∧ Below W.heap.size W w')) (h22 : (∀ W, Calls Tryz.prog 6 #[.agg #[.bool y.neg, .string y.n, .string y.d], .int .i64 25] W fun e w' => e = .returned (.bool true) ∧ Below W.heap.size W w')) (h27 : (∀ W, Calls Tryz.prog 6 #[.agg #[.bool z.neg, .string z.n, .string z.d], .int .i64 25] W fun e w' => e = .returned (.bool true) ∧ Below W.heap.size W w')) (h32 : (∀ W, Calls Tryz.prog 17 #[.agg #[.bool x.neg, .string x.n, .string x.d]] W fun e w' => e = .returned (.bool true) ∧ Below W.heap.size W w')) (h37 : (∀ W, Calls Tryz.prog 17 #[.agg #[.bool y.neg, .string y.n, .string y.d]] W fun e w' => e = .returned (.bool false) ∧ Below W.heap.size W w')) : Calls Tryz.prog 5 #[.agg #[.bool x.neg, .string x.n, .string x.d], .agg #[.bool y.neg, .string y.n, .string y.d], .agg #[.bool z.neg, .string z.n, .string z.d]] w fun e w' => e = .returned (.bool true) ∧ Below w.heap.size w w' := by
  obtain ⟨W0, hW0, kx, ky, kz, kw⟩ := three_vars w 23 23 23 [.bool x.neg, .string x.n, .string x.d] [.bool y.neg, .string y.n, .string y.d] [.bool z.neg, .string z.n, .string z.d]
  have HX := Lib.hid kx
  have HY := Lib.hid ky
  have HC := Lib.hid kz
  have HW := Lib.hid kw
  have HE := Lib.hid (hE.next kw)
  have HE0 := Lib.hid hE
  clear kx ky kz kw hE
  have F18 := Lib.hid h18
  have F22 := Lib.hid h22
  have F27 := Lib.hid h27
  have F32 := Lib.hid h32
  have F37 := Lib.hid h37
  clear h18 h22 h27 h32 h37
  go_enter Tryz.func5, Tryz.ntmps5
  go_wp2_with fail
  try rw [← hW0]
  clear hW0
  go_wp2_with (first | (refine wpList_dst 17 rfl ?_; refine wpList_run 17 rfl rfl _ (exec_load 23 (.tmp 3) rfl _ (.agg #[.bool x.neg, .string x.n, .string x.d]) rfl (run_load_part _ 23 _ 0 3 _ [.bool x.neg, .string x.n, .string x.d] _ HX.out (by simp) Tryz.underlying23 rfl size_api_Rat)) ?_; go_frame))
  refine (F18.out _).mono ?_
  rintro e w1 ⟨rfl, hb⟩
  replace HX := Lib.hid (HX.out.next hb)
  replace HY := Lib.hid (HY.out.next hb)
  replace HC := Lib.hid (HC.out.next hb)
  replace HW := Lib.hid (HW.out.trans (hb.mono HW.out.size))
  replace HE := Lib.hid (HE.out.next hb)
  clear hb
  go_wp2_with (first | (refine wpList_dst 21 rfl ?_; refine wpList_runG 21 rfl rfl _ (exec_load 23 (.tmp 4) rfl _ (.agg #[.bool y.neg, .string y.n, .string y.d]) rfl (run_load_part _ 23 _ 0 3 _ [.bool y.neg, .string y.n, .string y.d] _ HY.out (by simp) Tryz.underlying23 rfl size_api_Rat)) ?_; go_frame))
  refine (F22.out _).mono ?_
  rintro e w2 ⟨rfl, hb⟩
  replace HX := Lib.hid (HX.out.next hb)
  replace HY := Lib.hid (HY.out.next hb)
  replace HC := Lib.hid (HC.out.next hb)
  replace HW := Lib.hid (HW.out.trans (hb.mono HW.out.size))
  replace HE := Lib.hid (HE.out.next hb)
  clear hb
  go_wp2_with (first | (refine wpList_dst 26 rfl ?_; refine wpList_runG 26 rfl rfl _ (exec_load 23 (.tmp 5) rfl _ (.agg #[.bool z.neg, .string z.n, .string z.d]) rfl (run_load_part _ 23 _ 0 3 _ [.bool z.neg, .string z.n, .string z.d] _ HC.out (by simp) Tryz.underlying23 rfl size_api_Rat)) ?_; go_frame))
  refine (F27.out _).mono ?_
  rintro e w3 ⟨rfl, hb⟩
  replace HX := Lib.hid (HX.out.next hb)
  replace HY := Lib.hid (HY.out.next hb)
  replace HC := Lib.hid (HC.out.next hb)
  replace HW := Lib.hid (HW.out.trans (hb.mono HW.out.size))
  replace HE := Lib.hid (HE.out.next hb)
  clear hb
  go_wp2_with (first | (refine wpList_dst 31 rfl ?_; refine wpList_runG 31 rfl rfl _ (exec_load 23 (.tmp 3) rfl _ (.agg #[.bool x.neg, .string x.n, .string x.d]) rfl (run_load_part _ 23 _ 0 3 _ [.bool x.neg, .string x.n, .string x.d] _ HX.out (by simp) Tryz.underlying23 rfl size_api_Rat)) ?_; go_frame))
  refine (F32.out _).mono ?_
  rintro e w4 ⟨rfl, hb⟩
  replace HX := Lib.hid (HX.out.next hb)
  replace HY := Lib.hid (HY.out.next hb)
  replace HC := Lib.hid (HC.out.next hb)
  replace HW := Lib.hid (HW.out.trans (hb.mono HW.out.size))
  replace HE := Lib.hid (HE.out.next hb)
  clear hb
  go_wp2_with (first | (refine wpList_dst 36 rfl ?_; refine wpList_runG 36 rfl rfl _ (exec_load 23 (.tmp 4) rfl _ (.agg #[.bool y.neg, .string y.n, .string y.d]) rfl (run_load_part _ 23 _ 0 3 _ [.bool y.neg, .string y.n, .string y.d] _ HY.out (by simp) Tryz.underlying23 rfl size_api_Rat)) ?_; go_frame))
  refine (F37.out _).mono ?_
  rintro e w5 ⟨rfl, hb⟩
  replace HX := Lib.hid (HX.out.next hb)
  replace HY := Lib.hid (HY.out.next hb)
  replace HC := Lib.hid (HC.out.next hb)
  replace HW := Lib.hid (HW.out.trans (hb.mono HW.out.size))
  replace HE := Lib.hid (HE.out.next hb)
  clear hb
  go_wp2_with fail
  refine ((qsanity_any _ HE.out)).mono ?_
  rintro e w6 ⟨rfl, hb⟩
  replace HX := Lib.hid (HX.out.next hb)
  replace HY := Lib.hid (HY.out.next hb)
  replace HC := Lib.hid (HC.out.next hb)
  replace HW := Lib.hid (HW.out.trans (hb.mono HW.out.size))
  replace HE := Lib.hid (HE.out.next hb)
  clear hb
  go_wp2_with fail
  go_ret
  exact ⟨rfl, HW.out⟩
set_option maxRecDepth 100000 in
set_option maxHeartbeats 800000 in
theorem ord_out5 (x y z : Rv) (w : World) (hE : Env w) (h18 : (∀ W, Calls Tryz.prog 6 #[.agg #[.bool x.neg, .string x.n, .string x.d], .int .i64 25] W fun e w' => e = .returned (.bool true) ∧ Below W.heap.size W w')) (h22 : (∀ W, Calls Tryz.prog 6 #[.agg #[.bool y.neg, .string y.n, .string y.d], .int .i64 25] W fun e w' => e = .returned (.bool true) ∧ Below W.heap.size W w')) (h27 : (∀ W, Calls Tryz.prog 6 #[.agg #[.bool z.neg, .string z.n, .string z.d], .int .i64 25] W fun e w' => e = .returned (.bool true) ∧ Below W.heap.size W w')) (h32 : (∀ W, Calls Tryz.prog 17 #[.agg #[.bool x.neg, .string x.n, .string x.d]] W fun e w' => e = .returned (.bool true) ∧ Below W.heap.size W w')) (h37 : (∀ W, Calls Tryz.prog 17 #[.agg #[.bool y.neg, .string y.n, .string y.d]] W fun e w' => e = .returned (.bool true) ∧ Below W.heap.size W w')) (h42 : (∀ W, Calls Tryz.prog 17 #[.agg #[.bool z.neg, .string z.n, .string z.d]] W fun e w' => e = .returned (.bool false) ∧ Below W.heap.size W w')) : Calls Tryz.prog 5 #[.agg #[.bool x.neg, .string x.n, .string x.d], .agg #[.bool y.neg, .string y.n, .string y.d], .agg #[.bool z.neg, .string z.n, .string z.d]] w fun e w' => e = .returned (.bool true) ∧ Below w.heap.size w w' := by
  obtain ⟨W0, hW0, kx, ky, kz, kw⟩ := three_vars w 23 23 23 [.bool x.neg, .string x.n, .string x.d] [.bool y.neg, .string y.n, .string y.d] [.bool z.neg, .string z.n, .string z.d]
  have HX := Lib.hid kx
  have HY := Lib.hid ky
  have HC := Lib.hid kz
  have HW := Lib.hid kw
  have HE := Lib.hid (hE.next kw)
  have HE0 := Lib.hid hE
  clear kx ky kz kw hE
  have F18 := Lib.hid h18
  have F22 := Lib.hid h22
  have F27 := Lib.hid h27
  have F32 := Lib.hid h32
  have F37 := Lib.hid h37
  have F42 := Lib.hid h42
  clear h18 h22 h27 h32 h37 h42
  go_enter Tryz.func5, Tryz.ntmps5
  go_wp2_with fail
  try rw [← hW0]
  clear hW0
  go_wp2_with (first | (refine wpList_dst 17 rfl ?_; refine wpList_run 17 rfl rfl _ (exec_load 23 (.tmp 3) rfl _ (.agg #[.bool x.neg, .string x.n, .string x.d]) rfl (run_load_part _ 23 _ 0 3 _ [.bool x.neg, .string x.n, .string x.d] _ HX.out (by simp) Tryz.underlying23 rfl size_api_Rat)) ?_; go_frame))
  refine (F18.out _).mono ?_
  rintro e w1 ⟨rfl, hb⟩
  replace HX := Lib.hid (HX.out.next hb)
  replace HY := Lib.hid (HY.out.next hb)
  replace HC := Lib.hid (HC.out.next hb)
  replace HW := Lib.hid (HW.out.trans (hb.mono HW.out.size))
  replace HE := Lib.hid (HE.out.next hb)
  clear hb
  go_wp2_with (first | (refine wpList_dst 21 rfl ?_; refine wpList_runG 21 rfl rfl _ (exec_load 23 (.tmp 4) rfl _ (.agg #[.bool y.neg, .string y.n, .string y.d]) rfl (run_load_part _ 23 _ 0 3 _ [.bool y.neg, .string y.n, .string y.d] _ HY.out (by simp) Tryz.underlying23 rfl size_api_Rat)) ?_; go_frame))
  refine (F22.out _).mono ?_
  rintro e w2 ⟨rfl, hb⟩
  replace HX := Lib.hid (HX.out.next hb)
  replace HY := Lib.hid (HY.out.next hb)
  replace HC := Lib.hid (HC.out.next hb)
  replace HW := Lib.hid (HW.out.trans (hb.mono HW.out.size))
  replace HE := Lib.hid (HE.out.next hb)
  clear hb
  go_wp2_with (first | (refine wpList_dst 26 rfl ?_; refine wpList_runG 26 rfl rfl _ (exec_load 23 (.tmp 5) rfl _ (.agg #[.bool z.neg, .string z.n, .string z.d]) rfl (run_load_part _ 23 _ 0 3 _ [.bool z.neg, .string z.n, .string z.d] _ HC.out (by simp) Tryz.underlying23 rfl size_api_Rat)) ?_; go_frame))
  refine (F27.out _).mono ?_
  rintro e w3 ⟨rfl, hb⟩
  replace HX := Lib.hid (HX.out.next hb)
  replace HY := Lib.hid (HY.out.next hb)
  replace HC := Lib.hid (HC.out.next hb)
  replace HW := Lib.hid (HW.out.trans (hb.mono HW.out.size))
  replace HE := Lib.hid (HE.out.next hb)
  clear hb
  go_wp2_with (first | (refine wpList_dst 31 rfl ?_; refine wpList_runG 31 rfl rfl _ (exec_load 23 (.tmp 3) rfl _ (.agg #[.bool x.neg, .string x.n, .string x.d]) rfl (run_load_part _ 23 _ 0 3 _ [.bool x.neg, .string x.n, .string x.d] _ HX.out (by simp) Tryz.underlying23 rfl size_api_Rat)) ?_; go_frame))
  refine (F32.out _).mono ?_
  rintro e w4 ⟨rfl, hb⟩
  replace HX := Lib.hid (HX.out.next hb)
  replace HY := Lib.hid (HY.out.next hb)
  replace HC := Lib.hid (HC.out.next hb)
  replace HW := Lib.hid (HW.out.trans (hb.mono HW.out.size))
  replace HE := Lib.hid (HE.out.next hb)
  clear hb
  go_wp2_with (first | (refine wpList_dst 36 rfl ?_; refine wpList_runG 36 rfl rfl _ (exec_load 23 (.tmp 4) rfl _ (.agg #[.bool y.neg, .string y.n, .string y.d]) rfl (run_load_part _ 23 _ 0 3 _ [.bool y.neg, .string y.n, .string y.d] _ HY.out (by simp) Tryz.underlying23 rfl size_api_Rat)) ?_; go_frame))
  refine (F37.out _).mono ?_
  rintro e w5 ⟨rfl, hb⟩
  replace HX := Lib.hid (HX.out.next hb)
  replace HY := Lib.hid (HY.out.next hb)
  replace HC := Lib.hid (HC.out.next hb)
  replace HW := Lib.hid (HW.out.trans (hb.mono HW.out.size))
  replace HE := Lib.hid (HE.out.next hb)
  clear hb
  go_wp2_with (first | (refine wpList_dst 41 rfl ?_; refine wpList_runG 41 rfl rfl _ (exec_load 23 (.tmp 5) rfl _ (.agg #[.bool z.neg, .string z.n, .string z.d]) rfl (run_load_part _ 23 _ 0 3 _ [.bool z.neg, .string z.n, .string z.d] _ HC.out (by simp) Tryz.underlying23 rfl size_api_Rat)) ?_; go_frame))
  refine (F42.out _).mono ?_
  rintro e w6 ⟨rfl, hb⟩
  replace HX := Lib.hid (HX.out.next hb)
  replace HY := Lib.hid (HY.out.next hb)
  replace HC := Lib.hid (HC.out.next hb)
  replace HW := Lib.hid (HW.out.trans (hb.mono HW.out.size))
  replace HE := Lib.hid (HE.out.next hb)
  clear hb
  go_wp2_with fail
  refine ((qsanity_any _ HE.out)).mono ?_
  rintro e w7 ⟨rfl, hb⟩
  replace HX := Lib.hid (HX.out.next hb)
  replace HY := Lib.hid (HY.out.next hb)
  replace HC := Lib.hid (HC.out.next hb)
  replace HW := Lib.hid (HW.out.trans (hb.mono HW.out.size))
  replace HE := Lib.hid (HE.out.next hb)
  clear hb
  go_wp2_with fail
  go_ret
  exact ⟨rfl, HW.out⟩
end Go.Proofs.YtibfmcohodhkbaaGreatDoor
