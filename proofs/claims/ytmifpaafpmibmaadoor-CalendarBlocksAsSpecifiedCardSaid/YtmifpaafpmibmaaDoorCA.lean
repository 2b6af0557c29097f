/- Valid and Parent. -/
import Derived.Test.YtmifpaafpmibmaaDoorC9
import Derived.Deep.QuietTactic
import Derived.BigQuiet
namespace Go.Proofs.YtmifpaafpmibmaaDoor
open Go.RowKit Hm Wm Cm

/-- Whether there is such a block. -/
def okBin (l f t : Int) : Prop := ∃ L F : Nat, L ≤ 4 ∧ F < M ∧ l = L ∧ f = F ∧ fl L F = F ∧ t = (nx L F : Nat)
theorem int_flat (W : World) : (isAgg 3).run Tryd.prog W = .ok false W := by kernel_rfl
set_option maxRecDepth 100000 in
set_option maxHeartbeats 1000000 in
theorem valid_bad (l f t : Int) (w : World) (h : ¬ (levB l = true ∧ tikB f = true)) : Calls Tryd.prog 11 #[.agg #[.int .i64 l, .int .i64 f, .int .i64 t]] w fun e w' => e = .returned (.bool false) ∧ Below w.heap.size w w' := by
  have HW := Lib.hid ((Below.refl w.heap.size w).alloc (Nat.le_refl _) (.cells (b3 l f t).toArray 23))
  cases h1 : levB l
  · have HL := fun W => level_any l W
    simp only [h1] at HL
    clear h
    go_enter Tryd.func11, Tryd.ntmps11
    go_wp2
    go_quiet ((go_at_call 20; exact Calls.quiet_of_same ((HL _).mono fun _ _ ⟨he, hw⟩ => ⟨he, hw.symm⟩)))
    go_wp2
    go_ret
    exact ⟨rfl, drewN_below HW.out _⟩
  · cases h2 : tikB f
    · have HL := fun W => level_any l W
      have HT := fun W => tick_any f W
      simp only [h1] at HL
      simp only [h2] at HT
      clear h
      go_enter Tryd.func11, Tryd.ntmps11
      go_wp2
      go_quiet ((first | (go_at_call 20; exact Calls.quiet_of_same ((HL _).mono fun _ _ ⟨he, hw⟩ => ⟨he, hw.symm⟩)) | (go_at_call 21; exact Calls.quiet_of_same ((HT _).mono fun _ _ ⟨he, hw⟩ => ⟨he, hw.symm⟩))))
      go_wp2
      go_ret
      exact ⟨rfl, drewN_below HW.out _⟩
    · exact absurd ⟨h1, h2⟩ h
theorem op_callG {P : Program} {ops : Array Oper} {i : Nat} {oi : Oper} {a : Act} {w : World} {Q : Exit → Act → World → Prop} {K : Act → World → Prop} (d : Option Tmp) {F : FuncId} {xs : Array Operand} {ts : Array TypeId} (hi : ops[i]? = some oi) (hd : oi.dst = d) (hw : Region.wanted oi (yielded ops a.tmps) = true) (ho : oi.op = .call { callee := .value (.func F), args := xs, argTypes := ts })
    {fn : Func} (hf : P.funcs[F]? = some fn) (hn : (fn.name == "runtime.NumGoroutine") = false) (hb : fn.body.isNone = false) (vs : Array Value) (hvs : xs.toList.map a.eval = vs.toList) {R : Ending → World → Prop} (hc : Calls P F vs w R)
    (h : ∀ e w', R e w' → ∃ v, e = .returned v ∧ K (a.put d v) w') : wpOp P ops Q i K a w := by
  subst hd
  unfold wpOp
  rw [hi]
  dsimp only
  rw [if_pos hw]
  exact .inl (wp_call_fn ho hf hn hb vs hvs hc h)
theorem op_valueG {P : Program} {ops : Array Oper} {i : Nat} {oi : Oper} {a : Act} {w : World} {Q : Exit → Act → World → Prop} {K : Act → World → Prop} (d : Option Tmp) (hi : ops[i]? = some oi) (hd : oi.dst = d) (hw : Region.wanted oi (yielded ops a.tmps) = true) (v : Value) (hrun : (execOp a.eval oi).run P w = .ok (.value v) w)
    (h : K (a.put d v) w) : wpOp P ops Q i K a w := by
  subst hd
  unfold wpOp
  rw [hi]
  dsimp only
  rw [if_pos hw]
  refine .inl ?_
  unfold Oper.wp
  rw [hrun]
  exact h
theorem run_load_cell {W : World} {g o : Nat} {v : Value} {ty : TypeId} (hag : ∀ W, (isAgg ty).run Tryd.prog W = .ok false W) (h : W.cell? ⟨g, o, none⟩ = some v) : (Instr.loadAt ty (.pointer (some ⟨g, o, none⟩))).run Tryd.prog W = .ok v W := by
  simp [Instr.loadAt, Instr.sureAddr, loadVar, hag, run_load, h]
theorem exec_loadI {oi : Oper} {a : Act} {w : World} {g o : Nat} (x : Operand) (ho : oi.op = .load 3 x) (v : Value) (hx : a.eval x = .pointer (some ⟨g, o, none⟩)) (h : w.cell? ⟨g, o, none⟩ = some v) : (execOp a.eval oi).run Tryd.prog w = .ok (.value v) w :=
  exec_load 3 x ho _ _ hx (run_load_cell int_flat h)
theorem exec_pickT {P : Program} {oi : Oper} {a : Act} {w : World} (x y z : Operand) (ho : oi.op = .pick x y z) (v : Value) (hx : a.eval x = .bool true) (hy : a.eval y = v) : (execOp a.eval oi).run P w = .ok (.value v) w := by
  subst hy
  simp [execOp, ho, hx, asBool]
theorem bn_eqS (l f t a b : Int) (W : World) : (binOp .eql 23 (.agg #[.int .i64 l, .int .i64 f, .int .i64 t]) (.agg #[.int .i64 l, .int .i64 a, .int .i64 b])).run Tryd.prog W = .ok (.bool (decide (f = a ∧ t = b))) W := by
  rw [bn_eq]
  simp
set_option maxRecDepth 100000 in
set_option maxHeartbeats 1000000 in
theorem valid_raw (l f t a b : Int) (w : World) (h1 : levB l = true) (h2 : tikB f = true) (h3 : ∀ W, Lens W → Calls Tryd.prog 22 #[.int .i64 l, .int .i64 f] W fun e w' => e = .returned (bV l a b) ∧ Below W.heap.size W w') (hL : Lens w) : Calls Tryd.prog 11 #[.agg #[.int .i64 l, .int .i64 f, .int .i64 t]] w fun e w' => e = .returned (.bool (decide (a = f ∧ b = t))) ∧ Below w.heap.size w w' := by
  have HW := Lib.hid ((Below.refl w.heap.size w).alloc (Nat.le_refl _) (.cells (b3 l f t).toArray 23))
  have HX := Lib.hid (Blk.new w 23 (b3 l f t))
  have HN := Lib.hid (hL.next HW.out)
  have HL := Lib.hid (level_any l)
  have HT := Lib.hid (tick_any f)
  have HF := Lib.hid h3
  obtain ⟨r, hr⟩ : ∃ r, decide (a = f ∧ b = t) = r := ⟨_, rfl⟩
  have HQ := Lib.hid (fun W => (bn_eqS l a b f t W).trans (by rw [hr]))
  rw [hr]
  clear hr
  rw [h1] at HL
  rw [h2] at HT
  clear h3 hL h1 h2
  go_enter Tryd.func11, Tryd.ntmps11
  go_wp2
  generalize w.alloc (.cells #[.int .i64 l, .int .i64 f, .int .i64 t] 23) = W0 at HW HX HN ⊢
  refine late_begin (S := fun _ W => Blk W w.heap.size 23 (b3 l f t)) (by kernel_rfl) ?_
  have hX0 := HX.out.drew
  have hW0 := HW.out.drew
  have hN0 := (show Lens W0.drew from HN.out)
  generalize W0.drew = u0 at hX0 hW0 hN0 ⊢
  clear HX HW HN
  refine late_take [] (i := 0) (some 3) rfl rfl (by first | rfl | kernel_rfl) (by kernel_rfl) (by kernel_rfl) (by kernel_rfl) (by kernel_rfl) (by kernel_rfl) (fun Ls W h => h) (.pointer (some ⟨w.heap.size, 0, none⟩)) (fun _ _ _ h => h) (fun Ls W hl0 hW => exec_fieldAddr 23 (.tmp 1) 0 rfl _ _ rfl (bn_f0 _ _)) hX0 hX0 ?_
  go_frame
  refine late_take [] (i := 1) (some 4) rfl rfl (by first | rfl | kernel_rfl) (by kernel_rfl) (by kernel_rfl) (by kernel_rfl) (by kernel_rfl) (by kernel_rfl) (fun Ls W h => h) (.int .i64 l) (fun _ _ _ h => h) (fun Ls W hl0 hW => exec_loadI (.tmp 3) rfl (.int .i64 l) rfl (hW.cell 0)) hX0 hX0 ?_
  go_frame
  refine late_one (i := 2) (by kernel_rfl) (op_callG (some 5) rfl rfl (by first | rfl | kernel_rfl) rfl Tryd.func20 (by kernel_rfl) (by kernel_rfl) #[.int .i64 l] rfl (HL.out _) ?_)
  rintro e w0 ⟨rfl, h0⟩
  subst h0
  refine ⟨_, rfl, hX0, ?_⟩
  go_frame
  refine late_take [] (i := 3) (some 6) rfl rfl (by first | rfl | kernel_rfl) (by kernel_rfl) (by kernel_rfl) (by kernel_rfl) (by kernel_rfl) (by kernel_rfl) (fun Ls W h => h) (.bool true) (fun _ _ _ h => h) (fun Ls W hl0 hW => exec_move (.tmp 5) rfl _ rfl) hX0 hX0 ?_
  go_frame
  refine late_take [] (i := 4) (some 7) rfl rfl (by first | rfl | kernel_rfl) (by kernel_rfl) (by kernel_rfl) (by kernel_rfl) (by kernel_rfl) (by kernel_rfl) (fun Ls W h => h) (.pointer (some ⟨w.heap.size, 1, none⟩)) (fun _ _ _ h => h) (fun Ls W hl0 hW => exec_fieldAddr 23 (.tmp 1) 1 rfl _ _ rfl (bn_f1 _ _)) hX0 hX0 ?_
  go_frame
  refine late_take [] (i := 5) (some 8) rfl rfl (by first | rfl | kernel_rfl) (by kernel_rfl) (by kernel_rfl) (by kernel_rfl) (by kernel_rfl) (by kernel_rfl) (fun Ls W h => h) (.int .i64 f) (fun _ _ _ h => h) (fun Ls W hl0 hW => exec_loadI (.tmp 7) rfl (.int .i64 f) rfl (hW.cell 1)) hX0 hX0 ?_
  go_frame
  refine late_one (i := 6) (by kernel_rfl) (op_callG (some 9) rfl rfl (by first | rfl | kernel_rfl) rfl Tryd.func21 (by kernel_rfl) (by kernel_rfl) #[.int .i64 f] rfl (HT.out _) ?_)
  rintro e w0 ⟨rfl, h0⟩
  subst h0
  refine ⟨_, rfl, hX0, ?_⟩
  go_frame
  refine late_take [] (i := 7) (some 10) rfl rfl (by first | rfl | kernel_rfl) (by kernel_rfl) (by kernel_rfl) (by kernel_rfl) (by kernel_rfl) (by kernel_rfl) (fun Ls W h => h) (.bool true) (fun _ _ _ h => h) (fun Ls W hl0 hW => exec_pickT _ _ _ rfl (.bool true) rfl rfl) hX0 hX0 ?_
  go_frame
  refine late_take [] (i := 8) (some 11) rfl rfl (by first | rfl | kernel_rfl) (by kernel_rfl) (by kernel_rfl) (by kernel_rfl) (by kernel_rfl) (by kernel_rfl) (fun Ls W h => h) (.bool true) (fun _ _ _ h => h) (fun Ls W hl0 hW => exec_move (.tmp 10) rfl _ rfl) hX0 hX0 ?_
  go_frame
  refine late_take [] (i := 9) (some 12) rfl rfl (by first | rfl | kernel_rfl) (by kernel_rfl) (by kernel_rfl) (by kernel_rfl) (by kernel_rfl) (by kernel_rfl) (fun Ls W h => h) (.pointer (some ⟨w.heap.size, 0, none⟩)) (fun _ _ _ h => h) (fun Ls W hl0 hW => exec_fieldAddr 23 (.tmp 1) 0 rfl _ _ rfl (bn_f0 _ _)) hX0 hX0 ?_
  go_frame
  refine late_take [] (i := 10) (some 13) rfl rfl (by first | rfl | kernel_rfl) (by kernel_rfl) (by kernel_rfl) (by kernel_rfl) (by kernel_rfl) (by kernel_rfl) (fun Ls W h => h) (.int .i64 l) (fun _ _ _ h => h) (fun Ls W hl0 hW => exec_loadI (.tmp 12) rfl (.int .i64 l) rfl (hW.cell 0)) hX0 hX0 ?_
  go_frame
  refine late_take [] (i := 11) (some 14) rfl rfl (by first | rfl | kernel_rfl) (by kernel_rfl) (by kernel_rfl) (by kernel_rfl) (by kernel_rfl) (by kernel_rfl) (fun Ls W h => h) (.pointer (some ⟨w.heap.size, 1, none⟩)) (fun _ _ _ h => h) (fun Ls W hl0 hW => exec_fieldAddr 23 (.tmp 1) 1 rfl _ _ rfl (bn_f1 _ _)) hX0 hX0 ?_
  go_frame
  refine late_take [] (i := 12) (some 15) rfl rfl (by first | rfl | kernel_rfl) (by kernel_rfl) (by kernel_rfl) (by kernel_rfl) (by kernel_rfl) (by kernel_rfl) (fun Ls W h => h) (.int .i64 f) (fun _ _ _ h => h) (fun Ls W hl0 hW => exec_loadI (.tmp 14) rfl (.int .i64 f) rfl (hW.cell 1)) hX0 hX0 ?_
  go_frame
  refine late_take [] (i := 14) (some 17) rfl rfl (by first | rfl | kernel_rfl) (by kernel_rfl) (by kernel_rfl) (by kernel_rfl) (by kernel_rfl) (by kernel_rfl) (fun Ls W h => h) (.agg #[.int .i64 l, .int .i64 f, .int .i64 t]) (fun _ _ _ h => h) (fun Ls W hl0 hW => exec_load 23 (.tmp 1) rfl _ _ rfl (run_load_part W 23 _ 0 3 23 (b3 l f t) _ hW (by simp) Tryd.underlying23 rfl bn_size)) hX0 hX0 ?_
  go_frame
  refine late_one (i := 13) (by kernel_rfl) (op_callG (some 16) rfl rfl (by first | rfl | kernel_rfl) rfl Tryd.func22 (by kernel_rfl) (by kernel_rfl) #[.int .i64 l, .int .i64 f] rfl (HF.out _ hN0) ?_)
  rintro e u1 ⟨rfl, hb1⟩
  have hX1 := hX0.next hb1
  have hW1 := hW0.trans (hb1.mono hW0.size)
  have hN1 := hN0.next hb1
  refine ⟨_, rfl, hX1, ?_⟩
  go_frame
  clear hX0 hW0 hN0 hb1
  refine late_one (i := 15) (by kernel_rfl) (op_valueG (some 18) rfl rfl (by first | rfl | kernel_rfl) (.bool r) (exec_bin .eql 23 _ (.tmp 16) (.tmp 17) rfl _ _ _ rfl rfl (bn_guard _ _ _ _ _ _) (HQ.out _)) ⟨hX1, ?_⟩)
  go_frame
  refine late_one (i := 16) (by kernel_rfl) (op_valueG (some 19) rfl rfl (by first | rfl | kernel_rfl) (.bool r) (exec_pickT _ _ _ rfl _ rfl rfl) ⟨hX1, ?_⟩)
  go_frame
  refine late_one (i := 17) (by kernel_rfl) (op_valueG (some 2) rfl rfl (by first | rfl | kernel_rfl) (.bool r) (exec_assign (.tmp 19) rfl _ rfl) ⟨hX1, late_done (by kernel_rfl) ?_ _⟩)
  go_frame
  have HX := Lib.hid hX1
  have HW := Lib.hid hW1
  have HN := Lib.hid hN1
  clear hX1 hW1 hN1
  go_wp2
  go_ret
  exact ⟨rfl, HW.out⟩
theorem valid_yes (L F : Nat) (l f t : Int) (w : World) (hL : Lens w) (h4 : L ≤ 4) (hF : F < M) (hl : l = L) (hf : f = F) : Calls Tryd.prog 11 #[.agg #[.int .i64 l, .int .i64 f, .int .i64 t]] w fun e w' => e = .returned (.bool (decide (((fl L F : Nat) : Int) = f ∧ ((nx L F : Nat) : Int) = t))) ∧ Below w.heap.size w w' := by
  have hM : M = 1402560 := rfl
  subst hl hf
  exact valid_raw L F t (fl L F : Nat) (nx L F : Nat) w (decide_eq_true (by omega)) (decide_eq_true (by omega)) (fun W h => find_any L F W h h4 hF) hL
def okB (l f t : Int) : Bool := (levB l && tikB f) && decide (((fl l.toNat f.toNat : Nat) : Int) = f ∧ ((nx l.toNat f.toNat : Nat) : Int) = t)
theorem okB_iff (l f t : Int) : okB l f t = true ↔ okBin l f t := by
  have hM : M = 1402560 := rfl
  unfold okB levB tikB
  simp only [Bool.and_eq_true, decide_eq_true_eq]
  constructor
  · rintro ⟨⟨a1, a2⟩, a3, a4⟩
    exact ⟨l.toNat, f.toNat, by omega, by omega, by omega, by omega, by omega, by omega⟩
  · rintro ⟨L, F, a1, a2, a3, a4, a5, a6⟩
    obtain rfl : L = l.toNat := by omega
    obtain rfl : F = f.toNat := by omega
    exact ⟨⟨by omega, by omega⟩, by omega, by omega⟩
theorem valid_any (l f t : Int) (w : World) (hL : Lens w) : Calls Tryd.prog 11 #[.agg #[.int .i64 l, .int .i64 f, .int .i64 t]] w fun e w' => e = .returned (.bool (okB l f t)) ∧ Below w.heap.size w w' := by
  have hM : M = 1402560 := rfl
  unfold okB
  by_cases h : levB l = true ∧ tikB f = true
  · have h1 : 0 ≤ l ∧ l ≤ 4 := by have := h.1; unfold levB at this; exact of_decide_eq_true this
    have h2 : 0 ≤ f ∧ f < 1402560 := by have := h.2; unfold tikB at this; exact of_decide_eq_true this
    rw [h.1, h.2, Bool.true_and, Bool.true_and]
    exact valid_yes l.toNat f.toNat l f t w hL (by omega) (by omega) (by omega) (by omega)
  · have e : (levB l && tikB f) = false := by
      cases h1 : levB l
      · rfl
      · cases h2 : tikB f
        · rfl
        · exact absurd ⟨h1, h2⟩ h
    rw [e, Bool.false_and]
    exact valid_bad l f t w h
theorem two_bins (w : World) (xs zs : List Value) : ∃ W, W = ((w.alloc (.cells xs.toArray 23)).alloc (.cells zs.toArray 23)) ∧ Blk W w.heap.size 23 xs ∧ Blk W (w.heap.size + 1) 23 zs ∧ Below w.heap.size w W := by
  refine ⟨_, rfl, (Blk.new w _ xs).alloc _, ?_, ((Below.refl w.heap.size w).alloc (Nat.le_refl _) _).alloc (by simp) _⟩
  have := Blk.new (w.alloc (.cells xs.toArray 23)) 23 zs
  rwa [World.size_alloc] at this
set_option maxRecDepth 100000 in
set_option maxHeartbeats 1000000 in
theorem parent_bad (l f t : Int) (hv : okB l f t = false) (w : World) (hL : Lens w) : Calls Tryd.prog 7 #[.agg #[.int .i64 l, .int .i64 f, .int .i64 t]] w fun e w' => e = .returned (.tuple #[bV 0 0 0, .int .i64 1]) ∧ Below w.heap.size w w' := by
  obtain ⟨W0, hW0, kx, kz, kw⟩ := two_bins w (b3 l f t) bZ
  have HX := Lib.hid kx
  have HZ := Lib.hid kz
  have HW := Lib.hid kw
  have HN := Lib.hid (hL.next kw)
  have HV := Lib.hid (fun W h => valid_any l f t W h)
  rw [hv] at HV
  clear kx kz kw hL hv
  go_enter Tryd.func7, Tryd.ntmps7
  go_wp2_with fail
  rw [← hW0]
  clear hW0
  refine (HV.out _ HN.out).mono ?_
  rintro e w1 ⟨rfl, hb⟩
  replace HX := Lib.hid (HX.out.next hb)
  replace HZ := Lib.hid (HZ.out.next hb)
  replace HN := Lib.hid (HN.out.next hb)
  replace HW := Lib.hid (HW.out.trans (hb.mono HW.out.size))
  clear hb
  go_wp2_with (first | (refine wpList_dst 7 rfl ?_; refine wpList_run 7 rfl rfl _ (exec_build0 23 rfl _ (bn_nil _)) ?_) | (refine wpList_store_all rfl 23 (.tmp 2) (.tmp 7) rfl (w.heap.size + 1) _ bZ (bZ) rfl rfl HZ.out rfl bn_size (b_one _ _ _) ?_; intro w9 HK9 ho9; have HO9 := Lib.hid ho9; clear ho9))
  exact bodyPost_ret (results_bt rfl _ _ (w.heap.size + 1) _ (bZ) (.int .i64 1) _ rfl rfl HK9.out Tryd.underlying23 rfl bn_size) rfl ⟨rfl, HW.out.trans (HO9.out.below (Nat.le_succ _))⟩
set_option maxRecDepth 100000 in
set_option maxHeartbeats 1000000 in
theorem parent_top (l f t : Int) (hv : okB l f t = true) (h4 : l = 4) (w : World) (hL : Lens w) : Calls Tryd.prog 7 #[.agg #[.int .i64 l, .int .i64 f, .int .i64 t]] w fun e w' => e = .returned (.tuple #[bV 0 0 0, .int .i64 8]) ∧ Below w.heap.size w w' := by
  subst h4
  obtain ⟨W0, hW0, kx, kz, kw⟩ := two_bins w (b3 4 f t) bZ
  have HX := Lib.hid kx
  have HZ := Lib.hid kz
  have HW := Lib.hid kw
  have HN := Lib.hid (hL.next kw)
  have HV := Lib.hid (fun W h => valid_any 4 f t W h)
  rw [hv] at HV
  clear kx kz kw hL hv
  go_enter Tryd.func7, Tryd.ntmps7
  go_wp2_with fail
  rw [← hW0]
  clear hW0
  refine (HV.out _ HN.out).mono ?_
  rintro e w1 ⟨rfl, hb⟩
  replace HX := Lib.hid (HX.out.next hb)
  replace HZ := Lib.hid (HZ.out.next hb)
  replace HN := Lib.hid (HN.out.next hb)
  replace HW := Lib.hid (HW.out.trans (hb.mono HW.out.size))
  clear hb
  go_wp2_with (first | (refine wpList_dst 8 rfl ?_; refine wpList_run 8 rfl rfl _ (exec_fieldAddr 23 (.tmp 1) 0 rfl _ _ rfl (bn_f0 _ _)) ?_) | (refine wpList_dst 9 rfl ?_; refine wpList_run 9 rfl rfl _ (exec_loadI (.tmp 8) rfl (.int .i64 4) rfl (HX.out.cell 0)) ?_) | (refine wpList_dst 11 rfl ?_; refine wpList_run 11 rfl rfl _ (exec_build0 23 rfl _ (bn_nil _)) ?_) | (refine wpList_store_all rfl 23 (.tmp 2) (.tmp 11) rfl (w.heap.size + 1) _ bZ (bZ) rfl rfl HZ.out rfl bn_size (b_one _ _ _) ?_; intro w9 HK9 ho9; have HO9 := Lib.hid ho9; clear ho9))
  exact bodyPost_ret (results_bt rfl _ _ (w.heap.size + 1) _ (bZ) (.int .i64 8) _ rfl rfl HK9.out Tryd.underlying23 rfl bn_size) rfl ⟨rfl, HW.out.trans (HO9.out.below (Nat.le_succ _))⟩
set_option maxRecDepth 100000 in
set_option maxHeartbeats 1000000 in
theorem parent_raw (l f t : Int) (a b : Int) (hv : okB l f t = true) (h4 : (l == 4) = false) (hl : 0 ≤ l ∧ l ≤ 4) (h3 : ∀ W, Lens W → Calls Tryd.prog 22 #[.int .i64 (l + 1), .int .i64 f] W fun e w' => e = .returned (bV (l + 1) a b) ∧ Below W.heap.size W w') (w : World) (hL : Lens w) : Calls Tryd.prog 7 #[.agg #[.int .i64 l, .int .i64 f, .int .i64 t]] w fun e w' => e = .returned (.tuple #[bV (l + 1) a b, .int .i64 0]) ∧ Below w.heap.size w w' := by
  have HF := Lib.hid h3
  obtain ⟨hl0, hl4⟩ := hl
  clear h3
  obtain ⟨W0, hW0, kx, kz, kw⟩ := two_bins w (b3 l f t) bZ
  have HX := Lib.hid kx
  have HZ := Lib.hid kz
  have HW := Lib.hid kw
  have HN := Lib.hid (hL.next kw)
  have HV := Lib.hid (fun W h => valid_any l f t W h)
  rw [hv] at HV
  clear kx kz kw hL hv
  go_enter Tryd.func7, Tryd.ntmps7
  go_wp2_with fail
  rw [← hW0]
  clear hW0
  refine (HV.out _ HN.out).mono ?_
  rintro e w1 ⟨rfl, hb⟩
  replace HX := Lib.hid (HX.out.next hb)
  replace HZ := Lib.hid (HZ.out.next hb)
  replace HN := Lib.hid (HN.out.next hb)
  replace HW := Lib.hid (HW.out.trans (hb.mono HW.out.size))
  clear hb
  go_wp2_with (first | (refine wpList_dst 8 rfl ?_; refine wpList_run 8 rfl rfl _ (exec_fieldAddr 23 (.tmp 1) 0 rfl _ _ rfl (bn_f0 _ _)) ?_) | (refine wpList_dst 9 rfl ?_; refine wpList_run 9 rfl rfl _ (exec_loadI (.tmp 8) rfl (.int .i64 l) rfl (HX.out.cell 0)) ?_) | (refine wpList_dst 12 rfl ?_; refine wpList_run 12 rfl rfl _ (exec_fieldAddr 23 (.tmp 1) 0 rfl _ _ rfl (bn_f0 _ _)) ?_) | (refine wpList_dst 13 rfl ?_; refine wpList_run 13 rfl rfl _ (exec_loadI (.tmp 12) rfl (.int .i64 l) rfl (HX.out.cell 0)) ?_) | (refine wpList_dst 15 rfl ?_; refine wpList_run 15 rfl rfl _ (exec_fieldAddr 23 (.tmp 1) 1 rfl _ _ rfl (bn_f1 _ _)) ?_) | (refine wpList_dst 16 rfl ?_; refine wpList_run 16 rfl rfl _ (exec_loadI (.tmp 15) rfl (.int .i64 f) rfl (HX.out.cell 1)) ?_))
  refine (HF.out _ HN.out).mono ?_
  rintro e w2 ⟨rfl, hb⟩
  replace HZ := Lib.hid (HZ.out.next hb)
  replace HW := Lib.hid (HW.out.trans (hb.mono HW.out.size))
  clear hb
  go_wp2_with (first | (refine wpList_store_all rfl 23 (.tmp 2) (.tmp 17) rfl (w.heap.size + 1) _ bZ (b3 (l + 1) a b) rfl rfl HZ.out rfl bn_size (b_one _ _ _) ?_; intro w9 HK9 ho9; have HO9 := Lib.hid ho9; clear ho9))
  exact bodyPost_ret (results_bt rfl _ _ (w.heap.size + 1) _ (b3 (l + 1) a b) (.int .i64 0) _ rfl rfl HK9.out Tryd.underlying23 rfl bn_size) rfl ⟨rfl, HW.out.trans (HO9.out.below (Nat.le_succ _))⟩
end Go.Proofs.YtmifpaafpmibmaaDoor
