/- Variables and function values; the leading bits. -/
import Derived.Test.YtkjnfobaoaaopaaGreatDoorN24
namespace Go.Proofs.YtkjnfobaoaaopaaGreatDoor
open Go.RowKit Hm Wm Wn

theorem run_load_var {W : World} {g : Nat} {T : TypeId} {v : Value} (ty : TypeId) (hag : ∀ W, (isAgg ty).run Tryz.prog W = .ok false W) (h : Blk W g T [v]) : (Instr.loadAt ty (.pointer (some ⟨g, 0, none⟩))).run Tryz.prog W = .ok v W := by
  have hc := h.cell 0
  simp [Instr.loadAt, Instr.sureAddr, loadVar, hag, run_load, hc]
theorem run_store_var {w : World} {g : Nat} {T : TypeId} {v0 : Value} (ty : TypeId) (v : Value) (hb : Blk w g T [v0]) (hi : (Tryz.prog.info? ty).map (·.size) = some 1) (h1 : v.oneCell' = true) (hv : v.cells = #[v]) :
    (Instr.storeAt ty (.pointer (some ⟨g, 0, none⟩)) v).run Tryz.prog w = .ok () (w.setRow g #[v]) := by
  have h := run_storeCells_at Tryz.prog g 0 T [v] 0 #[v0] w hb (by simp) (by intro u hu; rw [List.mem_singleton.1 hu]; exact h1)
  cases hq : Tryz.prog.info? ty with
  | none => simp [hq] at hi
  | some i =>
    have hs : i.size = 1 := by simpa [hq] using hi
    simp at h
    simp [Instr.storeAt, Instr.sureAddr, storeVar, sizeOf, typeInfo, hq, hv, hs, h]
/-- A variable of one cell is stored. -/
theorem wp_store_var {w : World} {op : Oper} {a : Act} {K : Act → World → Prop} {Q : Exit → Act → World → Prop} (ty : TypeId) (x y : Operand) (ho : op.op = .store ty x y)
    (g : Nat) (t : TypeId) (v0 v : Value) (hx : a.eval x = .pointer (some ⟨g, 0, none⟩)) (hy : a.eval y = v) (hb : Blk w g t [v0]) (hsz : (Tryz.prog.info? ty).map (·.size) = some 1) (h1 : v.oneCell' = true) (hv : v.cells = #[v])
    (h : ∀ w', Blk w' g t [v] → Only g w w' → K (a.put op.dst undef) w') : op.wp Tryz.prog a w K Q := by
  have hrun := run_store_var ty v hb hsz h1 hv
  unfold Oper.wp execOp
  simp only [ho, hx, hy, Sem.run_bind, hrun, Result.andThen_ok]
  exact h _ (setRow_heap w g _ _ t _ hb) (Only.setRow w g _)
theorem op_store_var {ops : Array Oper} {i : Nat} {oi : Oper} {a : Act} {w : World} {K : Act → World → Prop} {Q : Exit → Act → World → Prop} (hi : ops[i]? = some oi) (hd : oi.dst = none) (hgd : oi.guard = none) (ty : TypeId) (x y : Operand) (ho : oi.op = .store ty x y)
    (g : Nat) (t : TypeId) (v0 v : Value) (hx : a.eval x = .pointer (some ⟨g, 0, none⟩)) (hy : a.eval y = v) (hb : Blk w g t [v0]) (hsz : (Tryz.prog.info? ty).map (·.size) = some 1) (h1 : v.oneCell' = true) (hv : v.cells = #[v])
    (h : ∀ w', Blk w' g t [v] → Only g w w' → K (a.put none undef) w') : wpOp Tryz.prog ops Q i K a w :=
  op_wp hi hgd (wp_store_var ty x y ho g t v0 v hx hy hb hsz h1 hv (by rw [hd]; exact h))
theorem wpList_store_var {w : World} {ops : Array Oper} {rest : List Oper} {op : Oper} {a : Act} {Q : Exit → Act → World → Prop} (hgd : op.guard = none) (ty : TypeId) (x y : Operand) (ho : op.op = .store ty x y)
    (g : Nat) (t : TypeId) (v0 v : Value) (hx : a.eval x = .pointer (some ⟨g, 0, none⟩)) (hy : a.eval y = v) (hb : Blk w g t [v0]) (hsz : (Tryz.prog.info? ty).map (·.size) = some 1) (h1 : v.oneCell' = true) (hv : v.cells = #[v])
    (h : ∀ w', Hid (Blk w' g t [v]) → Only g w w' → wpList Tryz.prog ops Q rest (a.put op.dst undef) w') : wpList Tryz.prog ops Q (op :: rest) a w :=
  wpList_plain hgd fun _ hK => wp_store_var ty x y ho g t v0 v hx hy hb hsz h1 hv fun w' e1 e2 => hK _ _ (h w' e1 e2)
theorem wpList_load_var {w : World} {ops : Array Oper} {rest : List Oper} {op : Oper} {a : Act} {Q : Exit → Act → World → Prop} (hgd : op.guard = none) (ty : TypeId) (x : Operand) (ho : op.op = .load ty x)
    (g : Nat) (t : TypeId) (v : Value) (hx : a.eval x = .pointer (some ⟨g, 0, none⟩)) (hb : Blk w g t [v]) (hag : ∀ W, (isAgg ty).run Tryz.prog W = .ok false W)
    (h : wpList Tryz.prog ops Q rest (a.put op.dst v) w) : wpList Tryz.prog ops Q (op :: rest) a w := by
  have hrun := run_load_var ty hag hb
  refine wpList_plain hgd fun K hK => ?_
  unfold Oper.wp execOp
  simp only [ho, hx, Sem.run_bind, hrun, Result.andThen_ok]
  exact hK _ _ h
section
variable {P : Program} {md : Region.Mode} {ops : Array Oper} {Q : Exit → Act → World → Prop} {S : World → Prop} {i fuel : Nat} {oi : Oper} {listed : Array Bool} {a : Act} {w : World}
/-- A function value is called. -/
theorem wp_call_val {K : Act → World → Prop} {F : FuncId} {caps : Array Value} (x : Operand) {xs : Array Operand} {ts : Array TypeId} (ho : oi.op = .call { callee := .value x, args := xs, argTypes := ts }) (hx : a.eval x = .func (.func F) #[] caps) {fn : Func} (hf : P.funcs[F]? = some fn) (hn : (fn.name == "runtime.NumGoroutine") = false) (hb : fn.body.isNone = false) (vs : Array Value) (hvs : xs.toList.map a.eval ++ caps.toList = vs.toList)
    {R : Ending → World → Prop} (hc : Calls P F vs w R) (h : ∀ e w', R e w' → ∃ v, e = .returned v ∧ K (a.put oi.dst v) w') : oi.wp P a w K Q := by
  obtain rfl : xs.map a.eval ++ caps = vs := by apply Array.toList_inj.1; simpa using hvs
  have hrun : (execOp a.eval oi).run P w = .ok (.enter F (xs.map a.eval ++ caps)) w := by
    simp [execOp, ho, resolve, invoke, Deferred.ofValue, hx, callFunc_enter hf hn hb]
  unfold Oper.wp
  rw [hrun]
  refine Calls.mono hc fun e w' hR => ?_
  obtain ⟨v, rfl, hk⟩ := h e w' hR
  exact hk
theorem wpList_call_val {rest : List Oper} (hgd : oi.guard = none) {F : FuncId} {caps : Array Value} (x : Operand) {xs : Array Operand} {ts : Array TypeId} (ho : oi.op = .call { callee := .value x, args := xs, argTypes := ts }) (hx : a.eval x = .func (.func F) #[] caps) {fn : Func} (hf : P.funcs[F]? = some fn) (hn : (fn.name == "runtime.NumGoroutine") = false) (hb : fn.body.isNone = false) (vs : Array Value) (hvs : xs.toList.map a.eval ++ caps.toList = vs.toList)
    {R : Ending → World → Prop} (hc : Calls P F vs w R) (h : ∀ e w', R e w' → ∃ v, e = .returned v ∧ wpList P ops Q rest (a.put oi.dst v) w') : wpList P ops Q (oi :: rest) a w :=
  wpList_plain hgd fun _ hK => wp_call_val x ho hx hf hn hb vs hvs hc fun e w' hR => by
    obtain ⟨v, rfl, hk⟩ := h e w' hR
    exact ⟨v, rfl, hK _ _ hk⟩
theorem op_call_val {K : Act → World → Prop} (d : Option Tmp) {F : FuncId} {caps : Array Value} (x : Operand) {xs : Array Operand} {ts : Array TypeId} (hi : ops[i]? = some oi) (hd : oi.dst = d) (hgd : oi.guard = none) (ho : oi.op = .call { callee := .value x, args := xs, argTypes := ts }) (hx : a.eval x = .func (.func F) #[] caps)
    {fn : Func} (hf : P.funcs[F]? = some fn) (hn : (fn.name == "runtime.NumGoroutine") = false) (hb : fn.body.isNone = false) (vs : Array Value) (hvs : xs.toList.map a.eval ++ caps.toList = vs.toList) {R : Ending → World → Prop} (hc : Calls P F vs w R)
    (h : ∀ e w', R e w' → ∃ v, e = .returned v ∧ K (a.put d v) w') : wpOp P ops Q i K a w := by
  subst hd
  exact op_wp hi hgd (wp_call_val x ho hx hf hn hb vs hvs hc h)
end

theorem int_flat (W : World) : (isAgg 3).run Tryz.prog W = .ok false W := by kernel_rfl
theorem exec_loadI {oi : Oper} {a : Act} {w : World} {g o : Nat} (x : Operand) (ho : oi.op = .load 3 x) (v : Value) (hx : a.eval x = .pointer (some ⟨g, o, none⟩)) (h : w.cell? ⟨g, o, none⟩ = some v) : (execOp a.eval oi).run Tryz.prog w = .ok (.value v) w :=
  exec_load 3 x ho _ _ hx (run_load_cell int_flat h)
theorem run_sub2I (n : Nat) (h : 2 ≤ n) (h2 : n ≤ 1000000) (w : World) : (binOp .sub 3 (.int .i64 n) (.int .i64 2)).run Tryz.prog w = .ok (.int .i64 ((n - 2 : Nat) : Int)) w := by
  simp [binOp, go_sem]
  simp [IntKind.wrap, IntKind.bits, IntKind.signed]; omega
theorem digW_getD (N : Nat) : ∀ k, (digW N).getD k 0 = N / B ^ k % B := by
  intro k
  induction k generalizing N with
  | zero =>
    by_cases h : N = 0
    · subst h; rw [digW_zero]; simp
    · rw [digW_pos h]; simp
  | succ k ih =>
    by_cases h : N = 0
    · subst h; rw [digW_zero]; simp
    · rw [digW_pos h, List.getD_cons_succ, ih, Nat.div_div_eq_div_mul, Nat.pow_succ, Nat.mul_comm B]
/-- The leading bits. -/
theorem top_digits {N n s : Nat} (hn : 2 ≤ n) (hs : s ≤ 63) (hN : N < B ^ n) : N / (B ^ (n - 2) * 2 ^ (64 - s)) = (digW N).getD (n - 1) 0 * 2 ^ s + (digW N).getD (n - 2) 0 / 2 ^ (64 - s) := by
  rw [← Nat.div_div_eq_div_mul, digW_getD, digW_getD]
  have e1 : B ^ (n - 1) = B ^ (n - 2) * B := by rw [← Nat.pow_succ]; congr 1; omega
  have e2 : B ^ n = B ^ (n - 2) * (B * B) := by rw [← Nat.mul_assoc, ← Nat.pow_succ, ← Nat.pow_succ]; congr 1; omega
  rw [e1, ← Nat.div_div_eq_div_mul]
  have hM : N / B ^ (n - 2) < B * B := Nat.div_lt_of_lt_mul (by rw [← e2]; exact hN)
  generalize N / B ^ (n - 2) = M at *
  rw [Nat.mod_eq_of_lt (Nat.div_lt_of_lt_mul hM)]
  have e3 : M = M % B + 2 ^ (64 - s) * (M / B * 2 ^ s) := by
    conv => lhs; rw [← Nat.mod_add_div M B]
    rw [← Nat.mul_assoc, Nat.mul_comm (2 ^ (64 - s)), Nat.mul_assoc, Nat.mul_comm (2 ^ (64 - s)), dn_two (by omega), Nat.mul_comm (M / B)]
  conv => lhs; rw [e3]
  rw [Nat.add_mul_div_left _ _ (Nat.two_pow_pos _)]
  omega

set_option maxRecDepth 100000 in
set_option maxHeartbeats 400000 in
theorem at_any (A : Option Addr) (c : Nat) (D : List Nat) (n s gn gs : Nat) (w : World) (hr : RdW w A D) (hD : Dig D) (hn : 2 ≤ n) (hn2 : n ≤ 100000) (hs : s ≤ 63) (hb : D.getD (n - 1) 0 * 2 ^ s < B)
    (h1 : w.cell? ⟨gn, 0, none⟩ = some (.int .i64 (n : Int))) (h2 : w.cell? ⟨gs, 0, none⟩ = some (.int .i64 (s : Int))) :
    Calls Tryz.prog 68 #[.slice A D.length c, .pointer (some ⟨gn, 0, none⟩), .pointer (some ⟨gs, 0, none⟩)] w fun e w' => e = .returned (.int .u64 (D.getD (n - 1) 0 * 2 ^ s + D.getD (n - 2) 0 / 2 ^ (64 - s) : Nat)) ∧ Below w.heap.size w w' := by
  have HD1 := Lib.hid (fun W h => digit_any A c D (n - 1) W h)
  have HD2 := Lib.hid (fun W h => digit_any A c D (n - 2) W h)
  have hx0 : D.getD (n - 2) 0 < B := by
    rw [List.getD_eq_getElem?_getD]
    cases h : D[n - 2]? with
    | none => exact B_pos
    | some v => exact hD v (List.mem_of_getElem? h)
  obtain ⟨x1, hx1⟩ : ∃ x, D.getD (n - 1) 0 = x := ⟨_, rfl⟩
  obtain ⟨x0, hx0e⟩ : ∃ x, D.getD (n - 2) 0 = x := ⟨_, rfl⟩
  rw [hx1] at hb HD1 ⊢
  rw [hx0e] at hx0 HD2 ⊢
  obtain ⟨z, hz⟩ : ∃ z, x1 * 2 ^ s = z := ⟨_, rfl⟩
  obtain ⟨y, hy⟩ : ∃ y, x0 / 2 ^ (64 - s) = y := ⟨_, rfl⟩
  have hlow := dv_low hs hx0
  have hys : y < 2 ^ s := by rw [← hy]; exact hlow.1
  have hzy : z + y < B := by
    have e := dn_two (s := s) (by omega)
    have h3 : x1 < 2 ^ (64 - s) := by
      refine Nat.lt_of_mul_lt_mul_right (a := 2 ^ s) ?_
      rw [Nat.mul_comm (2 ^ (64 - s)), e]; exact hb
    have h4 : (x1 + 1) * 2 ^ s ≤ 2 ^ (64 - s) * 2 ^ s := Nat.mul_le_mul_right _ h3
    rw [Nat.mul_comm (2 ^ (64 - s)), e, Nat.succ_mul, hz] at h4
    omega
  have HSL := Lib.hid (fun W => run_shlI x1 z s W (by omega) (by rw [← hz]; exact Nat.mod_eq_of_lt hb))
  have HSR := Lib.hid (fun W => run_shrI x0 y (64 - s) W (by omega) hy)
  have HOR := Lib.hid (fun W => run_orW z y s W x1 hz hys hzy)
  rw [hz, hy]
  have HRR := Lib.hid hr
  clear hr hD hb hx0 hx1 hx0e hz hy hlow hys hzy
  go_enter Tryz.func68, Tryz.ntmps68
  go_wp2
  refine wp_region_held_drew (S := fun W => (W.cell? ⟨gn, 0, none⟩ = some (.int .i64 (n : Int)) ∧ W.cell? ⟨gs, 0, none⟩ = some (.int .i64 (s : Int))) ∧ RdW W A D ∧ Below w.heap.size w W) (by kernel_rfl) ⟨⟨h1, h2⟩, HRR.out, (Below.refl _ _).drew⟩ (fun hS => ?_)
  generalize w.drew = u0 at hS ⊢
  refine reg_takeG (i := 0) (some 5) rfl rfl rfl (by kernel_rfl) (by kernel_rfl) (by kernel_rfl) (.slice A D.length c) (fun _ _ _ h => h) (fun W hW => exec_move (.tmp 0) rfl _ rfl) hS ?_
  go_frame
  refine reg_takeG (i := 1) (some 6) rfl rfl rfl (by kernel_rfl) (by kernel_rfl) (by kernel_rfl) (.int .i64 n) (fun _ _ _ h => h) (fun W hW => exec_loadI (.tmp 1) rfl _ rfl hW.1.1) hS ?_
  go_frame
  refine reg_takeG (i := 2) (some 7) rfl rfl rfl (by kernel_rfl) (by kernel_rfl) (by kernel_rfl) (.int .i64 ((n - 1 : Nat) : Int)) (fun _ _ _ h => h) (fun W hW => exec_bin .sub 3 _ (.tmp 6) (.const (.int .i64 1)) rfl _ _ _ rfl rfl rfl (run_sub1I n (by omega) (by omega) W)) hS ?_
  go_frame
  refine reg_takeG (i := 4) (some 9) rfl rfl rfl (by kernel_rfl) (by kernel_rfl) (by kernel_rfl) (.int .i64 s) (fun _ _ _ h => h) (fun W hW => exec_loadI (.tmp 2) rfl _ rfl hW.1.2) hS ?_
  go_frame
  refine reg_takeG (i := 6) (some 11) rfl rfl rfl (by kernel_rfl) (by kernel_rfl) (by kernel_rfl) (.slice A D.length c) (fun _ _ _ h => h) (fun W hW => exec_move (.tmp 0) rfl _ rfl) hS ?_
  go_frame
  refine reg_takeG (i := 7) (some 12) rfl rfl rfl (by kernel_rfl) (by kernel_rfl) (by kernel_rfl) (.int .i64 n) (fun _ _ _ h => h) (fun W hW => exec_loadI (.tmp 1) rfl _ rfl hW.1.1) hS ?_
  go_frame
  refine reg_takeG (i := 8) (some 13) rfl rfl rfl (by kernel_rfl) (by kernel_rfl) (by kernel_rfl) (.int .i64 ((n - 2 : Nat) : Int)) (fun _ _ _ h => h) (fun W hW => exec_bin .sub 3 _ (.tmp 12) (.const (.int .i64 2)) rfl _ _ _ rfl rfl rfl (run_sub2I n (by omega) (by omega) W)) hS ?_
  go_frame
  refine reg_takeG (i := 10) (some 15) rfl rfl rfl (by kernel_rfl) (by kernel_rfl) (by kernel_rfl) (.int .i64 s) (fun _ _ _ h => h) (fun W hW => exec_loadI (.tmp 2) rfl _ rfl hW.1.2) hS ?_
  go_frame
  refine reg_takeG (i := 11) (some 16) rfl rfl rfl (by kernel_rfl) (by kernel_rfl) (by kernel_rfl) (.int .i64 ((64 - s : Nat) : Int)) (fun _ _ _ h => h) (fun W hW => exec_bin .sub 3 _ (.const (.int .i64 64)) (.tmp 15) rfl _ _ _ rfl rfl rfl (run_backI s (by omega) W)) hS ?_
  go_frame
  refine reg_callG (i := 3) (some 8) rfl rfl rfl (by kernel_rfl) rfl Tryz.func46 (by kernel_rfl) (by kernel_rfl) #[.slice A D.length c, .int .i64 ((n - 1 : Nat) : Int)] rfl (HD1.out u0 hS.2.1) ?_
  rintro e u1 ⟨rfl, hw⟩
  obtain rfl : u0 = u1 := hw.symm
  clear hw
  refine ⟨_, rfl, hS, ?_⟩
  go_frame
  refine reg_takeG (i := 5) (some 10) rfl rfl rfl (by kernel_rfl) (by kernel_rfl) (by kernel_rfl) (.int .u64 z) (fun _ _ _ h => h) (fun W hW => exec_bin .shl 53 _ (.tmp 8) (.tmp 9) rfl _ _ _ rfl rfl rfl (HSL.out W)) hS ?_
  go_frame
  refine reg_callG (i := 9) (some 14) rfl rfl rfl (by kernel_rfl) rfl Tryz.func46 (by kernel_rfl) (by kernel_rfl) #[.slice A D.length c, .int .i64 ((n - 2 : Nat) : Int)] rfl (HD2.out u0 hS.2.1) ?_
  rintro e u1 ⟨rfl, hw⟩
  obtain rfl : u0 = u1 := hw.symm
  clear hw
  refine ⟨_, rfl, hS, ?_⟩
  go_frame
  refine reg_takeG (i := 12) (some 17) rfl rfl rfl (by kernel_rfl) (by kernel_rfl) (by kernel_rfl) (.int .u64 y) (fun _ _ _ h => h) (fun W hW => exec_bin .shr 53 _ (.tmp 14) (.tmp 16) rfl _ _ _ rfl rfl rfl (HSR.out W)) hS ?_
  go_frame
  refine reg_takeG (i := 13) (some 18) rfl rfl rfl (by kernel_rfl) (by kernel_rfl) (by kernel_rfl) (.int .u64 ((z + y : Nat) : Int)) (fun _ _ _ h => h) (fun W hW => exec_bin .or 53 _ (.tmp 10) (.tmp 17) rfl _ _ _ rfl rfl rfl (HOR.out W)) hS ?_
  go_frame
  refine reg_takeG (i := 14) (some 4) rfl rfl rfl (by kernel_rfl) (by kernel_rfl) (by kernel_rfl) (.int .u64 ((z + y : Nat) : Int)) (fun _ _ _ h => h) (fun W hW => exec_assign (.tmp 18) rfl _ rfl) hS ?_
  go_frame
  refine wpAnyH_done (by kernel_rfl) ?_ _
  have HB := Lib.hid hS.2.2
  go_wp2
  go_ret
  exact ⟨rfl, HB.out⟩
end Go.Proofs.YtkjnfobaoaaopaaGreatDoor
