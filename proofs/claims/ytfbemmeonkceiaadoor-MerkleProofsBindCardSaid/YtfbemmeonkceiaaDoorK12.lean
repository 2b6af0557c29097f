/- Contract of merkle's follow: a check is called with what hands out the path's digests; behind it is asked whether all of them were used. -/
import Derived.Test.YtfbemmeonkceiaaDoorK11
namespace Go.Proofs.YtfbemmeonkceiaaDoor
open Go.RowKit Hm Wm

set_option maxRecDepth 100000 in
set_option maxHeartbeats 1000000 in
theorem defer_any (gok ga gp : Nat) (res : Bool) (used n c : Nat) (A : Option Addr) (u : FrameMode) (w : World) (h1 : Blk w gok 4 [.bool res]) (h2 : Blk w ga 3 [.int .i64 used]) (h3 : Blk w gp 22 [.slice A n c]) :
    CallsD Tryd.prog 72 #[.pointer (some ⟨gok, 0, none⟩), .pointer (some ⟨ga, 0, none⟩), .pointer (some ⟨gp, 0, none⟩)] u w fun e u' w' => u' = u ∧ (e = .returned (.tuple #[]) ∧ Blk w' gok 4 [.bool (res && decide (used = n))] ∧ Only gok w w') := by
  have c1 : w.cell? ⟨gok, 0, none⟩ = some (.bool res) := h1.cell 0
  have c2 : w.cell? ⟨ga, 0, none⟩ = some (.int .i64 used) := h2.cell 0
  have c3 : w.cell? ⟨gp, 0, none⟩ = some (.slice A n c) := h3.cell 0
  have f1 := h1.frozen 0
  have hset := fun u => h1.set_ 0 u
  have HS := Lib.hid hset
  clear h1 h2 h3 hset
  cases res
  · go_enter_d Tryd.func72, Tryd.ntmps72
    go_wp2
    go_end0
    exact ⟨rfl, HS.out _, only_setCell w gok _⟩
  · go_enter_d Tryd.func72, Tryd.ntmps72
    go_wp2
    go_end0
    have e : ((used : Int) == (n : Int)) = decide (used = n) := by
      by_cases h : used = n
      · subst h; simp
      · rw [decide_eq_false h, beq_eq_false_iff_ne]; omega
    rw [e, Bool.true_and]
    exact ⟨rfl, HS.out _, only_setCell w gok _⟩

section
variable {P : Program} {md : Region.Mode} {ops : Array Oper} {Q : Exit → Act → World → Prop} {S : World → Prop} {i fuel : Nat} {oi : Oper} {listed : Array Bool} {a : Act} {w : World}
/-- A function value is called. -/
theorem wp_call_val {K : Act → World → Prop} {F : FuncId} {caps : Array Value} (x : Operand) {xs : Array Operand} {ts : Array TypeId} (ho : oi.op = .call { callee := .value x, args := xs, argTypes := ts }) (hx : a.eval x = .func (.func F) #[] caps) {fn : Func} (hf : P.funcs[F]? = some fn) (hn : (fn.name == "runtime.NumGoroutine") = false) (hb : fn.body.isNone = false) (vs : Array Value) (hvs : xs.toList.map a.eval ++ caps.toList = vs.toList)
    {R : Ending → World → Prop} (hc : Calls P F vs w R) (h : ∀ e w', R e w' → ∃ v, e = .returned v ∧ K (a.put oi.dst v) w') : oi.wp P a w K Q := by
  obtain rfl : xs.map a.eval ++ caps = vs := by apply Array.toList_inj.1; simpa using hvs
  have hrun : (execOp a.eval oi).run P w = .ok (.enter F (xs.map a.eval ++ caps)) w := by
    simp [execOp, ho, resolve, invoke, Deferred.ofValue, hx, callFunc_enter hf hn hb]
  unfold Oper.wp
  rw [hrun]
  refine Calls.mono hc fun e w' hR => ?_
  obtain ⟨v, rfl, hk⟩ := h e w' hR
  exact hk
theorem wpList_call_val {rest : List Oper} (hgd : oi.guard = none) {F : FuncId} {caps : Array Value} (x : Operand) {xs : Array Operand} {ts : Array TypeId} (ho : oi.op = .call { callee := .value x, args := xs, argTypes := ts }) (hx : a.eval x = .func (.func F) #[] caps) {fn : Func} (hf : P.funcs[F]? = some fn) (hn : (fn.name == "runtime.NumGoroutine") = false) (hb : fn.body.isNone = false) (vs : Array Value) (hvs : xs.toList.map a.eval ++ caps.toList = vs.toList)
    {R : Ending → World → Prop} (hc : Calls P F vs w R) (h : ∀ e w', R e w' → ∃ v, e = .returned v ∧ wpList P ops Q rest (a.put oi.dst v) w') : wpList P ops Q (oi :: rest) a w :=
  wpList_plain hgd fun _ hK => wp_call_val x ho hx hf hn hb vs hvs hc fun e w' hR => by
    obtain ⟨v, rfl, hk⟩ := h e w' hR
    exact ⟨v, rfl, hK _ _ hk⟩
theorem op_call_val {K : Act → World → Prop} (d : Option Tmp) {F : FuncId} {caps : Array Value} (x : Operand) {xs : Array Operand} {ts : Array TypeId} (hi : ops[i]? = some oi) (hd : oi.dst = d) (hgd : oi.guard = none) (ho : oi.op = .call { callee := .value x, args := xs, argTypes := ts }) (hx : a.eval x = .func (.func F) #[] caps)
    {fn : Func} (hf : P.funcs[F]? = some fn) (hn : (fn.name == "runtime.NumGoroutine") = false) (hb : fn.body.isNone = false) (vs : Array Value) (hvs : xs.toList.map a.eval ++ caps.toList = vs.toList) {R : Ending → World → Prop} (hc : Calls P F vs w R)
    (h : ∀ e w', R e w' → ∃ v, e = .returned v ∧ K (a.put d v) w') : wpOp P ops Q i K a w := by
  subst hd
  exact op_wp hi hgd (wp_call_val x ho hx hf hn hb vs hvs hc h)
theorem reg_call_val (d : Option Tmp) {F : FuncId} {caps : Array Value} (x : Operand) {xs : Array Operand} {ts : Array TypeId} (hi : ops[i]? = some oi) (hd : oi.dst = d) (hw : Region.wanted oi (yielded ops a.tmps) = true) (hr : Region.ready md ops listed = [i]) (ho : oi.op = .call { callee := .value x, args := xs, argTypes := ts }) (hx : a.eval x = .func (.func F) #[] caps)
    {fn : Func} (hf : P.funcs[F]? = some fn) (hn : (fn.name == "runtime.NumGoroutine") = false) (hb : fn.body.isNone = false) (vs : Array Value) (hvs : xs.toList.map a.eval ++ caps.toList = vs.toList) {R : Ending → World → Prop} (hc : Calls P F vs w R)
    (h : ∀ e w', R e w' → ∃ v, e = .returned v ∧ S w' ∧ wpAnyH P md ops Q S fuel (listed.setIfInBounds i true) (a.put d v) w') : wpAnyH P md ops Q S (fuel + 1) listed a w := by
  subst hd
  exact reg_oneG hi hw hr (wp_call_val x ho hx hf hn hb vs hvs hc h)
end

theorem bool_size : (Tryd.prog.info? 4).map (·.size) = some 1 := by kernel_rfl
theorem stn_begin (w : World) (A : Option Addr) (c : Nat) (path : List Dg) : StN w A c path 0 (((w.alloc (.cells #[.slice A path.length c] 22)).alloc (.cells #[.bool false] 4)).alloc (.cells #[.int .i64 0] 3)) := by
  have b1 : Blk (((w.alloc (.cells #[.slice A path.length c] 22)).alloc (.cells #[.bool false] 4)).alloc (.cells #[.int .i64 0] 3)) w.heap.size 22 [.slice A path.length c] := ((Blk.new w _ [.slice A path.length c]).alloc _).alloc _
  have b2 := (Blk.new (w.alloc (.cells #[.slice A path.length c] 22)) 4 [.bool false]).alloc (.cells #[.int .i64 0] 3)
  have b3 := Blk.new ((w.alloc (.cells #[.slice A path.length c] 22)).alloc (.cells #[.bool false] 4)) 3 [.int .i64 0]
  rw [size_alloc] at b2
  rw [size_alloc, size_alloc] at b3
  exact ⟨(((Below.refl _ _).alloc (Nat.le_refl _) _).alloc (by simp) _).alloc (by simp; omega) _, b1, b2, b3⟩

set_option maxRecDepth 100000 in
set_option maxHeartbeats 1000000 in
theorem follow_any (w : World) (F : FuncId) (fn : Func) (hf : Tryd.prog.funcs[F]? = some fn) (hn : (fn.name == "runtime.NumGoroutine") = false) (hb : fn.body.isNone = false) (caps : Array Value) (A : Option Addr) (c : Nat) (path : List Dg) (res : Bool) (used : Nat)
    (hchk : ∀ W, StN w A c path 0 W → Calls Tryd.prog F (#[nextF w.heap.size] ++ caps) W fun e W' => e = .returned (.bool res) ∧ StN w A c path used W') :
    Calls Tryd.prog 47 #[.slice A path.length c, .func (.func F) #[] caps] w fun e w' => e = .returned (.bool (res && decide (used = path.length))) ∧ Below w.heap.size w w' := by
  have hmf : ∀ (fn : Fn) (first cap : Array Value) (w : World), (Instr.makeFunc fn first cap).run Tryd.prog w = .ok (.func fn first cap) w := fun _ _ _ _ => rfl
  have HC := Lib.hid hchk
  have HS := Lib.hid (stn_begin w A c path)
  clear hchk
  go_enter_defers Tryd.func47, Tryd.ntmps47
  go_wp2_with (first | (refine wpList_call_val rfl (F := F) (caps := caps) (.tmp 7) rfl rfl hf hn hb (#[nextF w.heap.size] ++ caps) (by simp [nextF, Act.eval]) (HC.out _ HS.out) ?_; rintro e w2 ⟨rfl, hS2⟩; have HS2 := Lib.hid hS2; clear hS2 HC HS; refine ⟨_, rfl, ?_⟩) | (refine wpList_store_var rfl 4 (.tmp 4) (.tmp 9) rfl (w.heap.size + 1) _ (.bool false) (.bool res) rfl rfl HS2.out.2.2.1 bool_size rfl rfl ?_; intro w3 HK3 ho3))
  go_frame
  refine leaves_cons (f := 72) (args := #[.pointer (some ⟨w.heap.size + 1, 0, none⟩), .pointer (some ⟨w.heap.size + 2, 0, none⟩), .pointer (some ⟨w.heap.size, 0, none⟩)]) (by simp) (by simp [go_sem]) ?_
  refine (defer_any (w.heap.size + 1) (w.heap.size + 2) w.heap.size res used path.length c A _ w3 HK3.out (ho3.blk HS2.out.2.2.2 (by omega)) (ho3.blk HS2.out.2.1 (by omega))).mono ?_
  rintro e u' w4 ⟨rfl, rfl, hk4, ho4⟩
  have hcell : w4.cell? ⟨w.heap.size + 1, 0, none⟩ = some (.bool (res && decide (used = path.length))) := hk4.cell 0
  have hB := (HS2.out.1.trans (ho3.below (by omega))).trans (ho4.below (B := w.heap.size) (by omega))
  generalize (res && decide (used = path.length)) = z at hcell ⊢
  clear hk4 ho4 ho3 HK3 HS2 hf hn hb hmf
  show Leaves _ _ _ _ [] .returning w4
  refine ⟨.bool z, ?_, rfl, hB⟩
  simp [results, Tryd.results47, go_sem, hcell]
end Go.Proofs.YtfbemmeonkceiaaDoor
