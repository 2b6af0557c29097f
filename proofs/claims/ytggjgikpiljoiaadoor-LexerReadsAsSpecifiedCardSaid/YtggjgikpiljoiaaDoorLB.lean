/- Base laws for the lexer, as they were proved for the layers before it. -/
import Derived.Test.YtggjgikpiljoiaaDoorNT
import Derived.Test.YtggjgikpiljoiaaDoorLM3
import Derived.Deep.QuietTactic
import Derived.BigQuiet
namespace Go.Proofs.YtggjgikpiljoiaaDoor
open Go.RowKit Hm Wm
attribute [local go_sem] Oper.semAt_some

section
variable {oi : Oper} {a : Act}
theorem int_flat (W : World) : (isAgg 3).run Tryd.prog W = .ok false W := by kernel_rfl
theorem str_flat (W : World) : (isAgg 9).run Tryd.prog W = .ok false W := by kernel_rfl
theorem int_size : (Tryd.prog.info? 3).map (·.size) = some 1 := by kernel_rfl
theorem op_callG {P : Program} {ops : Array Oper} {i : Nat} {oi : Oper} {a : Act} {w : World} {Q : Exit → Act → World → Prop} {K : Act → World → Prop} (d : Option Tmp) {F : FuncId} {xs : Array Operand} {ts : Array TypeId} (hi : ops[i]? = some oi) (hd : oi.dst = d) (hw : Region.wanted oi (yielded ops a.tmps) = true) (ho : oi.op = .call { callee := .value (.func F), args := xs, argTypes := ts })
    {fn : Func} (hf : P.funcs[F]? = some fn) (hn : (fn.name == "runtime.NumGoroutine") = false) (hb : fn.body.isNone = false) (vs : Array Value) (hvs : xs.toList.map a.eval = vs.toList) {R : Ending → World → Prop} (hc : Calls P F vs w R)
    (h : ∀ e w', R e w' → ∃ v, e = .returned v ∧ K (a.put d v) w') : wpOp P ops Q i K a w := by
  subst hd
  unfold wpOp
  rw [hi]
  dsimp only
  rw [if_pos hw]
  exact .inl (wp_call_fn ho hf hn hb vs hvs hc h)
theorem op_valueG {P : Program} {ops : Array Oper} {i : Nat} {oi : Oper} {a : Act} {w : World} {Q : Exit → Act → World → Prop} {K : Act → World → Prop} (d : Option Tmp) (hi : ops[i]? = some oi) (hd : oi.dst = d) (hw : Region.wanted oi (yielded ops a.tmps) = true) (v : Value) (hrun : (execOp a.eval oi).run P w = .ok (.value v) w)
    (h : K (a.put d v) w) : wpOp P ops Q i K a w := by
  subst hd
  unfold wpOp
  rw [hi]
  dsimp only
  rw [if_pos hw]
  refine .inl ?_
  unfold Oper.wp
  rw [hrun]
  exact h
theorem run_load_cell {W : World} {g o : Nat} {v : Value} {ty : TypeId} (hag : ∀ W, (isAgg ty).run Tryd.prog W = .ok false W) (h : W.cell? ⟨g, o, none⟩ = some v) : (Instr.loadAt ty (.pointer (some ⟨g, o, none⟩))).run Tryd.prog W = .ok v W := by
  simp [Instr.loadAt, Instr.sureAddr, loadVar, hag, run_load, h]
theorem exec_pickT {P : Program} {oi : Oper} {a : Act} {w : World} (x y z : Operand) (ho : oi.op = .pick x y z) (v : Value) (hx : a.eval x = .bool true) (hy : a.eval y = v) : (execOp a.eval oi).run P w = .ok (.value v) w := by
  subst hy
  simp [execOp, ho, hx, asBool]
theorem op_runG {P : Program} {ops : Array Oper} {i : Nat} {oi : Oper} {a : Act} {w : World} {Q : Exit → Act → World → Prop} {K : Act → World → Prop} (d : Option Tmp) (hi : ops[i]? = some oi) (hd : oi.dst = d) (hw : Region.wanted oi (yielded ops a.tmps) = true) (v : Value) (w' : World) (hrun : (execOp a.eval oi).run P w = .ok (.value v) w')
    (h : K (a.put d v) w') : wpOp P ops Q i K a w := by
  subst hd
  unfold wpOp
  rw [hi]
  dsimp only
  rw [if_pos hw]
  refine .inl ?_
  unfold Oper.wp
  rw [hrun]
  exact h
theorem exec_buildS {P : Program} {oi : Oper} {a : Act} {w w' : World} (ty : TypeId) (n : Nat) (xs : Array (Nat × Operand)) (ho : oi.op = .buildSlice ty n xs) (vs : Array (Nat × Value)) (hx : xs.toList.map (fun p => (p.1, a.eval p.2)) = vs.toList) (v : Value) (hl : (Instr.buildSlice ty n vs).run P w = .ok v w') : (execOp a.eval oi).run P w = .ok (.value v) w' := by
  obtain rfl : xs.map (fun p => (p.1, a.eval p.2)) = vs := by apply Array.toList_inj.1; simpa using hx
  simp [execOp, ho, hl]
theorem wpList_runG {w : World} {ops : Array Oper} {rest : List Oper} {o : Oper} {a : Act} {Q : Exit → Act → World → Prop} (d : Tmp) (hd : o.dst = some d) (hw : Region.wanted o (yielded ops a.tmps) = true) (v : Value) (hrun : (execOp a.eval o).run Tryd.prog w = .ok (.value v) w) (h : wpList Tryd.prog ops Q rest (a.put (some d) v) w) : wpList Tryd.prog ops Q (o :: rest) a w := by
  refine wpList_want hw fun K hK => ?_
  unfold Oper.wp
  rw [hrun]
  have := hK _ _ h
  rw [← hd] at this
  exact this
theorem wpList_dst {w : World} {ops : Array Oper} {rest : List Oper} {o : Oper} {a : Act} {Q : Exit → Act → World → Prop} (d : Tmp) (_hd : o.dst = some d) (h : wpList Tryd.prog ops Q (o :: rest) a w) : wpList Tryd.prog ops Q (o :: rest) a w := h
theorem exec_eqT {P : Program} {oi : Oper} {a : Act} {w : World} (t : TypeId) (x y : Operand) (rt : TypeId) (ho : oi.op = .binOp .eql t x y rt) (k : IntKind) (m : Int) (hx : a.eval x = .int k m) (hy : a.eval y = .int k m) : (execOp a.eval oi).run P w = .ok (.value (.bool true)) w := by
  have := exec_eqI (P := P) (w := w) t x y rt ho k m m hx hy
  rwa [beq_self_eq_true] at this
theorem exec_neqT {P : Program} {oi : Oper} {a : Act} {w : World} (t : TypeId) (x y : Operand) (rt : TypeId) (ho : oi.op = .binOp .neq t x y rt) (k : IntKind) (m : Int) (hx : a.eval x = .int k m) (hy : a.eval y = .int k m) : (execOp a.eval oi).run P w = .ok (.value (.bool false)) w := by
  have := exec_neqI (P := P) (w := w) t x y rt ho k m m hx hy
  simpa using this
theorem range_below' {w w' : World} {b o : Nat} {xs : List Value} (h : w.rangeAt b o xs) (hb : Below w.heap.size w w') : w'.rangeAt b o xs := fun j v hv => by
  have h1 := h j v hv
  rw [hb.cell (p := ⟨b, o + j, none⟩) (World.block_lt_of_cell? w _ h1)]; exact h1
theorem wpList_store_cell {w : World} {ops : Array Oper} {rest : List Oper} {op : Oper} {a : Act} {Q : Exit → Act → World → Prop} (hgd : op.guard = none) (x y : Operand) (ho : op.op = .store 3 x y)
    (g o : Nat) (t : TypeId) (cur : List Value) (v : Int) (hx : a.eval x = .pointer (some ⟨g, o, none⟩)) (hy : a.eval y = .int .i64 v) (hb : Blk w g t cur) (hl : o < cur.length)
    (h : ∀ w', Hid (Blk w' g t (cur.set o (.int .i64 v))) → Only g w w' → wpList Tryd.prog ops Q rest (a.put op.dst undef) w') : wpList Tryd.prog ops Q (op :: rest) a w := by
  have hs := run_storeCells_at Tryd.prog g o t [.int .i64 v] 0 cur.toArray w hb (by simp; omega) (by intro u hu; rw [List.mem_singleton.1 hu]; rfl)
  have hrun : (Instr.storeAt 3 (.pointer (some ⟨g, o, none⟩)) (.int .i64 v)).run Tryd.prog w = .ok () (w.setRow g (splice cur o [.int .i64 v]).toArray) := by
    cases hq : Tryd.prog.info? 3 with
    | none => have hi := int_size; rw [hq] at hi; cases hi
    | some i =>
      have hsz : i.size = 1 := by have hi := int_size; rw [hq] at hi; simpa using hi
      have e : (splice cur o [Value.int .i64 v]).toArray = (cur.toArray.toList.take (o + 0) ++ [Value.int .i64 v] ++ cur.toArray.toList.drop (o + 0 + [Value.int .i64 v].length)).toArray := by simp [splice]
      rw [e, ← hs]
      simp [Instr.storeAt, Instr.sureAddr, storeVar, sizeOf, typeInfo, hq, Value.cells, hsz]
  have hsp : splice cur o [.int .i64 v] = cur.set o (.int .i64 v) := by
    unfold splice
    rw [List.set_eq_take_append_cons_drop, if_pos hl]
    simp
  rw [hsp] at hrun
  refine wpList_plain hgd fun K hK => ?_
  unfold Oper.wp execOp
  simp only [ho, hx, hy, Sem.run_bind, hrun, Result.andThen_ok]
  exact hK _ _ (h _ (setRow_heap w g _ _ t _ hb) (Only.setRow w g _))
theorem wpList_new {w : World} {ops : Array Oper} {rest : List Oper} {o : Oper} {a : Act} {Q : Exit → Act → World → Prop} (hgd : o.guard = none) (t : TypeId) (ho : o.op = .alloc t) (Z : List Value) (hz : (Tryd.prog.info? t).map (·.zero) = some (some (.agg Z.toArray)))
    (h : ∀ w', Hid (Blk w' w.heap.size t Z) → Hid (Below w.heap.size w w') → wpList Tryd.prog ops Q rest (a.put o.dst (.pointer (some ⟨w.heap.size, 0, none⟩))) w') : wpList Tryd.prog ops Q (o :: rest) a w :=
  wpList_alloc_zero hgd t ho Z hz (h _ (Lib.hid (Blk.new w t Z)) (Lib.hid ((Below.refl _ _).alloc (Nat.le_refl _) _)))
theorem results_bt {P : Program} {fn : Func} {p q : Tmp} {ty : TypeId} (h : fn.results = #[.cell p ty, .tmp q]) (tmps : Array Value) (w : World) (g : Nat) (t : TypeId) (cs : List Value) (v : Value) (d : TypeDesc)
    (hp : tmps.getD p undef = .pointer (some ⟨g, 0, none⟩)) (hq : tmps.getD q undef = v) (hg : Blk w g t cs) (hu : P.underlying ty = some d) (hd : d.isRow = true) (hi : (P.info? ty).map (·.size) = some cs.length) :
    (results fn tmps).run P w = .ok (.tuple #[.agg cs.toArray, v]) w := by
  have hp' : tmps[p]?.getD undef = .pointer (some ⟨g, 0, none⟩) := by simpa using hp
  have hq' : tmps[q]?.getD undef = v := by simpa using hq
  simp [results, h, hp', hq', asAddr, run_loadVar_row w g t ty cs.toArray (0, 0) d hg hu (by cases d <;> first | rfl | cases hd) (by simpa using hi)]
theorem run_store_var {w : World} {g : Nat} {T : TypeId} {v0 : Value} (ty : TypeId) (v : Value) (hb : Blk w g T [v0]) (hi : (Tryd.prog.info? ty).map (·.size) = some 1) (h1 : v.oneCell' = true) (hv : v.cells = #[v]) :
    (Instr.storeAt ty (.pointer (some ⟨g, 0, none⟩)) v).run Tryd.prog w = .ok () (w.setRow g #[v]) := by
  have h := run_storeCells_at Tryd.prog g 0 T [v] 0 #[v0] w hb (by simp) (by intro u hu; rw [List.mem_singleton.1 hu]; exact h1)
  cases hq : Tryd.prog.info? ty with
  | none => simp [hq] at hi
  | some i =>
    have hs : i.size = 1 := by simpa [hq] using hi
    simp at h
    simp [Instr.storeAt, Instr.sureAddr, storeVar, sizeOf, typeInfo, hq, hv, hs, h]
/-- A variable of one cell is stored. -/
theorem wp_store_var {w : World} {op : Oper} {a : Act} {K : Act → World → Prop} {Q : Exit → Act → World → Prop} (ty : TypeId) (x y : Operand) (ho : op.op = .store ty x y)
    (g : Nat) (t : TypeId) (v0 v : Value) (hx : a.eval x = .pointer (some ⟨g, 0, none⟩)) (hy : a.eval y = v) (hb : Blk w g t [v0]) (hsz : (Tryd.prog.info? ty).map (·.size) = some 1) (h1 : v.oneCell' = true) (hv : v.cells = #[v])
    (h : ∀ w', Blk w' g t [v] → Only g w w' → K (a.put op.dst undef) w') : op.wp Tryd.prog a w K Q := by
  have hrun := run_store_var ty v hb hsz h1 hv
  unfold Oper.wp execOp
  simp only [ho, hx, hy, Sem.run_bind, hrun, Result.andThen_ok]
  exact h _ (setRow_heap w g _ _ t _ hb) (Only.setRow w g _)
theorem wpList_store_var {w : World} {ops : Array Oper} {rest : List Oper} {op : Oper} {a : Act} {Q : Exit → Act → World → Prop} (hgd : op.guard = none) (ty : TypeId) (x y : Operand) (ho : op.op = .store ty x y)
    (g : Nat) (t : TypeId) (v0 v : Value) (hx : a.eval x = .pointer (some ⟨g, 0, none⟩)) (hy : a.eval y = v) (hb : Blk w g t [v0]) (hsz : (Tryd.prog.info? ty).map (·.size) = some 1) (h1 : v.oneCell' = true) (hv : v.cells = #[v])
    (h : ∀ w', Hid (Blk w' g t [v]) → Only g w w' → wpList Tryd.prog ops Q rest (a.put op.dst undef) w') : wpList Tryd.prog ops Q (op :: rest) a w :=
  wpList_plain hgd fun _ hK => wp_store_var ty x y ho g t v0 v hx hy hb hsz h1 hv fun w' e1 e2 => hK _ _ (h w' e1 e2)
theorem results_cc {fn : Func} {p q : Tmp} {t1 t2 : TypeId} (h : fn.results = #[.cell p t1, .cell q t2]) (tmps : Array Value) (w : World) (g1 g2 : Nat) (T1 T2 : TypeId) (v1 v2 : Value)
    (hp : tmps.getD p undef = .pointer (some ⟨g1, 0, none⟩)) (hq : tmps.getD q undef = .pointer (some ⟨g2, 0, none⟩)) (h1 : Blk w g1 T1 [v1]) (h2 : Blk w g2 T2 [v2])
    (a1 : ∀ W, (isAgg t1).run Tryd.prog W = .ok false W) (a2 : ∀ W, (isAgg t2).run Tryd.prog W = .ok false W) :
    (results fn tmps).run Tryd.prog w = .ok (.tuple #[v1, v2]) w := by
  have hp' : tmps[p]?.getD undef = .pointer (some ⟨g1, 0, none⟩) := by simpa using hp
  have hq' : tmps[q]?.getD undef = .pointer (some ⟨g2, 0, none⟩) := by simpa using hq
  have c1 : w.cell? ⟨g1, 0, none⟩ = some v1 := h1.cell 0
  have c2 : w.cell? ⟨g2, 0, none⟩ = some v2 := h2.cell 0
  simp [results, h, hp', hq', asAddr, loadVar, a1, a2, run_load, c1, c2]
theorem exec_gtrI {P : Program} {oi : Oper} {a : Act} {w : World} (t : TypeId) (x y : Operand) (rt : TypeId) (ho : oi.op = .binOp .gtr t x y rt) (k : IntKind) (m n : Int) (r : Bool) (hr : decide (n < m) = r) (hx : a.eval x = .int k m) (hy : a.eval y = .int k n) : (execOp a.eval oi).run P w = .ok (.value (.bool r)) w := by
  subst hr
  exact exec_bin .gtr t rt x y ho _ _ _ hx hy (by simp [go_sem]) (by simp [go_sem])
theorem exec_geqI {P : Program} {oi : Oper} {a : Act} {w : World} (t : TypeId) (x y : Operand) (rt : TypeId) (ho : oi.op = .binOp .geq t x y rt) (k : IntKind) (m n : Int) (r : Bool) (hr : decide (n ≤ m) = r) (hx : a.eval x = .int k m) (hy : a.eval y = .int k n) : (execOp a.eval oi).run P w = .ok (.value (.bool r)) w := by
  subst hr
  exact exec_bin .geq t rt x y ho _ _ _ hx hy (by simp [go_sem]) (by simp [go_sem])
theorem exec_leqI {P : Program} {oi : Oper} {a : Act} {w : World} (t : TypeId) (x y : Operand) (rt : TypeId) (ho : oi.op = .binOp .leq t x y rt) (k : IntKind) (m n : Int) (r : Bool) (hr : decide (m ≤ n) = r) (hx : a.eval x = .int k m) (hy : a.eval y = .int k n) : (execOp a.eval oi).run P w = .ok (.value (.bool r)) w := by
  subst hr
  exact exec_bin .leq t rt x y ho _ _ _ hx hy (by simp [go_sem]) (by simp [go_sem])
end
theorem results_tc {fn : Func} {p q : Tmp} {ty : TypeId} (h : fn.results = #[.tmp p, .cell q ty]) (tmps : Array Value) (w : World) (g : Nat) (t : TypeId) (cs : List Value) (v : Value) (d : TypeDesc)
    (hp : tmps.getD p undef = v) (hq : tmps.getD q undef = .pointer (some ⟨g, 0, none⟩)) (hg : Blk w g t cs) (hu : Tryd.prog.underlying ty = some d) (hd : d.isRow = true) (hi : (Tryd.prog.info? ty).map (·.size) = some cs.length) :
    (results fn tmps).run Tryd.prog w = .ok (.tuple #[v, .agg cs.toArray]) w := by
  have hp' : tmps[p]?.getD undef = v := by simpa using hp
  have hq' : tmps[q]?.getD undef = .pointer (some ⟨g, 0, none⟩) := by simpa using hq
  simp [results, h, hp', hq', asAddr, run_loadVar_row w g t ty cs.toArray (0, 0) d hg hu (by cases d <;> first | rfl | cases hd) (by simpa using hi)]
end Go.Proofs.YtggjgikpiljoiaaDoor
