/- Laws: a region that draws its order, some of its operations guarded, taken by hand. -/
import Derived.Test.YtoendbdpkkjjkaaDoorHLaw
import Derived.Lib.ConvBytes
import Derived.Laws.Concat
namespace Go.Proofs.YtoendbdpkkjjkaaDoor
open Go.RowKit Hm Wm

section
variable {P : Program} {md : Region.Mode} {ops : Array Oper} {Q : Exit → Act → World → Prop} {S : World → Prop} {i fuel : Nat} {oi : Oper} {listed : Array Bool} {a : Act} {w : World}
theorem reg_takeG (d : Option Tmp) (hi : ops[i]? = some oi) (hd : oi.dst = d) (hw : Region.wanted oi (yielded ops a.tmps) = true) (hs : Region.noSelect ops = true) (hf : Region.free md ops listed i = true) (hr : (Region.ready md ops listed).contains i = true)
    (v : Value) (hQ : ∀ c a w, Q (.panic c) (a.put d v) w → Q (.panic c) a w) (hy : ∀ W, S W → (execOp a.eval oi).run P W = .ok (.value v) W) (hS : S w)
    (h : wpAnyH P md ops Q S fuel (listed.setIfInBounds i true) (a.put d v) w) : wpAnyH P md ops Q S (fuel + 1) listed a w := by
  subst hd
  exact wpAnyH_take hi hs hf hr hQ (.inl ⟨hw, hy⟩) hS h
theorem reg_oneG (hi : ops[i]? = some oi) (hw : Region.wanted oi (yielded ops a.tmps) = true) (hr : Region.ready md ops listed = [i])
    (h : oi.wp P a w (fun a' w' => S w' ∧ wpAnyH P md ops Q S fuel (listed.setIfInBounds i true) a' w') Q) : wpAnyH P md ops Q S (fuel + 1) listed a w :=
  wpAnyH_all hr (by simp) fun j hj => by
    obtain rfl : j = i := by simpa using hj
    unfold wpOp
    rw [hi]
    simp only
    rw [if_pos hw]
    exact .inl h
theorem reg_callG (d : Option Tmp) {F : FuncId} {xs : Array Operand} {ts : Array TypeId} (hi : ops[i]? = some oi) (hd : oi.dst = d) (hw : Region.wanted oi (yielded ops a.tmps) = true) (hr : Region.ready md ops listed = [i]) (ho : oi.op = .call { callee := .value (.func F), args := xs, argTypes := ts })
    {fn : Func} (hf : P.funcs[F]? = some fn) (hn : (fn.name == "runtime.NumGoroutine") = false) (hb : fn.body.isNone = false) (vs : Array Value) (hvs : xs.toList.map a.eval = vs.toList) {R : Ending → World → Prop} (hc : Calls P F vs w R)
    (h : ∀ e w', R e w' → ∃ v, e = .returned v ∧ S w' ∧ wpAnyH P md ops Q S fuel (listed.setIfInBounds i true) (a.put d v) w') : wpAnyH P md ops Q S (fuel + 1) listed a w := by
  subst hd
  exact reg_oneG hi hw hr (wp_call_fn ho hf hn hb vs hvs hc h)
theorem reg_valueG (d : Option Tmp) (hi : ops[i]? = some oi) (hd : oi.dst = d) (hw : Region.wanted oi (yielded ops a.tmps) = true) (hr : Region.ready md ops listed = [i]) (v : Value) (hrun : (execOp a.eval oi).run P w = .ok (.value v) w) (hS : S w)
    (h : wpAnyH P md ops Q S fuel (listed.setIfInBounds i true) (a.put d v) w) : wpAnyH P md ops Q S (fuel + 1) listed a w := by
  subst hd
  exact reg_oneG hi hw hr (by unfold Oper.wp; rw [hrun]; exact ⟨hS, h⟩)
/-- One that makes memory: its value in a world with one block more. -/
theorem reg_makeG (d : Option Tmp) (hi : ops[i]? = some oi) (hd : oi.dst = d) (hw : Region.wanted oi (yielded ops a.tmps) = true) (hr : Region.ready md ops listed = [i]) (v : Value) (w' : World) (hrun : (execOp a.eval oi).run P w = .ok (.value v) w') (hS : S w')
    (h : wpAnyH P md ops Q S fuel (listed.setIfInBounds i true) (a.put d v) w') : wpAnyH P md ops Q S (fuel + 1) listed a w := by
  subst hd
  exact reg_oneG hi hw hr (by unfold Oper.wp; rw [hrun]; exact ⟨hS, h⟩)
theorem any_takeG (d : Option Tmp) (hi : ops[i]? = some oi) (hd : oi.dst = d) (hw : Region.wanted oi (yielded ops a.tmps) = true) (hs : Region.noSelect ops = true) (hf : Region.free md ops listed i = true) (hr : (Region.ready md ops listed).contains i = true)
    (v : Value) (hQ : ∀ c a w, Q (.panic c) (a.put d v) w → Q (.panic c) a w) (hy : ∀ W, (execOp a.eval oi).run P W = .ok (.value v) W)
    (h : wpAny P md ops Q fuel (listed.setIfInBounds i true) (a.put d v) w) : wpAny P md ops Q (fuel + 1) listed a w := by
  subst hd
  exact wpAny_take hi hs hf hr hQ (.inl ⟨hw, hy⟩) h
theorem exec_indexAddr (ty : TypeId) (x y : Operand) (ho : oi.op = .indexAddr ty x y) (p q v : Value) (hx : a.eval x = p) (hy : a.eval y = q) (hl : (Instr.indexAt ty p q).run P w = .ok v w) : (execOp a.eval oi).run P w = .ok (.value v) w := by
  subst hx; subst hy
  simp [execOp, ho, hl]
theorem exec_min (x y : Operand) (ts : Array TypeId) (ho : oi.op = .call { callee := .builtin .min, args := #[x, y], argTypes := ts }) (k : IntKind) (m n z : Int) (hx : a.eval x = .int k m) (hy : a.eval y = .int k n) (hz : min m n = z) : (execOp a.eval oi).run P w = .ok (.value (.int k z)) w := by
  have e : (if n < m then n else m) = z := by split <;> omega
  simp [execOp, ho, resolve, invoke, builtin, hx, hy, run_min_int2, e]
theorem exec_max (x y : Operand) (ts : Array TypeId) (ho : oi.op = .call { callee := .builtin .max, args := #[x, y], argTypes := ts }) (k : IntKind) (m n z : Int) (hx : a.eval x = .int k m) (hy : a.eval y = .int k n) (hz : max m n = z) : (execOp a.eval oi).run P w = .ok (.value (.int k z)) w := by
  have e : (if n > m then n else m) = z := by split <;> omega
  simp [execOp, ho, resolve, invoke, builtin, hx, hy, run_max_int2, e]
theorem exec_slice_hi (ty : TypeId) (x y : Operand) (ho : oi.op = .slice ty x none (some y) none) (p q v : Value) (hx : a.eval x = p) (hy : a.eval y = q) (hl : (Instr.sliceAt ty p none (some q) none).run P w = .ok v w) : (execOp a.eval oi).run P w = .ok (.value v) w := by
  subst hx; subst hy
  simp [execOp, ho, hl]
theorem exec_pick (c x y : Operand) (ho : oi.op = .pick c x y) (v : Value) (hc : a.eval c = .bool true) (hx : a.eval x = v) : (execOp a.eval oi).run P w = .ok (.value v) w := by
  subst hx
  simp [execOp, ho, hc, asBool]
theorem exec_convert (s t : TypeId) (x : Operand) (ho : oi.op = .convert s t x) (p v : Value) (hx : a.eval x = p) {w' : World} (hl : (convert s t p).run P w = .ok v w') : (execOp a.eval oi).run P w = .ok (.value v) w' := by
  subst hx
  simp [execOp, ho, hl]
theorem exec_makeSlice (t : TypeId) (l c : Operand) (ho : oi.op = .makeSlice t l c) (p q v : Value) (hx : a.eval l = p) (hy : a.eval c = q) {w' : World} (hl : (Instr.makeSlice t p q).run P w = .ok v w') : (execOp a.eval oi).run P w = .ok (.value v) w' := by
  subst hx; subst hy
  simp [execOp, ho, hl]
end
section
variable {oi : Oper} {a : Act} {w : World}
theorem exec_load32 (x : Operand) (ho : oi.op = .load 24 x) (g : Nat) (l : List UInt8) (hl : l.length = 32) (hb : Blk w g 24 (bc l)) (hx : a.eval x = .pointer (some ⟨g, 0, none⟩)) : (execOp a.eval oi).run Tryd.prog w = .ok (.value (.agg (bc l).toArray)) w :=
  exec_load 24 x ho _ _ hx (run_loadAt_mid w g 0 _ (bc l) _ (by have := hb.range 0 (bc l).length; simpa using this) a32_under rfl (by rw [a32_size, bc_len, hl]))
theorem exec_load16 (x : Operand) (ho : oi.op = .load 43 x) (g : Nat) (l : List UInt8) (hl : l.length = 16) (hb : Blk w g 43 (bc l)) (hx : a.eval x = .pointer (some ⟨g, 0, none⟩)) : (execOp a.eval oi).run Tryd.prog w = .ok (.value (.agg (bc l).toArray)) w :=
  exec_load 43 x ho _ _ hx (run_loadAt_mid w g 0 _ (bc l) _ (by have := hb.range 0 (bc l).length; simpa using this) dg_under rfl (by rw [dg_size, bc_len, hl]))
theorem exec_eql32 (x y : Operand) (rt : TypeId) (ho : oi.op = .binOp .eql 24 x y rt) (l r : List UInt8) (hl : l.length = 32) (hr : r.length = 32) (hx : a.eval x = .agg (bc l).toArray) (hy : a.eval y = .agg (bc r).toArray) : (execOp a.eval oi).run Tryd.prog w = .ok (.value (.bool (decide (l = r)))) w :=
  exec_bin .eql 24 rt x y ho _ _ _ hx hy (run_eqGuard_agg w .eql _ x y _ _ eqg_a32) (run_eql_a32 w l r hl hr)
theorem exec_same32 (x y : Operand) (rt : TypeId) (ho : oi.op = .binOp .eql 24 x y rt) (l : List UInt8) (hl : l.length = 32) (hx : a.eval x = .agg (bc l).toArray) (hy : a.eval y = .agg (bc l).toArray) : (execOp a.eval oi).run Tryd.prog w = .ok (.value (.bool true)) w := by
  simpa using exec_eql32 x y rt ho l l hl hl hx hy
theorem exec_eql16 (x y : Operand) (rt : TypeId) (ho : oi.op = .binOp .eql 43 x y rt) (l r : List UInt8) (hl : l.length = 16) (hr : r.length = 16) (hx : a.eval x = .agg (bc l).toArray) (hy : a.eval y = .agg (bc r).toArray) : (execOp a.eval oi).run Tryd.prog w = .ok (.value (.bool (decide (l = r)))) w :=
  exec_bin .eql 43 rt x y ho _ _ _ hx hy (run_eqGuard_agg w .eql _ x y _ _ eqg_dig) (run_eql_dig w l r hl hr)
end
/-- A string turned into bytes. -/
theorem run_bytes (w : World) (s : ByteArray) : ∃ A c w', (convert 9 22 (.string s)).run Tryd.prog w = .ok (.slice A s.data.toList.length c) w' ∧ Rd w' A (bc s.data.toList) ∧ s.data.toList.length ≤ c ∧ Below w.heap.size w w' := by
  have hl : s.data.toList.length = s.size := Array.length_toList
  refine ⟨some ⟨w.heap.size, 0, none⟩, grownCap w s.size 0 5, Lib.bytesWorld w 5 s, ?_, ?_, ?_, ?_⟩
  · rw [hl]
    exact Lib.run_convert_string_bytes w 9 22 5 s Tryd.underlying9 Tryd.underlying22 Tryd.underlying5
  · intro _
    refine ⟨w.heap.size, 0, rfl, fun k u hu => ?_⟩
    have hk : k < s.data.toList.length := by
      rcases Nat.lt_or_ge k s.data.toList.length with h | h
      · exact h
      · rw [List.getElem?_eq_none (by rw [bc_len]; exact h)] at hu; cases hu
    have e : s.data.toList.getD k 0 = s.data.toList[k] := by rw [List.getD_eq_getElem?_getD, List.getElem?_eq_getElem hk]; rfl
    rw [Nat.zero_add, Lib.bytesWorld_cell w 5 s k (by omega), ← hu, bc_at hk, e]
  · rw [hl]; exact grownCap_ge w s.size 0 5
  · exact ⟨rfl, rfl, rfl, by rw [Lib.bytesWorld_size]; omega, fun j hj => Lib.bytesWorld_at_old w _ s j hj⟩
theorem wpList_bytes {w : World} {ops : Array Oper} {rest : List Oper} {o : Oper} {a : Act} {Q : Exit → Act → World → Prop} (hw : Region.wanted o (yielded ops a.tmps) = true) (x : Operand) (ho : o.op = .convert 9 22 x) (s : ByteArray) (hx : a.eval x = .string s)
    (h : ∀ A c w', Rd w' A (bc s.data.toList) → s.data.toList.length ≤ c → Below w.heap.size w w' → wpList Tryd.prog ops Q rest (a.put o.dst (.slice A s.data.toList.length c)) w') : wpList Tryd.prog ops Q (o :: rest) a w := by
  obtain ⟨A, c, w', hr, h1, h2, h3⟩ := run_bytes w s
  refine wpList_want hw fun K hK => ?_
  unfold Oper.wp execOp
  simp only [ho, hx, Sem.run_bind, hr, Result.andThen_ok]
  exact hK _ _ (h A c w' h1 h2 h3)
theorem exec_same16 {oi : Oper} {a : Act} {w : World} (x y : Operand) (rt : TypeId) (ho : oi.op = .binOp .eql 43 x y rt) (l : List UInt8) (hl : l.length = 16) (hx : a.eval x = .agg (bc l).toArray) (hy : a.eval y = .agg (bc l).toArray) : (execOp a.eval oi).run Tryd.prog w = .ok (.value (.bool true)) w := by
  simpa using exec_eql16 x y rt ho l l hl hl hx hy
/-- A row of zero bytes. -/
theorem run_zeros (w : World) (n : Nat) (h : n ≤ 1000000) : (Instr.makeSlice 22 (.int .i64 n) (.int .i64 n)).run Tryd.prog w = .ok (.slice (some ⟨w.heap.size, 0, none⟩) n n) (w.alloc (.cells (bc (List.replicate n 0)).toArray 5)) := by
  obtain ⟨i0, hi, hz0, hz1, hz2⟩ := info_parts u8_info
  have := run_make (P := Tryd.prog) w 22 5 i0 _ Tryd.underlying22 hi hz0 .i64 .i64 n n (by omega) (by omega) (by rw [hz2]; omega) (by omega)
  rw [hz1, Nat.mul_one, Int.toNat_natCast, show (Value.int IntKind.u8 0).cells = #[.int .u8 0] from rfl, madeCells_zero] at this
  exact this
theorem run_concat (w : World) (s t : ByteArray) (h : s.size + t.size ≤ 1000000) : (binOp .add 9 (.string s) (.string t)).run Tryd.prog w = .ok (.string (sb (s.data.toList ++ t.data.toList))) w := by
  have h1 : s.data.toList.length = s.size := Array.length_toList
  have h2 : t.data.toList.length = t.size := Array.length_toList
  have e := run_string_add_lists (P := Tryd.prog) w s.data.toList t.data.toList (by omega) (by omega)
  rw [binOp_string_add]
  exact e
theorem run_str_hi (w : World) (l : List UInt8) (n : Nat) (h : n ≤ l.length) : (Instr.sliceAt 9 (.string (sb l)) none (some (.int .i64 n)) none).run Tryd.prog w = .ok (.string (sb (l.take n))) w := by
  have hs : (sb l).size = l.length := sb_size l
  have e : (sb l).extract 0 n = sb (l.take n) := by
    apply ByteArray.ext
    rw [ByteArray.data_extract]
    simp [sb]
  simp [go_sem, run_sliceAt_string, Tryd.underlying9, hs]
  rw [if_pos h, e]
theorem run_eql_str (w : World) (l r : List UInt8) : (binOp .eql 9 (.string (sb l)) (.string (sb r))).run Tryd.prog w = .ok (.bool (decide (l = r))) w := by
  rw [binOp_string_eql]
  have h1 : (sb l).toList = l := by simp [sb]
  have h2 : (sb r).toList = r := by simp [sb]
  rw [h1, h2, Sem.run_pure]
  congr 2
  rw [Bool.eq_iff_iff]; simp
end Go.Proofs.YtoendbdpkkjjkaaDoor
