/- Words for memory: blocks that are known whole; loads, stores and results of arrays and structs in them. -/
import Derived.Test.YtoendbdpkkjjkaaDoorHPad
import Derived.Laws.CopyOwn
import Derived.Deep.MidRow
namespace Go.Proofs.YtoendbdpkkjjkaaDoor
open Go.RowKit Hm

/-- Block g holds just the cells cs, none frozen. -/
def Blk (w : World) (g : Nat) (t : TypeId) (cs : List Value) : Prop := w.heap[g]? = some (.cells cs.toArray t (0, 0))
/-- Nothing but block g has turned. -/
structure Only (g : Nat) (w w' : World) : Prop where
  os : w'.os = w.os
  tape : w'.tape = w.tape
  output : w'.output = w.output
  size : w'.heap.size = w.heap.size
  block : ∀ k, k ≠ g → w'.heap[k]? = w.heap[k]?

section
variable {w w' : World} {g k B : Nat} {t : TypeId} {cs : List Value}
theorem Only.setRow (w : World) (g : Nat) (c : Array Value) : Only g w (w.setRow g c) := ⟨rfl, rfl, rfl, by simp [World.setRow], fun k hk => setRow_other w g k c hk⟩
theorem Only.below (h : Only g w w') (hB : B ≤ g) : Below B w w' := ⟨h.os, h.tape, h.output, Nat.le_of_eq h.size.symm, fun k hk => h.block k (by omega)⟩
theorem Only.blk (h : Only g w w') (hb : Blk w k t cs) (hk : k ≠ g) : Blk w' k t cs := (h.block k hk).trans hb
theorem Blk.lt (h : Blk w g t cs) : g < w.heap.size := by
  rcases Nat.lt_or_ge g w.heap.size with hlt | hge
  · exact hlt
  · unfold Blk at h; rw [Array.getElem?_eq_none hge] at h; cases h
theorem Blk.cell (h : Blk w g t cs) (i : Nat) : w.cell? ⟨g, i, none⟩ = cs[i]? := by
  rw [cell_of_row w g i _ t (0, 0) h]; simp
theorem Blk.frozen (h : Blk w g t cs) (i : Nat) : w.frozen? ⟨g, i, none⟩ = false := by
  unfold Blk at h
  simp [World.frozen?, h]
theorem Blk.new (w : World) (t : TypeId) (cs : List Value) : Blk (w.alloc (.cells cs.toArray t)) w.heap.size t cs := heap_alloc_new w _
theorem Blk.drew (h : Blk w g t cs) : Blk w.drew g t cs := h
theorem Blk.drewN (h : Blk w g t cs) (n : Nat) : Blk (w.drewN n) g t cs := h
theorem Blk.alloc (h : Blk w g t cs) (o : Obj) : Blk (w.alloc o) g t cs := (Below.heap_alloc w o g h.lt).trans h
theorem Blk.far (h : Blk w g t cs) {p : Addr} (hp : g ≠ p.block) (u : Value) : Blk (w.setCell p u) g t cs := (Below.heap_setCell w p u g hp).trans h
theorem Blk.set_ (h : Blk w g t cs) (i : Nat) (u : Value) : Blk (w.setCell ⟨g, i, none⟩ u) g t (cs.set i u) := by
  unfold Blk at h ⊢
  simp [World.setCell, Array.getElem?_modify, h]
theorem Blk.below (h : Blk w g t cs) (hb : Below B w w') (hg : g < B) : Blk w' g t cs := (hb.block g hg).trans h
theorem Blk.next (h : Blk w g t cs) (hb : Below w.heap.size w w') : Blk w' g t cs := h.below hb h.lt
theorem Blk.range (h : Blk w g t cs) (o n : Nat) : w.rangeAt g o ((cs.drop o).take n) := fun j v hv => by
  rw [h.cell (o + j)]
  rw [List.getElem?_take] at hv
  split at hv
  · rwa [List.getElem?_drop] at hv
  · cases hv
theorem drewN_below (h : Below B w w') (n : Nat) : Below B w (w'.drewN n) := ⟨h.os, h.tape, h.output, h.size, h.block⟩
end

section
variable {P : Program}
theorem run_store_part (w : World) (ty : TypeId) (g o : Nat) (t : TypeId) (cur cells : List Value) (hb : Blk w g t cur) (hfit : o + cells.length ≤ cur.length) (hi : (P.info? ty).map (·.size) = some cells.length)
    (h1 : ∀ v ∈ cells, v.oneCell' = true) : (Instr.storeAt ty (.pointer (some ⟨g, o, none⟩)) (.agg cells.toArray)).run P w = .ok () (w.setRow g (splice cur o cells).toArray) := by
  have h := run_storeCells_at P g o t cells 0 cur.toArray w hb (by simpa using hfit) h1
  cases hq : P.info? ty with
  | none => simp [hq] at hi
  | some i =>
    have hs : i.size = cells.length := by simpa [hq] using hi
    have e : (splice cur o cells).toArray = (cur.toArray.toList.take (o + 0) ++ cells ++ cur.toArray.toList.drop (o + 0 + cells.length)).toArray := by simp [splice]
    rw [e, ← h]
    simp [Instr.storeAt, Instr.sureAddr, storeVar, sizeOf, typeInfo, hq, Value.cells, hs]

theorem wp_store_part {w : World} {op : Oper} {a : Act} {K : Act → World → Prop} {Q : Exit → Act → World → Prop} (ty : TypeId) (x y : Operand) (ho : op.op = .store ty x y)
    (g o : Nat) (t : TypeId) (cur cells : List Value) (hx : a.eval x = .pointer (some ⟨g, o, none⟩)) (hy : a.eval y = .agg cells.toArray) (hb : Blk w g t cur) (hfit : o + cells.length ≤ cur.length)
    (hi : (P.info? ty).map (·.size) = some cells.length) (h1 : ∀ v ∈ cells, v.oneCell' = true)
    (h : ∀ w', Blk w' g t (splice cur o cells) → Only g w w' → K (a.put op.dst undef) w') : op.wp P a w K Q := by
  have hrun := run_store_part (P := P) w ty g o t cur cells hb hfit hi h1
  unfold Oper.wp execOp
  simp only [ho, hx, hy, Sem.run_bind, hrun, Result.andThen_ok]
  exact h _ (setRow_heap w g _ _ t _ hb) (Only.setRow w g _)
theorem wpList_store_part {w : World} {ops : Array Oper} {rest : List Oper} {op : Oper} {a : Act} {Q : Exit → Act → World → Prop} (hgd : op.guard = none) (ty : TypeId) (x y : Operand) (ho : op.op = .store ty x y)
    (g o : Nat) (t : TypeId) (cur cells : List Value) (hx : a.eval x = .pointer (some ⟨g, o, none⟩)) (hy : a.eval y = .agg cells.toArray) (hb : Blk w g t cur) (hfit : o + cells.length ≤ cur.length)
    (hi : (P.info? ty).map (·.size) = some cells.length) (h1 : ∀ v ∈ cells, v.oneCell' = true)
    (h : ∀ w', Hid (Blk w' g t (splice cur o cells)) → Only g w w' → wpList P ops Q rest (a.put op.dst undef) w') : wpList P ops Q (op :: rest) a w :=
  wpList_plain hgd fun _ hK => wp_store_part ty x y ho g o t cur cells hx hy hb hfit hi h1 fun w' e1 e2 => hK _ _ (h w' e1 e2)

/-- A whole variable is stored. -/
theorem splice_all {α : Type} (cur cells : List α) (h : cells.length = cur.length) : splice cur 0 cells = cells := by
  unfold splice
  rw [List.drop_eq_nil_of_le (by omega)]; simp
theorem wpList_store_all {w : World} {ops : Array Oper} {rest : List Oper} {op : Oper} {a : Act} {Q : Exit → Act → World → Prop} (hgd : op.guard = none) (ty : TypeId) (x y : Operand) (ho : op.op = .store ty x y)
    (g : Nat) (t : TypeId) (cur cells : List Value) (hx : a.eval x = .pointer (some ⟨g, 0, none⟩)) (hy : a.eval y = .agg cells.toArray) (hb : Blk w g t cur) (hfit : cells.length = cur.length)
    (hi : (P.info? ty).map (·.size) = some cells.length) (h1 : ∀ v ∈ cells, v.oneCell' = true)
    (h : ∀ w', Hid (Blk w' g t cells) → Only g w w' → wpList P ops Q rest (a.put op.dst undef) w') : wpList P ops Q (op :: rest) a w :=
  wpList_store_part hgd ty x y ho g 0 t cur cells hx hy hb (by omega) hi h1 fun w' e1 e2 => h w' (by have := e1.out; rwa [splice_all _ _ hfit] at this) e2

theorem run_load_part (w : World) (ty : TypeId) (g o n : Nat) (t : TypeId) (cur : List Value) (d : TypeDesc) (hb : Blk w g t cur) (hfit : o + n ≤ cur.length) (hu : P.underlying ty = some d) (hd : d.isRow = true)
    (hi : (P.info? ty).map (·.size) = some n) : (Instr.loadAt ty (.pointer (some ⟨g, o, none⟩))).run P w = .ok (.agg ((cur.drop o).take n).toArray) w :=
  run_loadAt_mid w g o ty _ d (hb.range o n) hu hd (by rw [hi, List.length_take, List.length_drop, Nat.min_eq_left (by omega)])
theorem wpList_load_part {w : World} {ops : Array Oper} {rest : List Oper} {op : Oper} {a : Act} {Q : Exit → Act → World → Prop} (hgd : op.guard = none) (ty : TypeId) (x : Operand) (ho : op.op = .load ty x)
    (g o : Nat) (t : TypeId) (cur cs : List Value) (d : TypeDesc) (hx : a.eval x = .pointer (some ⟨g, o, none⟩)) (hb : Blk w g t cur) (hcs : (cur.drop o).take cs.length = cs) (hu : P.underlying ty = some d) (hd : d.isRow = true)
    (hi : (P.info? ty).map (·.size) = some cs.length)
    (h : wpList P ops Q rest (a.put op.dst (.agg cs.toArray)) w) : wpList P ops Q (op :: rest) a w :=
  wpList_load_mid hgd ty x ho g o hx cs d (by have := hb.range o cs.length; rwa [hcs] at this) hu hd hi h
theorem wpList_load_all {w : World} {ops : Array Oper} {rest : List Oper} {op : Oper} {a : Act} {Q : Exit → Act → World → Prop} (hgd : op.guard = none) (ty : TypeId) (x : Operand) (ho : op.op = .load ty x)
    (g : Nat) (t : TypeId) (cs : List Value) (d : TypeDesc) (hx : a.eval x = .pointer (some ⟨g, 0, none⟩)) (hb : Blk w g t cs) (hu : P.underlying ty = some d) (hd : d.isRow = true)
    (hi : (P.info? ty).map (·.size) = some cs.length)
    (h : wpList P ops Q rest (a.put op.dst (.agg cs.toArray)) w) : wpList P ops Q (op :: rest) a w :=
  wpList_load_part hgd ty x ho g 0 t cs cs d hx hb (by simp) hu hd hi h

theorem results_blk {fn : Func} {p : Tmp} {ty : TypeId} (h : fn.results = #[.cell p ty]) (tmps : Array Value) (w : World) (g : Nat) (t : TypeId) (cs : List Value) (d : TypeDesc)
    (hp : tmps.getD p undef = .pointer (some ⟨g, 0, none⟩)) (hg : Blk w g t cs) (hu : P.underlying ty = some d) (hd : d.isRow = true) (hi : (P.info? ty).map (·.size) = some cs.length) :
    (results fn tmps).run P w = .ok (.agg cs.toArray) w :=
  results_cell_row h tmps w g t cs.toArray (0, 0) d hp hg hu (by cases d <;> first | rfl | cases hd) (by simpa using hi)
end

/-- A new variable: its zero value. -/
theorem run_alloc_zero {P : Program} (w : World) (t : TypeId) (Z : List Value) (h : (P.info? t).map (·.zero) = some (some (.agg Z.toArray))) :
    (Instr.alloc t true (.tuple #[])).run P w = .ok (.pointer (some ⟨w.heap.size, 0, none⟩)) (w.alloc (.cells Z.toArray t)) := by
  cases hq : P.info? t with
  | none => simp [hq] at h
  | some i =>
    have hz : i.zero = some (.agg Z.toArray) := by simpa [hq] using h
    have hzv : ∀ W, (zeroValue t).run P W = .ok (.agg Z.toArray) W := fun W => by simp [zeroValue, typeInfo, hq, hz]
    simp only [Instr.alloc, Sem.run_bind, hzv, Result.andThen_ok]
    simp [newVar, newRow, Value.cells]
theorem wpList_alloc_zero {P : Program} {w : World} {ops : Array Oper} {rest : List Oper} {op : Oper} {a : Act} {Q : Exit → Act → World → Prop} (hgd : op.guard = none) (t : TypeId) (ho : op.op = .alloc t) (Z : List Value)
    (hi : (P.info? t).map (·.zero) = some (some (.agg Z.toArray)))
    (h : wpList P ops Q rest (a.put op.dst (.pointer (some ⟨w.heap.size, 0, none⟩))) (w.alloc (.cells Z.toArray t))) : wpList P ops Q (op :: rest) a w :=
  wpList_plain hgd fun K hK => by
    have hrun := run_alloc_zero (P := P) w t Z hi
    unfold Oper.wp execOp
    simp only [ho, Sem.run_bind, hrun, Result.andThen_ok]
    exact hK _ _ h
/-- Zero bytes, zero words, a zero stream. -/
def zb (n : Nat) : List Value := bc (List.replicate n 0)
theorem zb_len (n : Nat) : (zb n).length = n := by simp [zb, bc_len]

/-- The cells of words. -/
def wc (l : List UInt32) : List Value := l.map fun x => Value.int .u32 x.toNat
theorem wc_len (l : List UInt32) : (wc l).length = l.length := by simp [wc]
theorem wc_one (l : List UInt32) : ∀ u ∈ wc l, u.oneCell' = true := by
  intro u hu
  simp only [wc, List.mem_map] at hu
  obtain ⟨b, _, rfl⟩ := hu
  rfl
theorem wc_at {l : List UInt32} {k : Nat} (h : k < l.length) : (wc l)[k]? = some (.int .u32 l[k].toNat) := by simp [wc, h]

theorem a32_size : (Tryd.prog.info? 24).map (·.size) = some 32 := by kernel_rfl
theorem a32_under : Tryd.prog.underlying 24 = some (.array 32 5) := by kernel_rfl
theorem st_size : (Tryd.prog.info? 31).map (·.size) = some 8 := by kernel_rfl
theorem st_under : Tryd.prog.underlying 31 = some (.array 8 29) := by kernel_rfl
theorem blk_size : (Tryd.prog.info? 33).map (·.size) = some 64 := by kernel_rfl
theorem blk_under : Tryd.prog.underlying 33 = some (.array 64 5) := by kernel_rfl
theorem w64_size : (Tryd.prog.info? 66).map (·.size) = some 64 := by kernel_rfl
theorem w64_under : Tryd.prog.underlying 66 = some (.array 64 29) := by kernel_rfl
theorem sm_size : (Tryd.prog.info? 36).map (·.size) = some 73 := by kernel_rfl
theorem a4_size : (Tryd.prog.info? 103).map (·.size) = some 4 := by kernel_rfl
theorem a4_under : Tryd.prog.underlying 103 = some (.array 4 5) := by kernel_rfl
def zw (n : Nat) : List Value := wc (List.replicate n 0)
theorem zw_len (n : Nat) : (zw n).length = n := by simp [zw, wc_len]
def zs : List Value := zw 8 ++ (zb 64 ++ [.int .u64 0])
theorem zs_len : zs.length = 73 := by simp [zs, zw_len, zb_len]
theorem a32_zero : (Tryd.prog.info? 24).map (·.zero) = some (some (.agg (zb 32).toArray)) := by kernel_rfl
theorem st_zero : (Tryd.prog.info? 31).map (·.zero) = some (some (.agg (zw 8).toArray)) := by kernel_rfl
theorem blk_zero : (Tryd.prog.info? 33).map (·.zero) = some (some (.agg (zb 64).toArray)) := by kernel_rfl
theorem w64_zero : (Tryd.prog.info? 66).map (·.zero) = some (some (.agg (zw 64).toArray)) := by kernel_rfl
theorem sm_zero : (Tryd.prog.info? 36).map (·.zero) = some (some (.agg zs.toArray)) := by kernel_rfl
theorem dg_zero : (Tryd.prog.info? 43).map (·.zero) = some (some (.agg (zb 16).toArray)) := by kernel_rfl
theorem dg_size : (Tryd.prog.info? 43).map (·.size) = some 16 := by kernel_rfl
theorem dg_under : Tryd.prog.underlying 43 = some (.array 16 5) := by kernel_rfl
theorem kd_size : (Tryd.prog.info? 76).map (·.size) = some 146 := by kernel_rfl
theorem kd_zero : (Tryd.prog.info? 76).map (·.zero) = some (some (.agg (zs ++ zs).toArray)) := by kernel_rfl

/-- The end of an array of bytes, from place k on. -/
theorem run_slice_from (t : TypeId) (n : Nat) (hu : Tryd.prog.underlying t = some (.array n 5)) (W : World) (g o : Nat) (kl : IntKind) (l : Int) (k : Nat) (hl : l = k) (hk : k < n) :
    (Instr.sliceAt t (.pointer (some ⟨g, o, none⟩)) (some (.int kl l)) none none).run Tryd.prog W = .ok (.slice (some ⟨g, o + k, none⟩) (n - k) (n - k)) W := by
  have e : (⟨g, o, none⟩ : Addr).add k = ⟨g, o + k, none⟩ := by unfold Addr.add; split <;> simp_all
  subst hl
  simp [Instr.sliceAt, Instr.sureAddr, run_underlying hu, Instr.sliceBounds, run_sliceBound, (by omega : (k : Int) ≤ n), e]
  omega

theorem run_arrayAt (t : TypeId) (n : Nat) (e : TypeId) (hu : Tryd.prog.underlying t = some (.array n e)) (w : World) (A : Option Addr) (m c : Nat) (hm : n ≤ m) : (Instr.arrayAt t (.slice A m c)).run Tryd.prog w = .ok (.pointer A) w := by
  simp [Instr.arrayAt, run_underlying hu, Nat.not_lt.2 hm]
end Go.Proofs.YtoendbdpkkjjkaaDoor
