/- Plain mathematics of two paths with one root. -/
import Derived.Test.YtfbemmeonkceiaaDoorKWm
import Derived.Test.YtfbemmeonkceiaaDoorKWp
namespace Go.Proofs.YtfbemmeonkceiaaDoor
open Go.RowKit Hm Wm

/-- The turns of a path, from the leaf up: whether the part lies to the right. -/
def turnsD (i n : Nat) : List Bool :=
  if _h : 2 ≤ n then (if i < hf n then turnsD i (hf n) ++ [false] else turnsD (i - hf n) (n - hf n) ++ [true]) else []
termination_by n
decreasing_by all_goals (have := hf_lt (by assumption); have := hf_pos n; omega)
theorem turnsD_one {i n : Nat} (h : n ≤ 1) : turnsD i n = [] := by rw [turnsD, dif_neg (by omega)]
theorem turnsD_lo {i n : Nat} (h : 2 ≤ n) (hi : i < hf n) : turnsD i n = turnsD i (hf n) ++ [false] := by rw [turnsD, dif_pos h, if_pos hi]
theorem turnsD_hi {i n : Nat} (h : 2 ≤ n) (hi : hf n ≤ i) : turnsD i n = turnsD (i - hf n) (n - hf n) ++ [true] := by rw [turnsD, dif_pos h, if_neg (by omega)]
/-- The pair that is hashed. -/
def pairT (t : Bool) (d r : Dg) : Dg × Dg := if t then (r, d) else (d, r)
noncomputable def nodeP (p : Dg × Dg) : Dg := nodeD p.1 p.2
/-- The digest that a path leads to behind its first elements. -/
noncomputable def dAt (leaf : Dg) (ts : List Bool) (path : List Dg) : Nat → Dg
  | 0 => leaf
  | k + 1 => nodeP (pairT (ts.getD k false) (dAt leaf ts path k) (nx path k))
noncomputable def pAt (leaf : Dg) (ts : List Bool) (path : List Dg) (k : Nat) : Dg × Dg := pairT (ts.getD k false) (dAt leaf ts path k) (nx path k)
theorem dAt_succ (leaf : Dg) (ts : List Bool) (path : List Dg) (k : Nat) : dAt leaf ts path (k + 1) = nodeP (pAt leaf ts path k) := rfl
theorem pairT_ne {t : Bool} {d e r s : Dg} (h : d ≠ e) : pairT t d r ≠ pairT t e s := by
  intro h2
  cases t
  · exact h (by simpa [pairT] using congrArg Prod.fst h2)
  · exact h (by simpa [pairT] using congrArg Prod.snd h2)
theorem dAt_pre (leaf : Dg) (ts : List Bool) (t : Bool) (path : List Dg) : ∀ k, k ≤ ts.length → dAt leaf (ts ++ [t]) path k = dAt leaf ts path k := by
  intro k
  induction k with
  | zero => intro _; rfl
  | succ k ih =>
    intro h
    show nodeP (pairT ((ts ++ [t]).getD k false) (dAt leaf (ts ++ [t]) path k) (nx path k)) = nodeP (pairT (ts.getD k false) (dAt leaf ts path k) (nx path k))
    rw [ih (by omega)]
    have : (ts ++ [t]).getD k false = ts.getD k false := by
      simp only [List.getD_eq_getElem?_getD]
      rw [List.getElem?_append_left (by omega)]
    rw [this]
theorem dAt_end (leaf : Dg) (ts : List Bool) (t : Bool) (path : List Dg) : dAt leaf (ts ++ [t]) path (ts ++ [t]).length = nodeP (pairT t (dAt leaf ts path ts.length) (nx path ts.length)) := by
  rw [List.length_append, List.length_singleton]
  show nodeP (pairT ((ts ++ [t]).getD ts.length false) (dAt leaf (ts ++ [t]) path ts.length) (nx path ts.length)) = _
  rw [dAt_pre leaf ts t path ts.length (Nat.le_refl _)]
  have : (ts ++ [t]).getD ts.length false = t := by
    simp only [List.getD_eq_getElem?_getD]
    rw [List.getElem?_append_right (Nat.le_refl _)]
    simp
  rw [this]
theorem oneD_turns (leaf : Dg) (path : List Dg) (k : Nat) : ∀ (n i : Nat), n ≤ k → oneD leaf i n 0 path = (dAt leaf (turnsD i n) path (turnsD i n).length, (turnsD i n).length) := by
  induction k with
  | zero => intro n i h; rw [oneD_one leaf 0 path (by omega), turnsD_one (by omega)]; rfl
  | succ k ih =>
    intro n i h
    by_cases h2 : 2 ≤ n
    · have h3 := hf_lt h2
      have h4 := hf_pos n
      by_cases hi : i < hf n
      · rw [oneD_lo leaf 0 path h2 hi, turnsD_lo h2 hi, ih (hf n) i (by omega), dAt_end, List.length_append]
        rfl
      · rw [oneD_hi leaf 0 path h2 (by omega), turnsD_hi h2 (by omega), ih (n - hf n) (i - hf n) (by omega), dAt_end, List.length_append]
        rfl
    · rw [oneD_one leaf 0 path (by omega), turnsD_one (by omega)]; rfl
theorem dgEq_no {a b : Dg} (h : a ≠ b) : dgEq a b = false := by
  cases hb : dgEq a b
  · rfl
  · exact absurd (dgEq_iff.1 hb) h
end Go.Proofs.YtfbemmeonkceiaaDoor

/- The law's steps: lists of bools, pairs of digests. -/
namespace Go.Proofs.YtfbemmeonkceiaaDoor
open Go.RowKit Hm Wm

/-- The cells of a pair. -/
def pc (p : Dg × Dg) : List Value := dc p.1 ++ dc p.2
theorem pc_len (p : Dg × Dg) : (pc p).length = 32 := by unfold pc; rw [List.length_append, dc_len, dc_len]
theorem pc_one (p : Dg × Dg) : ∀ v ∈ pc p, v.oneCell' = true := by
  intro v hv
  rcases List.mem_append.1 hv with hv | hv
  · exact dc_one _ v hv
  · exact dc_one _ v hv
def pv (p : Dg × Dg) : Value := .agg (pc p).toArray
def plD (l : List (Dg × Dg)) : List Value := l.flatMap pc
theorem plD_len (l : List (Dg × Dg)) : (plD l).length = l.length * 32 := by
  induction l with
  | nil => rfl
  | cons p r ih => show (pc p ++ plD r).length = _; rw [List.length_append, pc_len, ih, List.length_cons]; omega
theorem plD_app (l r : List (Dg × Dg)) : plD (l ++ r) = plD l ++ plD r := List.flatMap_append
theorem plD_one (p : Dg × Dg) : plD [p] = pc p := by show pc p ++ [] = pc p; rw [List.append_nil]
theorem pz_zero : (Tryd.prog.info? 62).map (·.zero) = some (some (.agg (pc (dz, dz)).toArray)) := by kernel_rfl
theorem pz_info : (Tryd.prog.info? 62).map (fun i => (i.zero, i.size, i.bytes)) = some (some (.agg (pc (dz, dz)).toArray), 32, 32) := by kernel_rfl
theorem p_size (p : Dg × Dg) : (Tryd.prog.info? 62).map (·.size) = some (pc p).length := by rw [pc_len]; kernel_rfl
theorem p_fit (p q : Dg × Dg) : (pc p).length = (pc q).length := by rw [pc_len, pc_len]
theorem ps_under : Tryd.prog.underlying 60 = some (.slice 62) := Tryd.underlying60
theorem bs_under : Tryd.prog.underlying 97 = some (.slice 4) := Tryd.underlying97
theorem bo_info : (Tryd.prog.info? 4).map (fun i => (i.zero, i.size, i.bytes)) = some (some (.bool false), 1, 1) := by kernel_rfl
theorem dg_sixteen (d : Dg) : ∃ b0 b1 b2 b3 b4 b5 b6 b7 b8 b9 b10 b11 b12 b13 b14 b15, d.1 = [b0, b1, b2, b3, b4, b5, b6, b7, b8, b9, b10, b11, b12, b13, b14, b15] := by
  obtain ⟨l, hl⟩ := d
  match l, hl with
  | [b0, b1, b2, b3, b4, b5, b6, b7, b8, b9, b10, b11, b12, b13, b14, b15], _ => exact ⟨b0, b1, b2, b3, b4, b5, b6, b7, b8, b9, b10, b11, b12, b13, b14, b15, rfl⟩
theorem exec_buildN {oi : Oper} {a : Act} {w : World} (ty : TypeId) (ps : Array (Nat × Operand)) (ho : oi.op = .build ty ps) (vs : List (Nat × Value)) (hv : (ps.toList.map fun p => (p.1, a.eval p.2)) = vs) (v : Value) (hl : (Instr.build ty vs.toArray).run Tryd.prog w = .ok v w) : (execOp a.eval oi).run Tryd.prog w = .ok (.value v) w := by
  have e : (ps.map fun (i, x) => (i, a.eval x)) = vs.toArray := by apply Array.ext'; rw [Array.toList_map]; exact hv
  unfold execOp
  simp only [ho, Sem.run_bind]
  rw [e, hl]
  rfl
theorem run_pair (d r : Dg) (W : World) : (Instr.build 62 #[(0, dv d), (1, dv r)]).run Tryd.prog W = .ok (pv (d, r)) W := by
  obtain ⟨b0, b1, b2, b3, b4, b5, b6, b7, b8, b9, b10, b11, b12, b13, b14, b15, h⟩ := dg_sixteen d
  obtain ⟨c0, c1, c2, c3, c4, c5, c6, c7, c8, c9, c10, c11, c12, c13, c14, c15, h'⟩ := dg_sixteen r
  obtain ⟨l, hl⟩ := d
  obtain ⟨l', hl'⟩ := r
  subst h
  subst h'
  kernel_rfl
/-- A row of pairs that can be read. -/
def RdP (w : World) (A : Option Addr) (l : List (Dg × Dg)) : Prop := Rd w A (plD l)
theorem RdP.next {w w' : World} {A : Option Addr} {l : List (Dg × Dg)} (h : RdP w A l) (hb : Below w.heap.size w w') : RdP w' A l := Rd.below h hb
/-- A row of bools that can be read. -/
def RdB (w : World) (A : Option Addr) (l : List Bool) : Prop := Rd w A (l.map Value.bool)
theorem run_bool1 (w : World) (b : Bool) : (Instr.buildSlice 97 1 #[(0, .bool b)]).run Tryd.prog w = .ok (.slice (some ⟨w.heap.size, 0, none⟩) 1 1) (w.alloc (.cells #[.bool b] 4)) := by
  obtain ⟨i0, hi, hz0, hz1, hz2⟩ := info_parts bo_info
  refine run_buildSlice w _ _ 1 _ _ i0 _ bs_under hi hz0 (by rw [hz1]; omega) (by rw [hz1]; omega) ?_
  rw [hz1]
  rw [show (Array.map (fun x => (Value.bool false).cells[x % (Value.bool false).cells.size]!) (Array.range (1 * 1))) = #[.bool false] from by kernel_rfl]
  rfl
theorem own_bool (w : World) (b : Bool) : (w.alloc (.cells #[.bool b] 4)).ownsRow w.heap.size 4 1 (.slice (some ⟨w.heap.size, 0, none⟩) 1 1) [b].length ([b].map Value.bool) :=
  ⟨rfl, .inr ⟨w.heap.size, 1, #[.bool b], rfl, Nat.le_refl _, heap_alloc_new w _, Nat.le_refl _, by decide, rfl, rfl⟩⟩
theorem wpList_bool1 {w : World} {ops : Array Oper} {rest : List Oper} {o : Oper} {a : Act} {Q : Exit → Act → World → Prop} (hw : Region.wanted o (yielded ops a.tmps) = true) (x : Operand) (ho : o.op = .buildSlice 97 1 #[(0, x)]) (b : Bool) (hx : a.eval x = .bool b)
    (h : ∀ v w', w'.ownsRow w.heap.size 4 1 v [b].length ([b].map Value.bool) → Below w.heap.size w w' → wpList Tryd.prog ops Q rest (a.put o.dst v) w') : wpList Tryd.prog ops Q (o :: rest) a w := by
  refine wpList_want hw fun K hK => ?_
  unfold Oper.wp execOp
  simp only [ho, List.map_toArray, List.map_cons, List.map_nil, hx, Sem.run_bind, run_bool1, Result.andThen_ok]
  exact hK _ _ (h _ _ (own_bool w b) ((Below.refl _ _).alloc (Nat.le_refl _) _))
/-- An own row of bools is appended to. -/
theorem exec_appB {oi : Oper} {a : Act} {w : World} (s x : Operand) (ho : oi.op = .call { callee := .builtin .append, args := #[s, x], argTypes := #[97, 97] })
    (base : Nat) (v : Value) (l : List Bool) (hs : a.eval s = v) (hown : w.ownsRow base 4 1 v l.length (l.map Value.bool)) (B : Option Addr) (c : Nat) (r : List Bool) (hx : a.eval x = .slice B r.length c) (hr : RdB w B r) (hb : base ≤ w.heap.size) (hl : l.length + r.length ≤ 1000000) :
    ∃ v' w', (execOp a.eval oi).run Tryd.prog w = .ok (.value v') w' ∧ w'.ownsRow base 4 1 v' (l ++ r).length ((l ++ r).map Value.bool) ∧ Below base w w' := by
  obtain ⟨i0, hi, hz0, hz1, hz2⟩ := info_parts bo_info
  by_cases hrn : r = []
  · subst hrn
    have hrun : (Builtin.append_ #[97, 97] oi.type #[v, .slice B 0 c]).run Tryd.prog w = .ok v w := by
      rcases hown.2 with ⟨rfl, _⟩ | ⟨g, cap, cur, rfl, _, _, hnc, _⟩
      · cases B <;> simp [Builtin.append_, run_underlying bs_under, sizeOf, typeInfo, hi, Builtin.lenOf, Builtin.firstCells, loadCells, loadCellsFrom]
      · cases B <;> simp [Builtin.append_, run_underlying bs_under, sizeOf, typeInfo, hi, Builtin.lenOf, Builtin.firstCells, hnc, storeCells, loadCells, loadCellsFrom]
    refine ⟨v, w, ?_, by rw [List.append_nil]; exact hown, Below.refl _ _⟩
    unfold execOp
    simp only [ho, resolve, invoke, builtin, Sem.run_bind, Sem.run_pure, Result.andThen_ok, List.map_toArray, List.map_cons, List.map_nil, hs, hx, List.length_nil, hrun]
  · have hrne : r.map Value.bool ≠ [] := by intro e; exact hrn (List.map_eq_nil_iff.1 e)
    obtain ⟨b, rfl, hd⟩ := Rd.news hr hrne
    obtain ⟨v', w', hrun, h2, h3, _⟩ := run_append_own_at (P := Tryd.prog) w base 97 oi.type 4 i0 _ 1 1 bs_under hi hz0 hz1 hz2 rfl (by decide) v l.length (l.map Value.bool) hown
      b r.length c (r.map Value.bool) (by rw [List.length_map, Nat.mul_one]) hd (by intro u hu; obtain ⟨t, -, rfl⟩ := List.mem_map.1 hu; rfl) (by unfold maxLen; omega) (by omega) hb
    refine ⟨v', w', ?_, by rw [List.length_append, List.map_append]; exact h2, (Below.refl base w).grown h3 hb (fun k hk => (World.ownsRow.lt hown k hk).1)⟩
    unfold execOp
    simp only [ho, resolve, invoke, builtin, Sem.run_bind, Sem.run_pure, Result.andThen_ok, List.map_toArray, List.map_cons, List.map_nil, hs, hx, hrun]
theorem wpList_appB {w : World} {ops : Array Oper} {rest : List Oper} {o : Oper} {a : Act} {Q : Exit → Act → World → Prop} (hw : Region.wanted o (yielded ops a.tmps) = true) (s x : Operand) (ho : o.op = .call { callee := .builtin .append, args := #[s, x], argTypes := #[97, 97] })
    (base : Nat) (v : Value) (l : List Bool) (hs : a.eval s = v) (hown : w.ownsRow base 4 1 v l.length (l.map Value.bool)) (B : Option Addr) (c : Nat) (r : List Bool) (hx : a.eval x = .slice B r.length c) (hr : RdB w B r) (hb : base ≤ w.heap.size) (hl : l.length + r.length ≤ 1000000)
    (h : ∀ v' w', w'.ownsRow base 4 1 v' (l ++ r).length ((l ++ r).map Value.bool) → Below base w w' → wpList Tryd.prog ops Q rest (a.put o.dst v') w') : wpList Tryd.prog ops Q (o :: rest) a w := by
  obtain ⟨v', w', hrun, h1, h2⟩ := exec_appB s x ho base v l hs hown B c r hx hr hb hl
  refine wpList_want hw fun K hK => ?_
  unfold Oper.wp
  rw [hrun]
  exact hK _ _ (h v' w' h1 h2)
theorem newB_of_row {w' : World} {base : Nat} {v : Value} {l : List Bool} (h : w'.ownsRow base 4 1 v l.length (l.map Value.bool)) : ∃ A c, v = .slice A l.length c ∧ RdB w' A l ∧ l.length ≤ c := by
  rcases h.2 with ⟨rfl, h0⟩ | ⟨g, cap, cur, rfl, h2, h3, h4, h5, h6⟩
  · obtain rfl : l = [] := List.eq_nil_of_length_eq_zero h0
    exact ⟨none, 0, rfl, Rd.nil _ _, Nat.le_refl _⟩
  · exact ⟨_, cap, rfl, Rd.of_row h, h4⟩
theorem newP_of_row {w' : World} {base : Nat} {v : Value} {l : List (Dg × Dg)} (h : w'.ownsRow base 62 32 v l.length (plD l)) : ∃ A c, v = .slice A l.length c ∧ RdP w' A l ∧ l.length ≤ c := by
  rcases h.2 with ⟨rfl, h0⟩ | ⟨g, cap, cur, rfl, h2, h3, h4, h5, h6⟩
  · obtain rfl : l = [] := List.eq_nil_of_length_eq_zero h0
    exact ⟨none, 0, rfl, Rd.nil _ _, Nat.le_refl _⟩
  · exact ⟨_, cap, rfl, Rd.of_row h, h4⟩
/-- One pair is laid into a row. -/
theorem fill_pair (Z : List Value) (p : Dg × Dg) (hZ : Z.length = 32) : Instr.fill (fun i => some (i * 32, 32)) Z.toArray [(0, pv p)] = some (pc p).toArray := by
  have hd := pc_len p
  have f0 : (pc p).toArray.zipIdx.foldl (fun (cs : Array Value) (q : Value × Nat) => cs.setIfInBounds (0 * 32 + q.2) q.1) Z.toArray = (pc p).toArray := by
    have := fold_set (pc p) Z (0 * 32) 0 (by omega)
    rw [← Array.foldl_toList, Array.toList_zipIdx]
    rw [this, splice_all _ _ (by omega)]
  rw [← f0]
  conv => lhs; unfold Instr.fill
  unfold pv
  simp only [Value.cells]
  simp [hd, hZ, Instr.fill]
theorem run_buildP (w : World) (p : Dg × Dg) : (Instr.buildSlice 60 1 #[(0, pv p)]).run Tryd.prog w = .ok (.slice (some ⟨w.heap.size, 0, none⟩) 1 1) (w.alloc (.cells (pc p).toArray 62)) := by
  obtain ⟨i0, hi, hz0, hz1, hz2⟩ := info_parts pz_info
  refine run_buildSlice w _ _ 1 _ _ i0 _ ps_under hi hz0 (by rw [hz1]; omega) (by rw [hz1]; omega) ?_
  rw [hz1]
  have key : ∀ f : Nat → Value, Instr.fill (fun i => some (i * 32, 32)) ((Array.range (1 * 32)).map f) (#[(0, pv p)] : Array (Nat × Value)).toList = some (pc p).toArray := by
    intro f
    have h := fill_pair ((List.range (1 * 32)).map f) p (by simp)
    rw [← h, ← List.map_toArray, List.toArray_range]
  exact key _
section
variable {w : World} {ops : Array Oper} {rest : List Oper} {o1 o2 : Oper} {a : Act} {Q : Exit → Act → World → Prop}
theorem wpList_pushP (h1 : o1.guard = none) (h2 : o2.guard = none) (d d2 : Tmp) (hd : o1.dst = some d) (hdd : o2.dst = some d2) (x : Operand) (ho1 : o1.op = .buildSlice 60 1 #[(0, x)]) (j : Tmp)
    (ho2 : o2.op = .call { callee := .builtin .append, args := #[.tmp j, .tmp d], argTypes := #[60, 60] }) (base : Nat) (v : Value) (l : List (Dg × Dg)) (e : Dg × Dg)
    (hx : a.eval x = pv e) (hs : a.eval (.tmp j) = v) (hne : (d == j) = false) (hsz : decide (d < a.tmps.size) = true)
    (hown : w.ownsRow base 62 32 v l.length (plD l)) (hb : base ≤ w.heap.size) (hl : l.length ≤ 1000)
    (h : ∀ v' w', w'.ownsRow base 62 32 v' (l ++ [e]).length (plD (l ++ [e])) → Below base w w' → (∀ k t cs, v.ownBlock ≠ some k → Blk w k t cs → Blk w' k t cs) → wpList Tryd.prog ops Q rest ((a.put (some d) (.slice (some ⟨w.heap.size, 0, none⟩) 1 1)).put (some d2) v') w') :
    wpList Tryd.prog ops Q (o1 :: o2 :: rest) a w := by
  obtain ⟨i0, hi, hz0, hz1, hz2⟩ := info_parts pz_info
  have hrun := run_buildP w e
  refine wpList_plain h1 fun K hK => ?_
  unfold Oper.wp execOp
  simp only [ho1, List.map_toArray, List.map_cons, List.map_nil, hx, Sem.run_bind, hrun, Result.andThen_ok]
  refine hK _ _ ?_
  rw [hd]
  refine wpList_append_own _ h2 (.tmp j) (.tmp d) 60 ho2 base 62 i0 (.agg (pc (dz, dz)).toArray) 32 32 ps_under hi hz0 hz1 hz2 rfl (by decide) v l.length (plD l) ((put_ne hne).trans hs) (World.ownsRow.alloc hown _)
    ⟨w.heap.size, 0, none⟩ 1 1 (pc e) (put_eq hsz) (by rw [pc_len]) ?_ (pc_one e) (by unfold maxLen; omega) (by omega) (by simp; omega) ?_
  · intro j u hu
    rw [Addr.add_mid, Nat.zero_add, (Blk.new w 62 (pc e)).cell j]
    exact hu
  · intro v' w' ho hg _
    rw [hdd]
    refine h v' w' ?_ ?_ (fun k t cs hk hkb => (hg.block k (by have := hkb.lt; simp; omega) (fun e => hk e.symm)).trans (hkb.alloc _))
    · rw [List.length_append, plD_app, plD_one]; exact ho
    · exact ((Below.refl base w).alloc hb _).grown hg (by simp; omega) (fun k hk => (World.ownsRow.lt hown k hk).1)
end
end Go.Proofs.YtfbemmeonkceiaaDoor

/- The law's steps. -/
namespace Go.Proofs.YtfbemmeonkceiaaDoor
open Go.RowKit Hm Wm

/-- What stands in the loop over the parts. -/
def TuR (w1 : World) (ts : List Bool) (iv nv tv : Value) (wr : World) : Prop :=
  ∃ (i n : Nat) (acc : List Bool), iv = .int .i64 i ∧ nv = .int .i64 n ∧ i < n ∧ n ≤ 1099511627776 ∧ Hid (turnsD i n ++ acc = ts) ∧ Hid (Below w1.heap.size w1 wr) ∧ Hid (wr.ownsRow w1.heap.size 4 1 tv acc.length (acc.map Value.bool))
noncomputable def pairsU (leaf : Dg) (ts : List Bool) (path : List Dg) (k : Nat) : List (Dg × Dg) := (List.range k).map (pAt leaf ts path)
theorem pairsU_len (leaf : Dg) (ts : List Bool) (path : List Dg) (k : Nat) : (pairsU leaf ts path k).length = k := by unfold pairsU; rw [List.length_map, List.length_range]
theorem pairsU_succ (leaf : Dg) (ts : List Bool) (path : List Dg) (k : Nat) : pairsU leaf ts path (k + 1) = pairsU leaf ts path k ++ [pAt leaf ts path k] := by unfold pairsU; rw [List.range_succ, List.map_append]; rfl
/-- What stands in the loop over the path. -/
def StR (wb : World) (leaf : Dg) (ts : List Bool) (path : List Dg) (ov tv : Value) (wr : World) : Prop :=
  ∃ t : Nat, tv = .int .i64 t ∧ t ≤ ts.length ∧ Hid (Below wb.heap.size wb wr) ∧ Hid (Blk wr wb.heap.size 31 (dc (dAt leaf ts path t))) ∧ Hid (wr.ownsRow (wb.heap.size + 1) 62 32 ov (pairsU leaf ts path t).length (plD (pairsU leaf ts path t)))
theorem pair_range {W : World} {g : Nat} {p : Dg × Dg} (hb : Blk W g 62 (pc p)) : W.rangeAt g 0 (dc p.1) ∧ W.rangeAt g 16 (dc p.2) := by
  constructor
  · intro j u hu
    rw [Nat.zero_add, hb.cell j]
    unfold pc
    rw [List.getElem?_append_left (by rcases Nat.lt_or_ge j (dc p.1).length with h | h; exact h; rw [List.getElem?_eq_none h] at hu; cases hu)]
    exact hu
  · intro j u hu
    rw [hb.cell (16 + j)]
    unfold pc
    rw [List.getElem?_append_right (by rw [dc_len]; omega), dc_len, Nat.add_sub_cancel_left]
    exact hu
theorem Below.low {b c : Nat} {w w' : World} (h : Below b w w') (hc : c ≤ b) : Below c w w' := h.mono hc

set_option maxRecDepth 1000000 in
set_option maxHeartbeats 600000 in
theorem steps_any (leaf : Dg) (i n : Nat) (A : Option Addr) (c : Nat) (path : List Dg) (w : World) (hg : Glob w) (hr : RdD w A path) (hi : i < n) (hn : n ≤ 1099511627776) (hp : (turnsD i n).length = path.length) (hp60 : path.length ≤ 60) :
    Calls Tryd.prog 31 #[dv leaf, .int .i64 i, .int .i64 n, .slice A path.length c] w fun e w' => ∃ A' c', e = .returned (.slice A' path.length c') ∧ RdP w' A' (pairsU leaf (turnsD i n) path path.length) ∧ Below w.heap.size w w' := by
  have HB := Lib.hid ((Below.refl w.heap.size w).alloc (Nat.le_refl _) (.cells (dc leaf).toArray 31))
  have HK := Lib.hid (Blk.new w 31 (dc leaf))
  have HG := Lib.hid (hg.next HB.out)
  have HR := Lib.hid (hr.next HB.out)
  obtain ⟨ts, hts⟩ : ∃ ts, turnsD i n = ts := ⟨_, rfl⟩
  rw [hts] at hp ⊢
  have HTS := Lib.hid hts
  have HP := Lib.hid hp
  have htl : ts.length ≤ 60 := by omega
  unfold dv
  clear hg hr hts hp
  go_enter Tryd.func31, Tryd.ntmps31
  go_wp2_with fail
  generalize w.alloc (.cells (dc leaf).toArray 31) = w1 at HB HK HG HR ⊢
  go_loopw [1, 2, 9] (TuR w1 ts) (fun _ nv _ _ => (intOf nv).toNat)
  case atStart => exact ⟨i, n, [], rfl, rfl, hi, hn, Lib.hid (by rw [List.append_nil]; exact HTS.out), Lib.hid (Below.refl _ _), World.ownsRow_nil _ _ _ _⟩
  case round =>
    obtain ⟨i', n', acc, rfl, rfl, hi', hn', HTU, HW, HO⟩ := hrel
    by_cases h2 : 2 ≤ n'
    · have d1 : decide ((1 : Int) < (n' : Int)) = true := decide_eq_true (by omega)
      have d1' : decide (1 < n') = true := decide_eq_true (by omega)
      have hlt := hf_lt h2
      have hpz := hf_pos n'
      have HLO := Lib.hid (fun h => turnsD_lo (i := i') h2 h)
      have HHI := Lib.hid (fun h => turnsD_hi (i := i') h2 h)
      obtain ⟨h, hh⟩ : ∃ h, hf n' = h := ⟨_, rfl⟩
      rw [hh] at hlt hpz HLO HHI
      have HH := Lib.hid hh
      have hal : acc.length ≤ 60 := by have := congrArg List.length HTU.out; rw [List.length_append] at this; omega
      obtain ⟨B9, c9, rfl, hRB, -⟩ := newB_of_row HO.out
      have HRB := Lib.hid hRB
      clear hh hRB
      go_wp2
      go_loop [10] (SpR n') (fun v => n' - (intOf v).toNat)
      case atStart => exact ⟨1, 0, rfl, rfl, Nat.le_refl _, by omega⟩
      case round =>
        obtain ⟨k, e, rfl, HK2, h1, hk⟩ := hrel
        have k0 : (0 : Int) ≤ (k : Int) := by omega
        have k1 : (k : Int) ≤ 1099511627776 := by omega
        by_cases hlt2 : 2 * k < n'
        · have d2 : decide (2 * (k : Int) < (n' : Int)) = true := decide_eq_true (by omega)
          go_wp2
          go_round
          case rel => exact ⟨2 * k, e + 1, by go_num, Lib.hid (by rw [HK2.out, Nat.pow_succ, Nat.mul_comm]), by omega, hlt2⟩
          case measure => simp [intOf]; omega
        · have d2 : decide (2 * (k : Int) < (n' : Int)) = false := decide_eq_false (by omega)
          have hq : k = h := by
            rw [← HH.out, HK2.out]
            exact (hf_only (by rw [← HK2.out]; exact hk) (by rw [← HK2.out]; omega)).symm
          subst hq
          by_cases hlo : i' < k
          · have d3 : decide ((k : Int) ≤ (i' : Int)) = false := decide_eq_false (by omega)
            have d3' : decide (k ≤ i') = false := decide_eq_false (by omega)
            have HTN : Hid (turnsD i' k ++ (false :: acc) = ts) := Lib.hid (by rw [← HTU.out, HLO.out hlo, List.append_assoc]; rfl)
            clear HLO HHI HTU HK2 HH
            go_wp2_with (first | (refine wpList_bool1 rfl (.tmp 27) rfl false rfl ?_; intro v28 x1 hO1 hb1; have HO28 := Lib.hid (own_lower hO1 HW.out.size); have HW1 := Lib.hid (HW.out.trans (hb1.mono HW.out.size)); have HRB1 := Lib.hid (Rd.below HRB.out hb1); clear hO1 hb1) | (refine wpList_appB rfl (.tmp 28) (.tmp 29) rfl w1.heap.size v28 [false] rfl HO28.out B9 c9 acc rfl HRB1.out HW1.out.size (by simp; omega) ?_; intro v30 x2 hO2 hb2; have HO30 := Lib.hid hO2; have HW2 := Lib.hid (HW1.out.trans hb2); clear hO2 hb2))
            go_roundw
            case rel => exact ⟨i', k, false :: acc, by go_num, by go_num, by omega, by omega, HTN, HW2, HO30⟩
            case measure => simp [intOf]; omega
          · have d3 : decide ((k : Int) ≤ (i' : Int)) = true := decide_eq_true (by omega)
            have d3' : decide (k ≤ i') = true := decide_eq_true (by omega)
            have HTN : Hid (turnsD (i' - k) (n' - k) ++ (true :: acc) = ts) := Lib.hid (by rw [← HTU.out, HHI.out (by omega), List.append_assoc]; rfl)
            clear HLO HHI HTU HK2 HH
            go_wp2_with (first | (refine wpList_bool1 rfl (.tmp 27) rfl true rfl ?_; intro v28 x1 hO1 hb1; have HO28 := Lib.hid (own_lower hO1 HW.out.size); have HW1 := Lib.hid (HW.out.trans (hb1.mono HW.out.size)); have HRB1 := Lib.hid (Rd.below HRB.out hb1); clear hO1 hb1) | (refine wpList_appB rfl (.tmp 28) (.tmp 29) rfl w1.heap.size v28 [true] rfl HO28.out B9 c9 acc rfl HRB1.out HW1.out.size (by simp; omega) ?_; intro v30 x2 hO2 hb2; have HO30 := Lib.hid hO2; have HW2 := Lib.hid (HW1.out.trans hb2); clear hO2 hb2))
            go_roundw
            case rel => exact ⟨i' - k, n' - k, true :: acc, by go_num, by go_num, by omega, by omega, HTN, HW2, HO30⟩
            case measure => simp [intOf]; omega
    · have d1 : decide ((1 : Int) < (n' : Int)) = false := decide_eq_false (by omega)
      have d1' : decide (1 < n') = false := decide_eq_false (by omega)
      have hacc : acc = ts := by have := HTU.out; rwa [turnsD_one (by omega), List.nil_append] at this
      obtain rfl : ts = acc := hacc.symm
      obtain ⟨B9, c9, rfl, hRB, -⟩ := newB_of_row HO.out
      have HRB := Lib.hid hRB
      have HKr := Lib.hid (HK.out.next HW.out)
      have HGr := Lib.hid (HG.out.next HW.out)
      have HRr := Lib.hid (HR.out.next HW.out)
      have HBr := Lib.hid (HB.out.trans (HW.out.mono HB.out.size))
      clear hRB HK HG HR HB HO HTU HTS
      go_wp2_with (first | (refine wpList_loadB rfl (.tmp 4) rfl w.heap.size leaf rfl HKr.out ?_) | (refine wpList_var rfl rfl 31 13 rfl rfl rfl (.tmp 39) rfl (zb 16) (dc leaf) dg_zero rfl rfl (dd_len _) (dd_size _) (dc_one _) ?_; intro w3 K13 D3))
      obtain ⟨wb, rfl⟩ : ∃ wb : World, wb = wr := ⟨_, rfl⟩
      go_loopw [12, 14] (StR wb leaf ts path) (fun _ tv _ => ts.length - (intOf tv).toNat)
      case atStart => exact ⟨0, rfl, Nat.zero_le _, D3, K13, World.ownsRow_nil _ _ _ _⟩
      case round =>
        obtain ⟨t, rfl, ht, HW3, HK13, HOU⟩ := hrel
        by_cases hlt : t < ts.length
        · have hlp : t < path.length := by have := HP.out; omega
          have e1 : decide ((t : Int) < (ts.length : Int)) = true := decide_eq_true (by omega)
          have e2 : decide ((t : Int) < (path.length : Int)) = true := decide_eq_true (by omega)
          have e1' : decide (t < ts.length) = true := decide_eq_true hlt
          have e2' : decide (t < path.length) = true := decide_eq_true hlp
          have hgx : path[t]? = some path[t] := List.getElem?_eq_getElem hlp
          have hgt : ts[t]? = some ts[t] := List.getElem?_eq_getElem hlt
          obtain ⟨x, hx⟩ : ∃ x, path[t] = x := ⟨_, rfl⟩
          obtain ⟨tb, htb⟩ : ∃ tb, ts[t] = tb := ⟨_, rfl⟩
          rw [hx] at hgx
          rw [htb] at hgt
          obtain ⟨b, off, rfl, hc⟩ := (HRr.out.next HW3.out).at hgx
          obtain ⟨b', off', rfl, hcell0⟩ := (Rd.below HRB.out HW3.out).at_ (k := t) (u := .bool tb) (by rw [List.getElem?_map, hgt]; rfl)
          obtain ⟨d, hd⟩ : ∃ d, dAt leaf ts path t = d := ⟨_, rfl⟩
          have hpa : pAt leaf ts path t = pairT tb d x := by
            unfold pAt nx
            rw [hd]
            simp [List.getD_eq_getElem?_getD, hgt, hgx]
          have hsu : dAt leaf ts path (t + 1) = nodeP (pairT tb d x) := by rw [dAt_succ, hpa]
          have hpu : pairsU leaf ts path (t + 1) = pairsU leaf ts path t ++ [pairT tb d x] := by rw [pairsU_succ, hpa]
          rw [hd] at HK13
          have hul := pairsU_len leaf ts path t
          obtain ⟨L, hL⟩ : ∃ L, pairsU leaf ts path t = L := ⟨_, rfl⟩
          rw [hL] at HOU hpu hul
          have HUL := Lib.hid (show L.length ≤ 1000 by omega)
          have HSU := Lib.hid hsu
          have HPU := Lib.hid hpu
          have HC := Lib.hid hc
          have HCE := Lib.hid hcell0
          clear hc hcell0 hd hpa hsu hpu hx htb hgx hgt hL hul
          go_wp2_with fail
          refine wp_region_held_drew (S := fun W => Below wr.heap.size wr W) (by kernel_rfl) (Below.refl _ _).drew (fun hS => ?_)
          generalize wr.drew = y0 at hS ⊢
          refine reg_takeG (i := 0) (some 52) rfl rfl rfl (by kernel_rfl) (by kernel_rfl) (by kernel_rfl) (dv d) (fun _ _ _ h => h) (fun W hW => exec_loadB (.tmp 13) rfl rfl (HK13.out.next hW)) hS ?_
          go_frame
          refine reg_takeG (i := 1) (some 53) rfl rfl rfl (by kernel_rfl) (by kernel_rfl) (by kernel_rfl) (.slice (some ⟨b, off, none⟩) path.length c) (fun _ _ _ h => h) (fun W hW => exec_move (.tmp 3) rfl _ rfl) hS ?_
          go_frame
          refine reg_takeG (i := 2) (some 54) rfl rfl rfl (by kernel_rfl) (by kernel_rfl) (by kernel_rfl) (.int .i64 t) (fun _ _ _ h => h) (fun W hW => exec_move (.tmp 14) rfl _ rfl) hS ?_
          go_frame
          refine reg_takeG (i := 3) (some 55) rfl rfl rfl (by kernel_rfl) (by kernel_rfl) (by kernel_rfl) (.pointer (some ⟨b, off + t * 16, none⟩)) (fun _ _ _ h => h) (fun W hW => exec_atD (.tmp 53) (.tmp 54) rfl b off path.length c t hlp rfl rfl) hS ?_
          go_frame
          refine reg_takeG (i := 4) (some 56) rfl rfl rfl (by kernel_rfl) (by kernel_rfl) (by kernel_rfl) (dv x) (fun _ _ _ h => h) (fun W hW => exec_loadD (.tmp 55) rfl _ _ x rfl (range_below' HC.out hW)) hS ?_
          go_frame
          refine reg_takeG (i := 5) (some 57) rfl rfl rfl (by kernel_rfl) (by kernel_rfl) (by kernel_rfl) (pv (d, x)) (fun _ _ _ h => h) (fun W hW => exec_buildN _ _ rfl [(0, dv d), (1, dv x)] rfl _ (run_pair d x _)) hS ?_
          go_frame
          have hQ := Blk.new y0 62 (pc (dz, dz))
          have hal := (Below.refl y0.heap.size y0).alloc (Nat.le_refl _) (.cells (pc (dz, dz)).toArray 62)
          have hz := hS.size
          have hS2 := hS.trans (hal.mono hz)
          refine reg_allocG (i := 6) (some 15) rfl rfl rfl (by kernel_rfl) 62 rfl (pc (dz, dz)) pz_zero ⟨hS2, ?_⟩
          go_frame
          clear hal
          generalize y0.alloc (.cells (pc (dz, dz)).toArray 62) = y1 at hQ hS2 ⊢
          refine reg_store_all (i := 7) rfl rfl rfl (by kernel_rfl) 62 (.tmp 15) (.tmp 57) rfl y0.heap.size 62 (pc (dz, dz)) (pc (d, x)) rfl rfl hQ (p_fit _ _) (p_size _) (pc_one _) ?_
          intro z3 hk3 ho3
          have hS3 := hS2.trans (ho3.below (B := wr.heap.size) hz)
          refine ⟨hS3, wpAnyH_done (by kernel_rfl) ?_ _⟩
          go_frame
          have K15 := Lib.hid hk3
          have HS3 := Lib.hid hS3
          have HZ := Lib.hid hz
          have hcell : z3.cell? ⟨b', off' + t, none⟩ = some (.bool tb) := (hS3.cell (p := ⟨b', off' + t, none⟩) (World.block_lt_of_cell? wr _ HCE.out)).trans HCE.out
          generalize y0.heap.size = g15 at K15 HZ ⊢
          clear hQ hS2 hk3 ho3 hS3 hz hS
          cases tb
          case false =>
            go_wp2_with (first | (refine wpList_load_all rfl _ (.tmp 15) rfl g15 _ (pc (d, x)) _ rfl K15.out Tryd.underlying62 rfl (p_size _) ?_) | (refine wpList_pushP rfl rfl 70 71 rfl rfl (.tmp 69) rfl 68 rfl (wb.heap.size + 1) _ L (d, x) rfl rfl rfl (by kernel_rfl) (own_below HOU.out HS3.out) (by have := HW3.out.size; have := HS3.out.size; have := HK13.out.lt; omega) HUL.out ?_; intro v4 z4 hO4 hb4 hk4; have HO4 := Lib.hid hO4; have HB4 := Lib.hid ((HW3.out.trans (HS3.out.mono HW3.out.size)).trans (hb4.mono (Nat.le_succ _))); have HK4 := Lib.hid ((HK13.out.next HS3.out).below hb4 (Nat.lt_succ_self _)); have HP4 := Lib.hid (pair_range (hk4 _ _ _ (fun he => by have := (World.ownsRow.lt HOU.out _ he).2; have := HZ.out; omega) K15.out)); have HG4 := Lib.hid (HGr.out.next HB4.out); clear hO4 hb4 hk4) | (refine wpList_loadDW rfl (.tmp 72) rfl g15 0 d rfl HP4.out.1 ?_) | (refine wpList_loadDW rfl (.tmp 74) rfl g15 16 x rfl HP4.out.2 ?_))
            refine (node_any d x _ HG4.out).mono ?_
            rintro e z5 ⟨rfl, hb5⟩
            have HB5 := Lib.hid (HB4.out.trans (hb5.mono HB4.out.size))
            have HK5 := Lib.hid (HK4.out.next hb5)
            have HO5 := Lib.hid (own_below HO4.out hb5)
            clear hb5
            go_wp2_with (refine wpList_store_all rfl _ (.tmp 13) (.tmp 76) rfl wb.heap.size _ (dc d) (dc (nodeD d x)) rfl rfl HK5.out (by rw [dc_len, dc_len]) (dd_size _) (dc_one _) ?_; intro z6 hk6 ho6; have HB6 := Lib.hid (HB5.out.trans (ho6.below (Nat.le_refl _))); have HO6 := Lib.hid (own_only HO5.out ho6 (Nat.lt_succ_self _)); clear ho6)
            go_roundw
            case rel => exact ⟨t + 1, by go_num, by omega, HB6, Lib.hid (by rw [HSU.out]; exact hk6.out), Lib.hid (by rw [HPU.out]; exact HO6.out)⟩
            case measure => simp [intOf]; omega
          case true =>
            go_wp2_with fail
            refine wp_region_held_drew (S := fun W => Below wr.heap.size wr W) (by kernel_rfl) HS3.out.drew (fun hS => ?_)
            have hQ : Blk z3.drew g15 62 (pc (d, x)) := K15.out
            generalize z3.drew = u0 at hS hQ ⊢
            refine reg_takeG (i := 0) (some 62) rfl rfl rfl (by kernel_rfl) (by kernel_rfl) (by kernel_rfl) (.slice (some ⟨b, off, none⟩) path.length c) (fun _ _ _ h => h) (fun W hW => exec_move (.tmp 3) rfl _ rfl) hS ?_
            go_frame
            refine reg_takeG (i := 1) (some 63) rfl rfl rfl (by kernel_rfl) (by kernel_rfl) (by kernel_rfl) (.int .i64 t) (fun _ _ _ h => h) (fun W hW => exec_move (.tmp 14) rfl _ rfl) hS ?_
            go_frame
            refine reg_takeG (i := 2) (some 64) rfl rfl rfl (by kernel_rfl) (by kernel_rfl) (by kernel_rfl) (.pointer (some ⟨b, off + t * 16, none⟩)) (fun _ _ _ h => h) (fun W hW => exec_atD (.tmp 62) (.tmp 63) rfl b off path.length c t hlp rfl rfl) hS ?_
            go_frame
            refine reg_takeG (i := 3) (some 65) rfl rfl rfl (by kernel_rfl) (by kernel_rfl) (by kernel_rfl) (dv x) (fun _ _ _ h => h) (fun W hW => exec_loadD (.tmp 64) rfl _ _ x rfl (range_below' HC.out hW)) hS ?_
            go_frame
            refine reg_takeG (i := 4) (some 66) rfl rfl rfl (by kernel_rfl) (by kernel_rfl) (by kernel_rfl) (dv d) (fun _ _ _ h => h) (fun W hW => exec_loadB (.tmp 13) rfl rfl (HK13.out.next hW)) hS ?_
            go_frame
            refine reg_takeG (i := 5) (some 67) rfl rfl rfl (by kernel_rfl) (by kernel_rfl) (by kernel_rfl) (pv (x, d)) (fun _ _ _ h => h) (fun W hW => exec_buildN _ _ rfl [(0, dv x), (1, dv d)] rfl _ (run_pair x d _)) hS ?_
            go_frame
            refine reg_store_all (i := 6) rfl rfl rfl (by kernel_rfl) 62 (.tmp 15) (.tmp 67) rfl g15 62 (pc (d, x)) (pc (x, d)) rfl rfl hQ (p_fit _ _) (p_size _) (pc_one _) ?_
            intro u1 hk7 ho7
            have hS7 := hS.trans (ho7.below (B := wr.heap.size) HZ.out)
            refine ⟨hS7, wpAnyH_done (by kernel_rfl) ?_ _⟩
            go_frame
            replace K15 := Lib.hid hk7
            replace HS3 := Lib.hid hS7
            clear hQ hk7 ho7 hS7 hS hcell
            go_wp2_with (first | (refine wpList_load_all rfl _ (.tmp 15) rfl g15 _ (pc (x, d)) _ rfl K15.out Tryd.underlying62 rfl (p_size _) ?_) | (refine wpList_pushP rfl rfl 70 71 rfl rfl (.tmp 69) rfl 68 rfl (wb.heap.size + 1) _ L (x, d) rfl rfl rfl (by kernel_rfl) (own_below HOU.out HS3.out) (by have := HW3.out.size; have := HS3.out.size; have := HK13.out.lt; omega) HUL.out ?_; intro v4 z4 hO4 hb4 hk4; have HO4 := Lib.hid hO4; have HB4 := Lib.hid ((HW3.out.trans (HS3.out.mono HW3.out.size)).trans (hb4.mono (Nat.le_succ _))); have HK4 := Lib.hid ((HK13.out.next HS3.out).below hb4 (Nat.lt_succ_self _)); have HP4 := Lib.hid (pair_range (hk4 _ _ _ (fun he => by have := (World.ownsRow.lt HOU.out _ he).2; have := HZ.out; omega) K15.out)); have HG4 := Lib.hid (HGr.out.next HB4.out); clear hO4 hb4 hk4) | (refine wpList_loadDW rfl (.tmp 72) rfl g15 0 x rfl HP4.out.1 ?_) | (refine wpList_loadDW rfl (.tmp 74) rfl g15 16 d rfl HP4.out.2 ?_))
            refine (node_any x d _ HG4.out).mono ?_
            rintro e z5 ⟨rfl, hb5⟩
            have HB5 := Lib.hid (HB4.out.trans (hb5.mono HB4.out.size))
            have HK5 := Lib.hid (HK4.out.next hb5)
            have HO5 := Lib.hid (own_below HO4.out hb5)
            clear hb5
            go_wp2_with (refine wpList_store_all rfl _ (.tmp 13) (.tmp 76) rfl wb.heap.size _ (dc d) (dc (nodeD x d)) rfl rfl HK5.out (by rw [dc_len, dc_len]) (dd_size _) (dc_one _) ?_; intro z6 hk6 ho6; have HB6 := Lib.hid (HB5.out.trans (ho6.below (Nat.le_refl _))); have HO6 := Lib.hid (own_only HO5.out ho6 (Nat.lt_succ_self _)); clear ho6)
            go_roundw
            case rel => exact ⟨t + 1, by go_num, by omega, HB6, Lib.hid (by rw [HSU.out]; exact hk6.out), Lib.hid (by rw [HPU.out]; exact HO6.out)⟩
            case measure => simp [intOf]; omega
        · have e1 : decide ((t : Int) < (ts.length : Int)) = false := decide_eq_false (by omega)
          have e1' : decide (t < ts.length) = false := decide_eq_false hlt
          have HT8 := Lib.hid (show (pairsU leaf ts path t).length = path.length by rw [pairsU_len]; have := HP.out; omega)
          have HTT := Lib.hid (show t = path.length by have := HP.out; omega)
          obtain ⟨A', c', rfl, hRP, -⟩ := newP_of_row HOU.out
          have HRP := Lib.hid hRP
          clear hRP HOU
          go_wp2
          go_ret
          exact ⟨A', c', by rw [← HT8.out]; rfl, by rw [← HTT.out]; exact HRP.out, HBr.out.trans (HW3.out.mono HBr.out.size)⟩
end Go.Proofs.YtfbemmeonkceiaaDoor

/- Pairs of digests: reading them out of a row, comparing them. -/
namespace Go.Proofs.YtfbemmeonkceiaaDoor
open Go.RowKit Hm Wm

theorem plD_at : ∀ (l : List (Dg × Dg)) (k : Nat) (p : Dg × Dg) (j : Nat) (u : Value), l[k]? = some p → (pc p)[j]? = some u → (plD l)[k * 32 + j]? = some u := by
  intro l
  induction l with
  | nil => intro k p j u h; simp at h
  | cons q r ih =>
    intro k p j u h hj
    show (pc q ++ plD r)[k * 32 + j]? = some u
    rcases k with _ | k
    · simp only [List.getElem?_cons_zero, Option.some.injEq] at h
      subst h
      have : j < (pc q).length := by
        rcases Nat.lt_or_ge j (pc q).length with h | h
        · exact h
        · rw [List.getElem?_eq_none h] at hj; cases hj
      rw [Nat.zero_mul, Nat.zero_add, List.getElem?_append_left this]
      exact hj
    · rw [List.getElem?_append_right (by rw [pc_len]; omega), pc_len]
      have := ih k p j u (by simpa using h) hj
      rwa [show (k + 1) * 32 + j - 32 = k * 32 + j by omega]
theorem RdP.at {w : World} {A : Option Addr} {l : List (Dg × Dg)} (h : RdP w A l) {k : Nat} {p : Dg × Dg} (hp : l[k]? = some p) : ∃ b off, A = some ⟨b, off, none⟩ ∧ w.rangeAt b (off + k * 32) (pc p) := by
  obtain ⟨hk, -⟩ := List.getElem?_eq_some_iff.1 hp
  obtain ⟨b, off, hA, hc⟩ := h (by intro e; have := plD_len l; rw [e] at this; simp at this; omega)
  refine ⟨b, off, hA, fun j u hj => ?_⟩
  rw [Nat.add_assoc]
  exact hc _ u (plD_at l k p j u hp hj)
theorem range_fst {W : World} {b o : Nat} {p : Dg × Dg} (h : W.rangeAt b o (pc p)) : W.rangeAt b o (dc p.1) := fun j u hu => h j u (by
  unfold pc
  rw [List.getElem?_append_left (by rcases Nat.lt_or_ge j (dc p.1).length with h | h; exact h; rw [List.getElem?_eq_none h] at hu; cases hu)]
  exact hu)
theorem range_snd {W : World} {b o : Nat} {p : Dg × Dg} (h : W.rangeAt b o (pc p)) : W.rangeAt b (o + 16) (dc p.2) := fun j u hu => by
  have := h (16 + j) u (by
    unfold pc
    rw [List.getElem?_append_right (by rw [dc_len]; omega), dc_len, Nat.add_sub_cancel_left]
    exact hu)
  rwa [← Nat.add_assoc] at this
theorem pp_elem : Tryd.prog.elem 60 = 62 := by kernel_rfl
theorem pp_sizeOf (W : World) : (sizeOf 62).run Tryd.prog W = .ok 32 W := by
  cases hq : Tryd.prog.info? 62 with
  | none => have h := p_size (dz, dz); rw [hq] at h; cases h
  | some i =>
    have hs : i.size = 32 := by have h := p_size (dz, dz); rw [hq] at h; simpa [pc_len] using h
    simp [sizeOf, typeInfo, hq, hs]
theorem run_atP (b off n c k : Nat) (hk : k < n) (W : World) : (Instr.indexAt 60 (.slice (some ⟨b, off, none⟩) n c) (.int .i64 k)).run Tryd.prog W = .ok (.pointer (some ⟨b, off + k * 32, none⟩)) W := by
  refine (run_indexAt_slice W 60 ⟨b, off, none⟩ n c .i64 k (by rw [pp_elem]; exact ps_under)).trans ?_
  rw [if_pos ⟨by omega, by omega⟩, pp_elem, pp_sizeOf, Result.andThen_ok, Int.toNat_natCast, Addr.add_mid]
theorem exec_atP {oi : Oper} {a : Act} {w : World} (x y : Operand) (ho : oi.op = .indexAddr 60 x y) (b off n c k : Nat) (hk : k < n) (hx : a.eval x = .slice (some ⟨b, off, none⟩) n c) (hy : a.eval y = .int .i64 k) : (execOp a.eval oi).run Tryd.prog w = .ok (.value (.pointer (some ⟨b, off + k * 32, none⟩))) w :=
  exec_indexAddr _ x y ho _ _ _ hx hy (run_atP b off n c k hk w)
theorem pa_elem2 : Tryd.prog.elem 62 = 31 := by kernel_rfl
theorem pa_len2 : Tryd.prog.arrayLen 62 = 2 := by kernel_rfl
theorem pa_under2 : Tryd.prog.underlying 62 = some (.array 2 31) := by kernel_rfl
theorem run_half (b off : Nat) (k : Nat) (hk : k < 2) (W : World) : (Instr.indexAt 62 (.pointer (some ⟨b, off, none⟩)) (.int .i64 k)).run Tryd.prog W = .ok (.pointer (some ⟨b, off + k * 16, none⟩)) W := by
  refine (run_indexAt_array W 62 ⟨b, off, none⟩ .i64 k (by rw [pa_elem2, pa_len2]; exact pa_under2)).trans ?_
  rw [pa_len2, if_pos ⟨by omega, by omega⟩, pa_elem2, dg_sizeOf, Result.andThen_ok, Int.toNat_natCast, Addr.add_mid]
theorem exec_half {oi : Oper} {a : Act} {w : World} (x y : Operand) (ho : oi.op = .indexAddr 62 x y) (b off k : Nat) (hk : k < 2) (hx : a.eval x = .pointer (some ⟨b, off, none⟩)) (hy : a.eval y = .int .i64 k) : (execOp a.eval oi).run Tryd.prog w = .ok (.value (.pointer (some ⟨b, off + k * 16, none⟩))) w :=
  exec_indexAddr _ x y ho _ _ _ hx hy (run_half b off k hk w)
theorem exec_loadPair {oi : Oper} {a : Act} {w : World} (x : Operand) (ho : oi.op = .load 62 x) (b o : Nat) (p : Dg × Dg) (hx : a.eval x = .pointer (some ⟨b, o, none⟩)) (hc : w.rangeAt b o (pc p)) : (execOp a.eval oi).run Tryd.prog w = .ok (.value (pv p)) w :=
  exec_load 62 x ho _ _ hx (run_loadAt_mid w b o _ (pc p) _ hc pa_under2 rfl (p_size p))
set_option maxRecDepth 100000 in
theorem part_fst (w : World) (p : Dg × Dg) : (part 31 (pc p).toArray 0).run Tryd.prog w = .ok (dv p.1) w := by
  obtain ⟨d, r⟩ := p
  obtain ⟨b0, b1, b2, b3, b4, b5, b6, b7, b8, b9, b10, b11, b12, b13, b14, b15, h⟩ := dg_sixteen d
  obtain ⟨c0, c1, c2, c3, c4, c5, c6, c7, c8, c9, c10, c11, c12, c13, c14, c15, h'⟩ := dg_sixteen r
  obtain ⟨l, hl⟩ := d
  obtain ⟨l', hl'⟩ := r
  subst h
  subst h'
  kernel_rfl
set_option maxRecDepth 100000 in
theorem part_snd (w : World) (p : Dg × Dg) : (part 31 (pc p).toArray 16).run Tryd.prog w = .ok (dv p.2) w := by
  obtain ⟨d, r⟩ := p
  obtain ⟨b0, b1, b2, b3, b4, b5, b6, b7, b8, b9, b10, b11, b12, b13, b14, b15, h⟩ := dg_sixteen d
  obtain ⟨c0, c1, c2, c3, c4, c5, c6, c7, c8, c9, c10, c11, c12, c13, c14, c15, h'⟩ := dg_sixteen r
  obtain ⟨l, hl⟩ := d
  obtain ⟨l', hl'⟩ := r
  subst h
  subst h'
  kernel_rfl
theorem run_equalIn_pair (w : World) (d : Nat) (p q : Dg × Dg) : (Op.equalIn (d + 3) 62 (pv p) (pv q)).run Tryd.prog w = .ok (dgEq p.1 q.1 && dgEq p.2 q.2) w := by
  have hs := dg_sizeOf
  have e1 := run_equalIn_arr _ 16 dg_under w d p.1.1 q.1.1 p.1.2 q.1.2
  have e2 := run_equalIn_arr _ 16 dg_under w d p.2.1 q.2.1 p.2.2 q.2.2
  have e1' : (Op.equalIn (d + 2) 31 (dv p.1) (dv q.1)).run Tryd.prog w = .ok (dgEq p.1 q.1) w := e1
  have e2' : (Op.equalIn (d + 2) 31 (dv p.2) (dv q.2)).run Tryd.prog w = .ok (dgEq p.2 q.2) w := e2
  unfold pv
  unfold Op.equalIn
  simp only [Sem.run_bind, run_underlying pa_under2, Result.andThen_ok, hs, Std.Legacy.Range.forIn_eq_forIn_range', Std.Legacy.Range.size]
  rw [show List.range' 0 ((2 - 0 + 1 - 1) / 1) = [0, 1] from rfl]
  simp only [List.forIn_cons, List.forIn_nil, Sem.run_bind, Nat.zero_mul, Nat.one_mul, part_fst, Result.andThen_ok, e1']
  cases h1 : dgEq p.1 q.1
  · simp
  · simp only [Bool.not_true, Bool.false_eq_true, if_false, Sem.run_pure, Sem.run_bind, part_snd, Result.andThen_ok, e2']
    cases h2 : dgEq p.2 q.2 <;> simp
theorem eqg_pair : Tryd.prog.eqGuardType Tryd.prog.depth 62 = false := by kernel_rfl
theorem exec_nePair {oi : Oper} {a : Act} {w : World} (x y : Operand) (rt : TypeId) (ho : oi.op = .binOp .neq 62 x y rt) (p q : Dg × Dg) (hx : a.eval x = pv p) (hy : a.eval y = pv q) (hne : p ≠ q) : (execOp a.eval oi).run Tryd.prog w = .ok (.value (.bool true)) w :=
  exec_bin .neq 62 rt x y ho _ _ _ hx hy (run_eqGuard_agg w .neq _ x y _ _ eqg_pair) (by
    show (binOp .neq 62 (.agg (pc p).toArray) (.agg (pc q).toArray)).run Tryd.prog w = _
    have h := run_equalIn_pair w 9997 p q
    unfold pv at h
    rw [run_neq_struct, h]
    have : (dgEq p.1 q.1 && dgEq p.2 q.2) = false := by
      cases h1 : dgEq p.1 q.1
      · rfl
      · cases h2 : dgEq p.2 q.2
        · rfl
        · exact absurd (Prod.ext (dgEq_iff.1 h1) (dgEq_iff.1 h2)) hne
    rw [this]; rfl)
end Go.Proofs.YtfbemmeonkceiaaDoor

/- The walk of MerkleProofsBind. -/
namespace Go.Proofs.YtfbemmeonkceiaaDoor
open Go.RowKit Hm Wm

theorem three_boxes (w : World) (x y z : Dg) (hg : All w) : ∃ W, W = (((w.alloc (.cells (dc x).toArray 31)).alloc (.cells (dc y).toArray 31)).alloc (.cells (dc z).toArray 31)) ∧ Below w.heap.size w W ∧ All W ∧ Blk W w.heap.size 31 (dc x) ∧ Blk W (w.heap.size + 1) 31 (dc y) ∧ Blk W (w.heap.size + 1 + 1) 31 (dc z) := by
  have hb := (((Below.refl w.heap.size w).alloc (Nat.le_refl _) (.cells (dc x).toArray 31)).alloc (by simp) (.cells (dc y).toArray 31)).alloc (by simp; omega) (.cells (dc z).toArray 31)
  refine ⟨_, rfl, hb, hg.next hb, ((Blk.new w 31 (dc x)).alloc _).alloc _, ?_, ?_⟩
  · have := (Blk.new (w.alloc (.cells (dc x).toArray 31)) 31 (dc y)).alloc (.cells (dc z).toArray 31)
    rwa [size_alloc] at this
  · have := Blk.new ((w.alloc (.cells (dc x).toArray 31)).alloc (.cells (dc y).toArray 31)) 31 (dc z)
    rwa [size_alloc, size_alloc] at this

set_option maxRecDepth 1000000 in
set_option maxHeartbeats 1000000 in
theorem walkBind_out (x y root : Dg) (i n : Int) (A : Option Addr) (n1 c1 : Nat) (B : Option Addr) (n2 c2 : Nat) (w : World) (hg : All w) (h : 60 < n1 ∨ 60 < n2 ∨ x = y) :
    Calls Tryd.prog 8 #[dv x, dv y, .int .i64 i, .int .i64 n, .slice A n1 c1, .slice B n2 c2, dv root] w fun e w' => e = .returned (.bool true) ∧ Below w.heap.size w w' := by
  obtain ⟨W, hW, hb, hg2, k7, k8, -⟩ := three_boxes w x y root hg
  have HB := Lib.hid hb
  have HS := Lib.hid (sanity_any W hg2)
  have K7 := Lib.hid k7
  have K8 := Lib.hid k8
  clear hg hg2 hb k7 k8
  unfold dv
  by_cases h1 : 60 < n1
  · have d1 : decide ((60 : Int) < (n1 : Int)) = true := decide_eq_true (by omega)
    clear h
    go_enter Tryd.func8, Tryd.ntmps8
    go_wp2_with fail
    rw [← hW]
    refine HS.out.mono ?_
    rintro e w1 ⟨rfl, hb⟩
    have HB1 := Lib.hid (HB.out.trans (hb.mono HB.out.size))
    clear hb
    go_wp2
    go_ret
    exact ⟨rfl, HB1.out⟩
  by_cases h2 : 60 < n2
  · have d1 : decide ((60 : Int) < (n1 : Int)) = false := decide_eq_false (by omega)
    have d2 : decide ((60 : Int) < (n2 : Int)) = true := decide_eq_true (by omega)
    clear h
    go_enter Tryd.func8, Tryd.ntmps8
    go_wp2_with fail
    rw [← hW]
    refine HS.out.mono ?_
    rintro e w1 ⟨rfl, hb⟩
    have HB1 := Lib.hid (HB.out.trans (hb.mono HB.out.size))
    clear hb
    go_wp2
    go_ret
    exact ⟨rfl, HB1.out⟩
  have hxy : x = y := by rcases h with h | h | h <;> first | omega | exact h
  subst hxy
  have d1 : decide ((60 : Int) < (n1 : Int)) = false := decide_eq_false (by omega)
  have d2 : decide ((60 : Int) < (n2 : Int)) = false := decide_eq_false (by omega)
  clear h
  go_enter Tryd.func8, Tryd.ntmps8
  go_wp2_with (first | (refine wpList_loadB rfl (.tmp 7) rfl w.heap.size x rfl (hW ▸ K7.out) ?_) | (refine wpList_loadB rfl (.tmp 8) rfl (w.heap.size + 1) x rfl (hW ▸ K8.out) ?_) | (refine wpList_sameD rfl (.tmp 27) (.tmp 28) _ rfl x rfl rfl ?_))
  rw [← hW]
  refine HS.out.mono ?_
  rintro e w1 ⟨rfl, hb⟩
  have HB1 := Lib.hid (HB.out.trans (hb.mono HB.out.size))
  clear hb
  go_wp2
  go_ret
  exact ⟨rfl, HB1.out⟩

theorem ci_both (x root : Dg) (i n : Int) (A : Option Addr) (c : Nat) (p : List Dg) : ∃ bb : Bool, (∀ W, All W → RdD W A p → Calls Tryd.prog 29 #[dv x, .int .i64 i, .int .i64 n, .slice A p.length c, dv root] W fun e w' => e = .returned (.bool bb) ∧ Below W.heap.size W w') ∧
    (bb = true → ∃ i' n' : Nat, i = i' ∧ n = n' ∧ i' < n' ∧ n' ≤ 1099511627776 ∧ dAt x (turnsD i' n') p (turnsD i' n').length = root ∧ (turnsD i' n').length = p.length) := by
  by_cases h : i < 0 ∨ n ≤ i ∨ 1099511627776 < n
  · exact ⟨false, fun W _ _ => ci_bad x root i n _ W h, by simp⟩
  · obtain ⟨i', rfl⟩ := Int.eq_ofNat_of_zero_le (show 0 ≤ i by omega)
    obtain ⟨n', rfl⟩ := Int.eq_ofNat_of_zero_le (show 0 ≤ n by omega)
    refine ⟨_, fun W hg hr => ci_any x root i' n' A c p W hg.1 hr (by omega) (by omega), fun hb => ⟨i', n', rfl, rfl, by omega, by omega, ?_, ?_⟩⟩
    · rw [oneD_turns x p n' n' i' (Nat.le_refl _), Bool.and_eq_true] at hb
      exact dgEq_iff.1 hb.1
    · rw [oneD_turns x p n' n' i' (Nat.le_refl _), Bool.and_eq_true] at hb
      exact of_decide_eq_true hb.2
theorem pairsU_get (leaf : Dg) (ts : List Bool) (path : List Dg) {k m : Nat} (h : k < m) : (pairsU leaf ts path m)[k]? = some (pAt leaf ts path k) := by
  unfold pairsU
  rw [List.getElem?_map, List.getElem?_range h]
  rfl
def BiR (wb : World) (x y : Dg) (ts : List Bool) (p q : List Dg) (iv : Value) (wr : World) : Prop :=
  ∃ k : Nat, iv = .int .i64 k ∧ k ≤ ts.length ∧ Hid (Below wb.heap.size wb wr) ∧ Hid (dAt x ts p k ≠ dAt y ts q k)

set_option maxRecDepth 1000000 in
set_option maxHeartbeats 1000000 in
theorem walkBind_in (x y root : Dg) (i n : Int) (A : Option Addr) (c1 : Nat) (p : List Dg) (B : Option Addr) (c2 : Nat) (q : List Dg) (w : World) (hg : All w) (hr : RdD w A p) (hr2 : RdD w B q) (h1 : p.length ≤ 60) (h2 : q.length ≤ 60) (hxy : x ≠ y) :
    Calls Tryd.prog 8 #[dv x, dv y, .int .i64 i, .int .i64 n, .slice A p.length c1, .slice B q.length c2, dv root] w fun e w' => e = .returned (.bool true) ∧ Below w.heap.size w w' := by
  obtain ⟨b1, hC1, hT1⟩ := ci_both x root i n A c1 p
  obtain ⟨b2, hC2, hT2⟩ := ci_both y root i n B c2 q
  obtain ⟨W, hW, hb, hg2, k7, k8, k13⟩ := three_boxes w x y root hg
  have HB := Lib.hid hb
  have HG := Lib.hid hg2
  have HR1 := Lib.hid (hr.next hb)
  have HR2 := Lib.hid (hr2.next hb)
  have K7 := Lib.hid k7
  have K8 := Lib.hid k8
  have K13 := Lib.hid k13
  have HC1 := Lib.hid hC1
  have HC2 := Lib.hid hC2
  have HT1 := Lib.hid hT1
  have HT2 := Lib.hid hT2
  have HNE := Lib.hid (dgEq_no hxy)
  have HXY := Lib.hid hxy
  have HP60 := Lib.hid h1
  have HQ60 := Lib.hid h2
  have d1 : decide ((60 : Int) < (p.length : Int)) = false := decide_eq_false (by omega)
  have d2 : decide ((60 : Int) < (q.length : Int)) = false := decide_eq_false (by omega)
  clear hg hg2 hb k7 k8 k13 hr hr2 hC1 hC2 hT1 hT2 hxy h1 h2
  unfold dv
  go_enter Tryd.func8, Tryd.ntmps8
  go_wp2_with (first | (refine wpList_loadB rfl (.tmp 7) rfl w.heap.size x rfl (hW ▸ K7.out) ?_) | (refine wpList_loadB rfl (.tmp 8) rfl (w.heap.size + 1) y rfl (hW ▸ K8.out) ?_) | (refine wpList_loadB rfl (.tmp 13) rfl (w.heap.size + 1 + 1) root rfl (hW ▸ K13.out) ?_) | (refine wpList_eqD rfl (.tmp 27) (.tmp 28) _ rfl x y rfl rfl ?_; rw [HNE.out]))
  rw [← hW]
  clear hW
  refine (HC1.out _ HG.out HR1.out).mono ?_
  rintro e w1 ⟨rfl, hb⟩
  replace HG := Lib.hid (HG.out.next hb)
  replace HR1 := Lib.hid (HR1.out.next hb)
  replace HR2 := Lib.hid (HR2.out.next hb)
  replace K7 := Lib.hid (K7.out.next hb)
  replace K8 := Lib.hid (K8.out.next hb)
  replace K13 := Lib.hid (K13.out.next hb)
  replace HB := Lib.hid (HB.out.trans (hb.mono HB.out.size))
  clear hb HC1
  cases b1
  case false =>
    go_wp2_with fail
    refine (sanity_any _ HG.out).mono ?_
    rintro e w2 ⟨rfl, hb⟩
    have HE := Lib.hid (HB.out.trans (hb.mono HB.out.size))
    clear hb
    go_wp2
    go_ret
    exact ⟨rfl, HE.out⟩
  case true =>
    go_wp2_with (first | (refine wpList_loadB rfl (.tmp 8) rfl (w.heap.size + 1) y rfl K8.out ?_) | (refine wpList_loadB rfl (.tmp 13) rfl (w.heap.size + 1 + 1) root rfl K13.out ?_))
    refine (HC2.out _ HG.out HR2.out).mono ?_
    rintro e w2 ⟨rfl, hb⟩
    replace HG := Lib.hid (HG.out.next hb)
    replace HR1 := Lib.hid (HR1.out.next hb)
    replace HR2 := Lib.hid (HR2.out.next hb)
    replace K7 := Lib.hid (K7.out.next hb)
    replace K8 := Lib.hid (K8.out.next hb)
    replace K13 := Lib.hid (K13.out.next hb)
    replace HB := Lib.hid (HB.out.trans (hb.mono HB.out.size))
    clear hb HC2
    cases b2
    case false =>
      go_wp2_with fail
      refine (sanity_any _ HG.out).mono ?_
      rintro e w3 ⟨rfl, hb⟩
      have HE := Lib.hid (HB.out.trans (hb.mono HB.out.size))
      clear hb
      go_wp2
      go_ret
      exact ⟨rfl, HE.out⟩
    case true =>
      obtain ⟨i, n, rfl, rfl, hin, hn, hx1, hl1⟩ := HT1.out (by simp)
      obtain ⟨i2, n2, ei, en, -, -, hx2, hl2⟩ := HT2.out (by simp)
      obtain rfl : i = i2 := by omega
      obtain rfl : n = n2 := by omega
      have HS1 := Lib.hid (fun (W : World) (h1 : All W) (h2 : RdD W A p) => steps_any x i n A c1 p W h1.1 h2 hin hn hl1 HP60.out)
      have HS2 := Lib.hid (fun (W : World) (h1 : All W) (h2 : RdD W B q) => steps_any y i n B c2 q W h1.1 h2 hin hn hl2 HQ60.out)
      obtain ⟨ts, hts⟩ : ∃ ts, turnsD i n = ts := ⟨_, rfl⟩
      rw [hts] at HS1 HS2 hx1 hx2 hl1 hl2
      have HX1 := Lib.hid hx1
      have HX2 := Lib.hid hx2
      have HL1 := Lib.hid hl1
      have HL2 := Lib.hid hl2
      clear hx1 hx2 hl1 hl2 hts ei en hin hn HT1 HT2 HNE
      go_wp2_with (refine wpList_loadB rfl (.tmp 7) rfl w.heap.size x rfl K7.out ?_)
      refine (HS1.out _ HG.out HR1.out).mono ?_
      rintro e w3 ⟨A15, c15, rfl, hp, hb⟩
      replace HG := Lib.hid (HG.out.next hb)
      replace HR1 := Lib.hid (HR1.out.next hb)
      replace HR2 := Lib.hid (HR2.out.next hb)
      replace K7 := Lib.hid (K7.out.next hb)
      replace K8 := Lib.hid (K8.out.next hb)
      replace K13 := Lib.hid (K13.out.next hb)
      replace HB := Lib.hid (HB.out.trans (hb.mono HB.out.size))
      have HP1 := Lib.hid hp
      clear hb hp HS1
      go_wp2_with (refine wpList_loadB rfl (.tmp 8) rfl (w.heap.size + 1) y rfl K8.out ?_)
      refine (HS2.out _ HG.out HR2.out).mono ?_
      rintro e wb ⟨A16, c16, rfl, hp, hb⟩
      replace HG := Lib.hid (HG.out.next hb)
      replace HP1 := Lib.hid (HP1.out.next hb)
      replace HB := Lib.hid (HB.out.trans (hb.mono HB.out.size))
      have HP2 := Lib.hid hp
      clear hb hp HS2 HR1 HR2 K7 K8 K13
      go_wp2_with fail
      go_loopw [17] (BiR wb x y ts p q) (fun iv _ => ts.length - (intOf iv).toNat)
      case atStart => exact ⟨0, rfl, Nat.zero_le _, Lib.hid (Below.refl _ _), HXY⟩
      case round =>
        obtain ⟨k, rfl, hk, HW, HD⟩ := hrel
        by_cases hlt : k < ts.length
        · have HLT := Lib.hid hlt
          have hkp : k < p.length := by have := HL1.out; omega
          have hkq : k < q.length := by have := HL2.out; omega
          have hk60 : k < 60 := by have := HP60.out; omega
          have e1 : decide ((k : Int) < (p.length : Int)) = true := decide_eq_true (by omega)
          have e2 : decide ((k : Int) < (q.length : Int)) = true := decide_eq_true (by omega)
          have e1' : decide (k < p.length) = true := decide_eq_true hkp
          have e2' : decide (k < q.length) = true := decide_eq_true hkq
          obtain ⟨b1, o1, rfl, hc1⟩ := (HP1.out.next HW.out).at (pairsU_get x ts p hkp)
          obtain ⟨b2, o2, rfl, hc2⟩ := (HP2.out.next HW.out).at (pairsU_get y ts q hkq)
          have hs1 := dAt_succ x ts p k
          have hs2 := dAt_succ y ts q k
          have hne : pAt x ts p k ≠ pAt y ts q k := pairT_ne HD.out
          obtain ⟨P, hP⟩ : ∃ P, pAt x ts p k = P := ⟨_, rfl⟩
          obtain ⟨Q, hQ⟩ : ∃ Q, pAt y ts q k = Q := ⟨_, rfl⟩
          rw [hP] at hc1 hs1 hne
          rw [hQ] at hc2 hs2 hne
          have HN1 := Lib.hid (fun W (h : All W) => node_any P.1 P.2 W h.1)
          have HN2 := Lib.hid (fun W (h : All W) => node_any Q.1 Q.2 W h.1)
          have hu : nodeP P = nodeD P.1 P.2 := rfl
          have hv : nodeP Q = nodeD Q.1 Q.2 := rfl
          rw [hu] at hs1
          rw [hv] at hs2
          obtain ⟨u, hu⟩ : ∃ d, nodeD P.1 P.2 = d := ⟨_, rfl⟩
          obtain ⟨v, hv⟩ : ∃ d, nodeD Q.1 Q.2 = d := ⟨_, rfl⟩
          rw [hu] at HN1 hs1
          rw [hv] at HN2 hs2
          have HC1 := Lib.hid hc1
          have HC2 := Lib.hid hc2
          have HS1 := Lib.hid hs1
          have HS2 := Lib.hid hs2
          have HPQ := Lib.hid hne
          have HGr := Lib.hid (HG.out.next HW.out)
          clear hc1 hc2 hs1 hs2 hne hP hQ hu hv
          go_wp2_with fail
          refine wp_region_held_drew (S := fun W => Below wr.heap.size wr W) (by kernel_rfl) (Below.refl _ _).drew (fun hS => ?_)
          generalize wr.drew = w1 at hS ⊢
          refine reg_takeG (i := 0) (some 71) rfl rfl rfl (by kernel_rfl) (by kernel_rfl) (by kernel_rfl) (.slice (some ⟨b1, o1, none⟩) p.length c15) (fun _ _ _ h => h) (fun W hW => exec_move (.tmp 15) rfl _ rfl) hS ?_
          go_frame
          refine reg_takeG (i := 1) (some 72) rfl rfl rfl (by kernel_rfl) (by kernel_rfl) (by kernel_rfl) (.int .i64 k) (fun _ _ _ h => h) (fun W hW => exec_move (.tmp 17) rfl _ rfl) hS ?_
          go_frame
          refine reg_takeG (i := 2) (some 73) rfl rfl rfl (by kernel_rfl) (by kernel_rfl) (by kernel_rfl) (.pointer (some ⟨b1, o1 + k * 32, none⟩)) (fun _ _ _ h => h) (fun W hW => exec_atP (.tmp 71) (.tmp 72) rfl b1 o1 p.length c15 k hkp rfl rfl) hS ?_
          go_frame
          refine reg_takeG (i := 3) (some 74) rfl rfl rfl (by kernel_rfl) (by kernel_rfl) (by kernel_rfl) (pv P) (fun _ _ _ h => h) (fun W hW => exec_loadPair (.tmp 73) rfl _ _ P rfl (range_below' HC1.out hW)) hS ?_
          go_frame
          refine reg_takeG (i := 4) (some 75) rfl rfl rfl (by kernel_rfl) (by kernel_rfl) (by kernel_rfl) (.slice (some ⟨b2, o2, none⟩) q.length c16) (fun _ _ _ h => h) (fun W hW => exec_move (.tmp 16) rfl _ rfl) hS ?_
          go_frame
          refine reg_takeG (i := 5) (some 76) rfl rfl rfl (by kernel_rfl) (by kernel_rfl) (by kernel_rfl) (.int .i64 k) (fun _ _ _ h => h) (fun W hW => exec_move (.tmp 17) rfl _ rfl) hS ?_
          go_frame
          refine reg_takeG (i := 6) (some 77) rfl rfl rfl (by kernel_rfl) (by kernel_rfl) (by kernel_rfl) (.pointer (some ⟨b2, o2 + k * 32, none⟩)) (fun _ _ _ h => h) (fun W hW => exec_atP (.tmp 75) (.tmp 76) rfl b2 o2 q.length c16 k hkq rfl rfl) hS ?_
          go_frame
          refine reg_takeG (i := 7) (some 78) rfl rfl rfl (by kernel_rfl) (by kernel_rfl) (by kernel_rfl) (pv Q) (fun _ _ _ h => h) (fun W hW => exec_loadPair (.tmp 77) rfl _ _ Q rfl (range_below' HC2.out hW)) hS ?_
          go_frame
          refine reg_takeG (i := 8) (some 79) rfl rfl rfl (by kernel_rfl) (by kernel_rfl) (by kernel_rfl) (.bool true) (fun _ _ _ h => h) (fun W hW => exec_nePair (.tmp 74) (.tmp 78) _ rfl P Q rfl rfl HPQ.out) hS ?_
          go_frame
          refine reg_takeG (i := 9) (some 80) rfl rfl rfl (by kernel_rfl) (by kernel_rfl) (by kernel_rfl) (.bool true) (fun _ _ _ h => h) (fun W hW => exec_move (.tmp 79) rfl _ rfl) hS ?_
          go_frame
          refine reg_takeG (i := 10) (some 81) rfl rfl rfl (by kernel_rfl) (by kernel_rfl) (by kernel_rfl) (.slice (some ⟨b1, o1, none⟩) p.length c15) (fun _ _ _ h => h) (fun W hW => exec_move (.tmp 15) rfl _ rfl) hS ?_
          go_frame
          refine reg_takeG (i := 11) (some 82) rfl rfl rfl (by kernel_rfl) (by kernel_rfl) (by kernel_rfl) (.int .i64 k) (fun _ _ _ h => h) (fun W hW => exec_move (.tmp 17) rfl _ rfl) hS ?_
          go_frame
          refine reg_takeG (i := 12) (some 83) rfl rfl rfl (by kernel_rfl) (by kernel_rfl) (by kernel_rfl) (.pointer (some ⟨b1, o1 + k * 32, none⟩)) (fun _ _ _ h => h) (fun W hW => exec_atP (.tmp 81) (.tmp 82) rfl b1 o1 p.length c15 k hkp rfl rfl) hS ?_
          go_frame
          refine reg_takeG (i := 13) (some 84) rfl rfl rfl (by kernel_rfl) (by kernel_rfl) (by kernel_rfl) (.pointer (some ⟨b1, o1 + k * 32 + 0 * 16, none⟩)) (fun _ _ _ h => h) (fun W hW => exec_half (.tmp 83) (.const (.int .i64 0)) rfl b1 (o1 + k * 32) 0 (by decide) rfl rfl) hS ?_
          go_frame
          refine reg_takeG (i := 14) (some 85) rfl rfl rfl (by kernel_rfl) (by kernel_rfl) (by kernel_rfl) (dv P.1) (fun _ _ _ h => h) (fun W hW => exec_loadD (.tmp 84) rfl _ _ P.1 rfl (range_fst (range_below' HC1.out hW))) hS ?_
          go_frame
          refine reg_takeG (i := 15) (some 86) rfl rfl rfl (by kernel_rfl) (by kernel_rfl) (by kernel_rfl) (.slice (some ⟨b1, o1, none⟩) p.length c15) (fun _ _ _ h => h) (fun W hW => exec_move (.tmp 15) rfl _ rfl) hS ?_
          go_frame
          refine reg_takeG (i := 16) (some 87) rfl rfl rfl (by kernel_rfl) (by kernel_rfl) (by kernel_rfl) (.int .i64 k) (fun _ _ _ h => h) (fun W hW => exec_move (.tmp 17) rfl _ rfl) hS ?_
          go_frame
          refine reg_takeG (i := 17) (some 88) rfl rfl rfl (by kernel_rfl) (by kernel_rfl) (by kernel_rfl) (.pointer (some ⟨b1, o1 + k * 32, none⟩)) (fun _ _ _ h => h) (fun W hW => exec_atP (.tmp 86) (.tmp 87) rfl b1 o1 p.length c15 k hkp rfl rfl) hS ?_
          go_frame
          refine reg_takeG (i := 18) (some 89) rfl rfl rfl (by kernel_rfl) (by kernel_rfl) (by kernel_rfl) (.pointer (some ⟨b1, o1 + k * 32 + 1 * 16, none⟩)) (fun _ _ _ h => h) (fun W hW => exec_half (.tmp 88) (.const (.int .i64 1)) rfl b1 (o1 + k * 32) 1 (by decide) rfl rfl) hS ?_
          go_frame
          refine reg_takeG (i := 19) (some 90) rfl rfl rfl (by kernel_rfl) (by kernel_rfl) (by kernel_rfl) (dv P.2) (fun _ _ _ h => h) (fun W hW => exec_loadD (.tmp 89) rfl _ _ P.2 rfl (range_snd (range_below' HC1.out hW))) hS ?_
          go_frame
          refine reg_takeG (i := 21) (some 92) rfl rfl rfl (by kernel_rfl) (by kernel_rfl) (by kernel_rfl) (.slice (some ⟨b2, o2, none⟩) q.length c16) (fun _ _ _ h => h) (fun W hW => exec_move (.tmp 16) rfl _ rfl) hS ?_
          go_frame
          refine reg_takeG (i := 22) (some 93) rfl rfl rfl (by kernel_rfl) (by kernel_rfl) (by kernel_rfl) (.int .i64 k) (fun _ _ _ h => h) (fun W hW => exec_move (.tmp 17) rfl _ rfl) hS ?_
          go_frame
          refine reg_takeG (i := 23) (some 94) rfl rfl rfl (by kernel_rfl) (by kernel_rfl) (by kernel_rfl) (.pointer (some ⟨b2, o2 + k * 32, none⟩)) (fun _ _ _ h => h) (fun W hW => exec_atP (.tmp 92) (.tmp 93) rfl b2 o2 q.length c16 k hkq rfl rfl) hS ?_
          go_frame
          refine reg_takeG (i := 24) (some 95) rfl rfl rfl (by kernel_rfl) (by kernel_rfl) (by kernel_rfl) (.pointer (some ⟨b2, o2 + k * 32 + 0 * 16, none⟩)) (fun _ _ _ h => h) (fun W hW => exec_half (.tmp 94) (.const (.int .i64 0)) rfl b2 (o2 + k * 32) 0 (by decide) rfl rfl) hS ?_
          go_frame
          refine reg_takeG (i := 25) (some 96) rfl rfl rfl (by kernel_rfl) (by kernel_rfl) (by kernel_rfl) (dv Q.1) (fun _ _ _ h => h) (fun W hW => exec_loadD (.tmp 95) rfl _ _ Q.1 rfl (range_fst (range_below' HC2.out hW))) hS ?_
          go_frame
          refine reg_takeG (i := 26) (some 97) rfl rfl rfl (by kernel_rfl) (by kernel_rfl) (by kernel_rfl) (.slice (some ⟨b2, o2, none⟩) q.length c16) (fun _ _ _ h => h) (fun W hW => exec_move (.tmp 16) rfl _ rfl) hS ?_
          go_frame
          refine reg_takeG (i := 27) (some 98) rfl rfl rfl (by kernel_rfl) (by kernel_rfl) (by kernel_rfl) (.int .i64 k) (fun _ _ _ h => h) (fun W hW => exec_move (.tmp 17) rfl _ rfl) hS ?_
          go_frame
          refine reg_takeG (i := 28) (some 99) rfl rfl rfl (by kernel_rfl) (by kernel_rfl) (by kernel_rfl) (.pointer (some ⟨b2, o2 + k * 32, none⟩)) (fun _ _ _ h => h) (fun W hW => exec_atP (.tmp 97) (.tmp 98) rfl b2 o2 q.length c16 k hkq rfl rfl) hS ?_
          go_frame
          refine reg_takeG (i := 29) (some 100) rfl rfl rfl (by kernel_rfl) (by kernel_rfl) (by kernel_rfl) (.pointer (some ⟨b2, o2 + k * 32 + 1 * 16, none⟩)) (fun _ _ _ h => h) (fun W hW => exec_half (.tmp 99) (.const (.int .i64 1)) rfl b2 (o2 + k * 32) 1 (by decide) rfl rfl) hS ?_
          go_frame
          refine reg_takeG (i := 30) (some 101) rfl rfl rfl (by kernel_rfl) (by kernel_rfl) (by kernel_rfl) (dv Q.2) (fun _ _ _ h => h) (fun W hW => exec_loadD (.tmp 100) rfl _ _ Q.2 rfl (range_snd (range_below' HC2.out hW))) hS ?_
          go_frame
          refine reg_callG (i := 20) (some 91) rfl rfl rfl (by kernel_rfl) rfl Tryd.func19 (by kernel_rfl) (by kernel_rfl) #[dv P.1, dv P.2] rfl (HN1.out w1 (HGr.out.next hS)) ?_
          rintro e w2 ⟨rfl, hb⟩
          have hS2 := hS.trans (hb.mono hS.size)
          refine ⟨_, rfl, hS2, ?_⟩
          go_frame
          clear hb
          refine reg_callG (i := 31) (some 102) rfl rfl rfl (by kernel_rfl) rfl Tryd.func19 (by kernel_rfl) (by kernel_rfl) #[dv Q.1, dv Q.2] rfl (HN2.out w2 (HGr.out.next hS2)) ?_
          rintro e w3 ⟨rfl, hb⟩
          have hS3 := hS2.trans (hb.mono hS2.size)
          refine ⟨_, rfl, hS3, ?_⟩
          go_frame
          clear hb
          refine reg_valueG (i := 32) (some 103) rfl rfl rfl (by kernel_rfl) (.bool (dgEq u v)) (exec_eqD (.tmp 91) (.tmp 102) _ rfl u v rfl rfl) hS3 ?_
          go_frame
          refine reg_valueG (i := 33) (some 104) rfl rfl rfl (by kernel_rfl) (.bool (dgEq u v)) (exec_pick (.tmp 80) (.tmp 103) (.const (.bool false)) rfl _ rfl rfl) hS3 ?_
          go_frame
          refine wpAnyH_done (by kernel_rfl) ?_ _
          have HZ := Lib.hid hS3
          clear hS hS3
          replace HG := Lib.hid (HGr.out.next HZ.out)
          have HB3 := Lib.hid (HB.out.trans ((HW.out.trans (HZ.out.mono HW.out.size)).mono HB.out.size))
          cases hd : dgEq u v
          case false =>
            have hne : u ≠ v := fun e => by rw [dgEq_iff.2 e] at hd; cases hd
            have HNX := Lib.hid (show dAt x ts p (k + 1) ≠ dAt y ts q (k + 1) by rw [HS1.out, HS2.out]; exact hne)
            have HWZ := Lib.hid (HW.out.trans (HZ.out.mono HW.out.size))
            clear hd hne
            go_wp2
            go_roundw
            case rel => exact ⟨k + 1, by go_num, by have := HLT.out; omega, HWZ, HNX⟩
            case measure => have := HLT.out; simp [intOf]; omega
          case true =>
            clear hd
            go_wp2_with fail
            refine (sanity_any _ HG.out).mono ?_
            rintro e w9 ⟨rfl, hb⟩
            have HE := Lib.hid (HB3.out.trans (hb.mono HB3.out.size))
            clear hb
            go_wp2
            go_ret
            exact ⟨rfl, HE.out⟩
        · exfalso
          obtain rfl : k = ts.length := by omega
          exact HD.out (HX1.out.trans HX2.out.symm)

theorem walkBind (x y root : Dg) (i n : Int) (A : Option Addr) (c1 : Nat) (p : List Dg) (B : Option Addr) (c2 : Nat) (q : List Dg) (w : World) (hg : All w) (hr : RdD w A p) (hr2 : RdD w B q) :
    Calls Tryd.prog 8 #[dv x, dv y, .int .i64 i, .int .i64 n, .slice A p.length c1, .slice B q.length c2, dv root] w fun e w' => e = .returned (.bool true) ∧ Below w.heap.size w w' := by
  by_cases h : 60 < p.length ∨ 60 < q.length ∨ x = y
  · exact walkBind_out x y root i n A p.length c1 B q.length c2 w hg h
  · exact walkBind_in x y root i n A c1 p B c2 q w hg hr hr2 (by omega) (by omega) (fun e => h (.inr (.inr e)))
end Go.Proofs.YtfbemmeonkceiaaDoor
