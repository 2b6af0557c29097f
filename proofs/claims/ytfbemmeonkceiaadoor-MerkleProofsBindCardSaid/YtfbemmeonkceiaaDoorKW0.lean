/- Laws for the walks of the merkle laws. -/
import Derived.Test.YtfbemmeonkceiaaDoorK25
namespace Go.Proofs.YtfbemmeonkceiaaDoor
open Go.RowKit Hm Wm

theorem exec_neqI {P : Program} {oi : Oper} {a : Act} {w : World} (t : TypeId) (x y : Operand) (rt : TypeId) (ho : oi.op = .binOp .neq t x y rt) (k : IntKind) (m n : Int) (hx : a.eval x = .int k m) (hy : a.eval y = .int k n) : (execOp a.eval oi).run P w = .ok (.value (.bool (m != n))) w :=
  exec_bin .neq t rt x y ho _ _ _ hx hy (by simp [go_sem]) (by simp [go_sem])
theorem exec_pickF {P : Program} {oi : Oper} {a : Act} {w : World} (c x y : Operand) (ho : oi.op = .pick c x y) (v : Value) (hc : a.eval c = .bool false) (hy : a.eval y = v) : (execOp a.eval oi).run P w = .ok (.value v) w := by
  subst hy
  simp [execOp, ho, hc, asBool]
theorem run_hiD (A : Option Addr) (n c k : Nat) (hk : k ≤ n) (hn : n ≤ c) (W : World) :
    (Instr.sliceAt 22 (.slice A n c) none (some (.int .i64 k)) none).run Tryd.prog W = .ok (.slice A k c) W := by
  have hu : Tryd.prog.underlying 22 = some (.slice 31) := Tryd.underlying22
  simp [Instr.sliceAt, Instr.slice, run_underlying hu, Instr.sliceBounds, run_sliceBound, (by omega : (k : Int) ≤ c)]
  intro _
  rcases A with _ | ⟨b, o, i⟩
  · rfl
  · cases i <;> simp [Addr.add]
theorem exec_hiD {oi : Oper} {a : Act} {w : World} (x y : Operand) (ho : oi.op = .slice 22 x none (some y) none) (A : Option Addr) (n c k : Nat) (hk : k ≤ n) (hn : n ≤ c) (hx : a.eval x = .slice A n c) (hy : a.eval y = .int .i64 k) : (execOp a.eval oi).run Tryd.prog w = .ok (.value (.slice A k c)) w :=
  exec_slice_hi _ x y ho _ _ _ hx hy (run_hiD A n c k hk hn w)
theorem exec_sameNeD {oi : Oper} {a : Act} {w : World} (x y : Operand) (rt : TypeId) (ho : oi.op = .binOp .neq 31 x y rt) (d : Dg) (hx : a.eval x = dv d) (hy : a.eval y = dv d) : (execOp a.eval oi).run Tryd.prog w = .ok (.value (.bool false)) w := by
  have := exec_neqD (w := w) x y rt ho d d hx hy
  rwa [dgEq_iff.2 rfl] at this
theorem run_load_cell {W : World} {g o : Nat} {v : Value} {ty : TypeId} (hag : ∀ W, (isAgg ty).run Tryd.prog W = .ok false W) (h : W.cell? ⟨g, o, none⟩ = some v) : (Instr.loadAt ty (.pointer (some ⟨g, o, none⟩))).run Tryd.prog W = .ok v W := by
  simp [Instr.loadAt, Instr.sureAddr, loadVar, hag, run_load, h]
theorem pk_field0 (g : Nat) (W : World) : (Instr.fieldAt 43 (.pointer (some ⟨g, 0, none⟩)) 0).run Tryd.prog W = .ok (.pointer (some ⟨g, 0, none⟩)) W := by kernel_rfl
/-- An own row of digests is appended to. -/
theorem wpList_appD {w : World} {ops : Array Oper} {rest : List Oper} {o : Oper} {a : Act} {Q : Exit → Act → World → Prop} (hgd : o.guard = none) (s x : Operand)
    (ho : o.op = .call { callee := .builtin .append, args := #[s, x], argTypes := #[22, 22] })
    (base : Nat) (v : Value) (l : List Dg) (hs : a.eval s = v) (hown : w.ownsRow base 31 16 v l.length (dl l)) (B : Option Addr) (c : Nat) (r : List Dg) (hx : a.eval x = .slice B r.length c) (hr : RdD w B r) (hb : base ≤ w.heap.size) (hl : l.length + r.length ≤ 1000000)
    (h : ∀ v' w', w'.ownsRow base 31 16 v' (l ++ r).length (dl (l ++ r)) → Below base w w' → wpList Tryd.prog ops Q rest (a.put o.dst v') w') :
    wpList Tryd.prog ops Q (o :: rest) a w := by
  obtain ⟨i0, hi, hz0, hz1, hz2⟩ := info_parts dg_info
  by_cases hrn : r = []
  · subst hrn
    have hrun : (Builtin.append_ #[22, 22] o.type #[v, .slice B 0 c]).run Tryd.prog w = .ok v w := by
      rcases hown.2 with ⟨rfl, _⟩ | ⟨g, cap, cur, rfl, _, _, hnc, _⟩
      · cases B <;> simp [Builtin.append_, run_underlying ds_under, sizeOf, typeInfo, hi, Builtin.lenOf, Builtin.firstCells, loadCells, loadCellsFrom]
      · cases B <;> simp [Builtin.append_, run_underlying ds_under, sizeOf, typeInfo, hi, Builtin.lenOf, Builtin.firstCells, hnc, storeCells, loadCells, loadCellsFrom]
    refine wpList_plain hgd fun K hK => ?_
    unfold Oper.wp execOp
    simp only [ho, resolve, invoke, builtin, Sem.run_bind, Sem.run_pure, Result.andThen_ok, List.map_toArray, List.map_cons, List.map_nil, hs, hx, List.length_nil, hrun]
    exact hK _ _ (h v w (by rw [List.append_nil]; exact hown) (Below.refl _ _))
  · have hrne : dl r ≠ [] := by intro e; apply hrn; have := dl_len r; rw [e] at this; exact List.eq_nil_of_length_eq_zero (by simp at this; omega)
    obtain ⟨b, rfl, hd⟩ := Rd.news hr hrne
    refine wpList_append_own _ hgd s x 22 ho base 31 i0 (.agg (zb 16).toArray) 16 16 ds_under hi hz0 hz1 hz2 rfl (by decide) v l.length (dl l) hs hown
      b r.length c (dl r) hx (by rw [dl_len]) hd (dl_oneCell r) (by unfold maxLen; omega) (by omega) hb ?_
    intro v' w' h1 h2 _
    refine h v' w' ?_ ?_
    · rw [List.length_append, dl_app]
      exact h1
    · exact (Below.refl base w).grown h2 hb (fun k hk => (World.ownsRow.lt hown k hk).1)
/-- An empty row that was just made. -/
theorem own_emptyD (w : World) : (w.alloc (.cells #[] 31)).ownsRow w.heap.size 31 16 (.slice (some ⟨w.heap.size, 0, none⟩) 0 0) ([] : List Dg).length (dl []) :=
  World.ownsRow_made w #[] 0 (Nat.le_refl _) (Nat.zero_le _) rfl

theorem wpList_emptyD {w : World} {ops : Array Oper} {rest : List Oper} {o : Oper} {a : Act} {Q : Exit → Act → World → Prop} (hw : Region.wanted o (yielded ops a.tmps) = true) (ho : o.op = .buildSlice 22 0 #[])
    (h : ∀ w', Hid (w'.ownsRow w.heap.size 31 16 (.slice (some ⟨w.heap.size, 0, none⟩) 0 0) ([] : List Dg).length (dl [])) → Below w.heap.size w w' → wpList Tryd.prog ops Q rest (a.put o.dst (.slice (some ⟨w.heap.size, 0, none⟩) 0 0)) w') : wpList Tryd.prog ops Q (o :: rest) a w := by
  obtain ⟨i0, hi, hz0, hz1, hz2⟩ := info_parts dg_info
  have e : ∀ f : Nat → Value, Array.map f (Array.range 0) = #[] := fun f => Array.eq_empty_of_size_eq_zero (by rw [Array.size_map, Array.size_range])
  have hrun : (Instr.buildSlice 22 0 #[]).run Tryd.prog w = .ok (.slice (some ⟨w.heap.size, 0, none⟩) 0 0) (w.alloc (.cells #[] 31)) := by
    simp [Instr.buildSlice, run_underlying ds_under, sizeOf, typeInfo, hi, newRow, Instr.fill, e]
  refine wpList_want hw fun K hK => ?_
  unfold Oper.wp execOp
  simp only [ho, List.map_toArray, List.map_nil, Sem.run_bind, hrun, Result.andThen_ok]
  exact hK _ _ (h _ (Lib.hid (own_emptyD w)) ((Below.refl _ _).alloc (Nat.le_refl _) _))

/-- Top of tops that are a list's. -/
theorem topP_any (l : List Dg) (A : Option Addr) (c : Nat) (tops : List Dg) (w : World) (hg : All w) (hp : PkD tops l) (hr : RdD w A tops) (hl : l.length ≤ 1099511627776) (hc : tops.length ≤ c) :
    Calls Tryd.prog 26 #[pkV l.length (.slice A tops.length c)] w fun e w' => e = .returned (.tuple #[dv (rootD l), .int .i64 0]) ∧ Below w.heap.size w w' := by
  have hn := hp.len
  by_cases h0 : l = []
  · subst h0
    rw [rootD_nil]
    exact top_zero A tops.length c w hg.1 (wfB_in 0 _ (by omega) hn)
  · obtain ⟨t, x, rfl, hj⟩ := hp.top h0 hl
    rw [← hj]
    exact top_any l.length A c t x w hg.1 hr (by intro e; exact h0 (List.eq_nil_of_length_eq_zero e)) hl hn hc
end Go.Proofs.YtfbemmeonkceiaaDoor
