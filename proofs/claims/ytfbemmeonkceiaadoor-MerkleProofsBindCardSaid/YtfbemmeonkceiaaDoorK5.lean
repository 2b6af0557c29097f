/- A law: a load beside a call and what is made of the call's result; digests appended to a variable. -/
import Derived.Test.YtfbemmeonkceiaaDoorK4
namespace Go.Proofs.YtfbemmeonkceiaaDoor
open Go.RowKit Hm Wm

section
variable {P : Program} {md : Region.Mode} {ops : Array Oper} {Q : Exit → Act → World → Prop} {S : World → Prop} {fuel : Nat} {listed : Array Bool} {a : Act} {w : World}
theorem op_make {i : Nat} {oi : Oper} {K : Act → World → Prop} (d : Option Tmp) (hi : ops[i]? = some oi) (hd : oi.dst = d) (hgd : oi.guard = none) (v : Value) (w' : World) (hrun : (execOp a.eval oi).run P w = .ok (.value v) w') (h : K (a.put d v) w') : wpOp P ops Q i K a w := by
  subst hd
  exact op_wp hi hgd (by unfold Oper.wp; rw [hrun]; exact h)
/-- A load (i), a call (k), and what is made of the call's result (m): the load may come anywhere. -/
theorem any_beside {i k m : Nat} {oi ok om : Oper} (di dk dm : Tmp) (h1 : ∀ d, some di = some d → some dk ≠ some d) (h2 : ∀ d, some di = some d → some dm ≠ some d) (hik : i ≠ k) (him : i ≠ m)
    (hi : ops[i]? = some oi) (hk : ops[k]? = some ok) (hm : ops[m]? = some om) (ei : oi.dst = some di) (ek : ok.dst = some dk) (em : om.dst = some dm) (gi : oi.guard = none) (gk : ok.guard = none) (gm : om.guard = none)
    (r0 : Region.ready md ops listed = [i, k]) (r1 : Region.ready md ops (listed.setIfInBounds i true) = [k]) (r2 : Region.ready md ops (listed.setIfInBounds k true) = [i, m])
    (r3 : Region.ready md ops ((listed.setIfInBounds i true).setIfInBounds k true) = [m]) (r4 : Region.ready md ops ((listed.setIfInBounds k true).setIfInBounds m true) = [i])
    (ty : TypeId) (x : Operand) (ho : oi.op = .load ty x) (p v : Value) (x0 : a.eval x = p) (x1 : ∀ r, (a.put (some dk) r).eval x = p) (x2 : ∀ r s, ((a.put (some dk) r).put (some dm) s).eval x = p)
    (hl : ∀ W, S W → (Instr.loadAt ty p).run P W = .ok v W) (hS : S w)
    {F : FuncId} {xs : Array Operand} {ts : Array TypeId} (hc : ok.op = .call { callee := .value (.func F), args := xs, argTypes := ts }) {fn : Func} (hf : P.funcs[F]? = some fn) (hn : (fn.name == "runtime.NumGoroutine") = false) (hb : fn.body.isNone = false)
    (vs : Array Value) (v0 : xs.toList.map a.eval = vs.toList) (v1 : xs.toList.map (a.put (some di) v).eval = vs.toList) {R : Ending → World → Prop} (hR : Calls P F vs w R)
    (h : ∀ e w', R e w' → ∃ r s w'', e = .returned r ∧ S w' ∧ S w'' ∧ (execOp (a.put (some dk) r).eval om).run P w' = .ok (.value s) w'' ∧ (execOp ((a.put (some di) v).put (some dk) r).eval om).run P w' = .ok (.value s) w'' ∧
      wpAny P md ops Q fuel (((listed.setIfInBounds i true).setIfInBounds k true).setIfInBounds m true) (((a.put (some di) v).put (some dk) r).put (some dm) s) w'') :
    wpAny P md ops Q (fuel + 3) listed a w := by
  refine any_two r0 ?_ ?_
  · refine op_value (some di) hi ei gi v (exec_load ty x ho p v x0 (hl w hS)) ?_
    refine any_one r1 (op_call (some dk) hk ek gk hc hf hn hb vs v1 hR fun e w' he => ?_)
    obtain ⟨r, s, w'', rfl, _, _, _, hm2, hw⟩ := h e w' he
    exact ⟨r, rfl, any_one r3 (op_make (some dm) hm em gm s w'' hm2 hw)⟩
  · refine op_call (some dk) hk ek gk hc hf hn hb vs v0 hR fun e w' he => ?_
    obtain ⟨r, s, w'', rfl, hS', hS'', hm1, hm2, hw⟩ := h e w' he
    refine ⟨r, rfl, any_two r2 ?_ ?_⟩
    · refine op_value (some di) hi ei gi v (exec_load ty x ho p v (x1 r) (hl w' hS')) ?_
      rw [Array.setIfInBounds_comm _ _ (Ne.symm hik), ← Act.put_comm a v r h1]
      exact any_one r3 (op_make (some dm) hm em gm s w'' hm2 hw)
    · refine op_make (some dm) hm em gm s w'' hm1 ?_
      refine any_one r4 (op_value (some di) hi ei gi v (exec_load ty x ho p v (x2 r s) (hl w'' hS'')) ?_)
      rw [← Act.put_comm (a.put (some dk) r) v s h2, ← Act.put_comm a v r h1, Array.setIfInBounds_comm _ _ (Ne.symm him), Array.setIfInBounds_comm _ _ (Ne.symm hik)]
      exact hw
end

/-- An own row is kept where only later blocks turn, and where only an earlier block turns. -/
theorem own_below {w w' : World} {base : Nat} {e : TypeId} {size : Nat} {v : Value} {n : Nat} {xs : List Value} (h : w.ownsRow base e size v n xs) (hb : Below w.heap.size w w') : w'.ownsRow base e size v n xs := by
  refine ⟨h.1, ?_⟩
  rcases h.2 with hn | ⟨g, cap, cur, rfl, hbg, hg, rest⟩
  · exact .inl hn
  · exact .inr ⟨g, cap, cur, rfl, hbg, (hb.block g (Array.getElem?_eq_some_iff.1 hg).1).trans hg, rest⟩
theorem own_only {w w' : World} {base g0 : Nat} {e : TypeId} {size : Nat} {v : Value} {n : Nat} {xs : List Value} (h : w.ownsRow base e size v n xs) (ho : Only g0 w w') (hg0 : g0 < base) : w'.ownsRow base e size v n xs := by
  refine ⟨h.1, ?_⟩
  rcases h.2 with hn | ⟨g, cap, cur, rfl, hbg, hg, rest⟩
  · exact .inl hn
  · exact .inr ⟨g, cap, cur, rfl, hbg, (ho.block g (by omega)).trans hg, rest⟩
/-- A variable of one cell is loaded and stored. -/
theorem run_load_var {W : World} {g : Nat} {T : TypeId} {v : Value} (ty : TypeId) (hag : ∀ W, (isAgg ty).run Tryd.prog W = .ok false W) (h : Blk W g T [v]) : (Instr.loadAt ty (.pointer (some ⟨g, 0, none⟩))).run Tryd.prog W = .ok v W := by
  have hc := h.cell 0
  simp [Instr.loadAt, Instr.sureAddr, loadVar, hag, run_load, hc]
theorem run_store_var {w : World} {g : Nat} {T : TypeId} {v0 : Value} (ty : TypeId) (v : Value) (hb : Blk w g T [v0]) (hi : (Tryd.prog.info? ty).map (·.size) = some 1) (h1 : v.oneCell' = true) (hv : v.cells = #[v]) :
    (Instr.storeAt ty (.pointer (some ⟨g, 0, none⟩)) v).run Tryd.prog w = .ok () (w.setRow g #[v]) := by
  have h := run_storeCells_at Tryd.prog g 0 T [v] 0 #[v0] w hb (by simp) (by intro u hu; rw [List.mem_singleton.1 hu]; exact h1)
  cases hq : Tryd.prog.info? ty with
  | none => simp [hq] at hi
  | some i =>
    have hs : i.size = 1 := by simpa [hq] using hi
    simp at h
    simp [Instr.storeAt, Instr.sureAddr, storeVar, sizeOf, typeInfo, hq, hv, hs, h]
theorem ds_size : (Tryd.prog.info? 22).map (·.size) = some 1 := by kernel_rfl
theorem ds_flat (W : World) : (isAgg 22).run Tryd.prog W = .ok false W := by kernel_rfl
theorem dg_info : (Tryd.prog.info? 31).map (fun i => (i.zero, i.size, i.bytes)) = some (some (.agg (zb 16).toArray), 16, 16) := by kernel_rfl
theorem ds_under : Tryd.prog.underlying 22 = some (.slice 31) := Tryd.underlying22
/-- Digests are laid into a row, one behind the other. -/
theorem fill_step (place : Nat → Option (Nat × Nat)) (Z : List Value) (k : Nat) (d : Dg) (r : List (Nat × Value)) (hp : place k = some (k * 16, 16)) (hZ : (k + 1) * 16 ≤ Z.length) :
    Instr.fill place Z.toArray ((k, dv d) :: r) = Instr.fill place (splice Z (k * 16) (dc d)).toArray r := by
  have hd := dc_len d
  have f0 : (dc d).toArray.zipIdx.foldl (fun (cs : Array Value) (p : Value × Nat) => cs.setIfInBounds (k * 16 + p.2) p.1) Z.toArray = (splice Z (k * 16) (dc d)).toArray := by
    have := fold_set (dc d) Z (k * 16) 0 (by omega)
    rw [← Array.foldl_toList, Array.toList_zipIdx]
    exact this
  rw [← f0]
  conv => lhs; unfold Instr.fill
  rw [hp]
  unfold dv
  simp only [Value.cells]
  simp [hd]
  omega
theorem fill_ds (place : Nat → Option (Nat × Nat)) (hp : ∀ i, place i = some (i * 16, 16)) : ∀ (l : List Dg) (k : Nat) (Z : List Value), Z.length = (k + l.length) * 16 →
    Instr.fill place Z.toArray ((l.zipIdx k).map fun p => (p.2, dv p.1)) = some (Z.take (k * 16) ++ dl l).toArray := by
  intro l
  induction l with
  | nil => intro k Z h; simp only [List.length_nil] at h; rw [List.take_of_length_le (by omega)]; simp [Instr.fill, dl]
  | cons d r ih =>
    intro k Z h
    simp only [List.length_cons] at h
    have hd := dc_len d
    rw [List.zipIdx_cons, List.map_cons, fill_step place Z k d _ (hp k) (by omega), ih (k + 1) _ (by rw [length_splice _ _ _ (by omega)]; omega)]
    congr 2
    show _ = _ ++ (dc d ++ dl r)
    rw [← List.append_assoc]
    congr 1
    unfold splice
    rw [← List.append_assoc, List.take_append_of_le_length (by rw [List.length_append, List.length_take]; omega), List.take_of_length_le (by rw [List.length_append, List.length_take]; omega)]
/-- A list of digests is made. -/
theorem run_buildD (w : World) (l : List Dg) (h0 : l ≠ []) (hl : l.length ≤ 1000) : (Instr.buildSlice 22 l.length (l.zipIdx.map fun p => (p.2, dv p.1)).toArray).run Tryd.prog w = .ok (.slice (some ⟨w.heap.size, 0, none⟩) l.length l.length) (w.alloc (.cells (dl l).toArray 31)) := by
  obtain ⟨i0, hi, hz0, hz1, hz2⟩ := info_parts dg_info
  have hpos : 0 < l.length := List.length_pos_iff.2 h0
  refine run_buildSlice w _ _ l.length _ _ i0 _ ds_under hi hz0 (by rw [hz1]; omega) (by rw [hz1]; omega) ?_
  rw [hz1]
  have key : ∀ f : Nat → Value, Instr.fill (fun i => some (i * 16, 16)) ((Array.range (l.length * 16)).map f) ((l.zipIdx.map fun p => (p.2, dv p.1)).toArray).toList = some (dl l).toArray := by
    intro f
    have h := fill_ds (fun i => some (i * 16, 16)) (fun _ => rfl) l 0 ((List.range (l.length * 16)).map f) (by simp)
    rw [Nat.zero_mul, List.take_zero, List.nil_append] at h
    rw [← h, List.toList_toArray, ← List.map_toArray, List.toArray_range]
  exact key _
theorem exec_buildD1 {oi : Oper} {a : Act} {w : World} (x : Operand) (ho : oi.op = .buildSlice 22 1 #[(0, x)]) (d : Dg) (hx : a.eval x = dv d) :
    (execOp a.eval oi).run Tryd.prog w = .ok (.value (.slice (some ⟨w.heap.size, 0, none⟩) 1 1)) (w.alloc (.cells (dc d).toArray 31)) := by
  have h := run_buildD w [d] (by simp) (by simp)
  rw [dl_one] at h
  unfold execOp
  simp only [ho, List.map_toArray, List.map_cons, List.map_nil, hx, Sem.run_bind]
  have e : (Instr.buildSlice 22 1 #[(0, dv d)]).run Tryd.prog w = .ok (.slice (some ⟨w.heap.size, 0, none⟩) 1 1) (w.alloc (.cells (dc d).toArray 31)) := h
  rw [e]
  rfl
end Go.Proofs.YtfbemmeonkceiaaDoor
