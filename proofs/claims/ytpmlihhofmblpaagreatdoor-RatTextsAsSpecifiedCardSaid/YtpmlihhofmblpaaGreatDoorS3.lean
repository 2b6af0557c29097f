/- The reference: Neg. -/
import Derived.Test.YtpmlihhofmblpaaGreatDoorS2
namespace Go.Proofs.YtpmlihhofmblpaaGreatDoor
open Go.RowKit Hm Wm Wn

theorem fa_api_Rat_0_0 (g : Nat) (W : World) : (Instr.fieldAt 26 (.pointer (some ⟨g, 0, none⟩)) 0).run Tryz.prog W = .ok (.pointer (some ⟨g, 0, none⟩)) W := by kernel_rfl
theorem size_bool : (Tryz.prog.info? 4).map (·.size) = some 1 := by kernel_rfl
section
variable {ops : Array Oper} {rest : List Oper} {o op : Oper} {a : Act} {w : World} {Q : Exit → Act → World → Prop} {K : Act → World → Prop}
theorem run_store_at (ty : TypeId) (g o : Nat) (t : TypeId) (cur : List Value) (v : Value) (hb : Blk w g t cur) (hl : o < cur.length) (hi : (Tryz.prog.info? ty).map (·.size) = some 1) (h1 : v.oneCell' = true) (hv : v.cells = #[v]) :
    (Instr.storeAt ty (.pointer (some ⟨g, o, none⟩)) v).run Tryz.prog w = .ok () (w.setRow g (cur.set o v).toArray) := by
  have hs := run_storeCells_at Tryz.prog g o t [v] 0 cur.toArray w hb (by simp; omega) (by intro u hu; rw [List.mem_singleton.1 hu]; exact h1)
  have hsp : splice cur o [v] = cur.set o v := by
    unfold splice
    rw [List.set_eq_take_append_cons_drop, if_pos hl]
    simp
  cases hq : Tryz.prog.info? ty with
  | none => rw [hq] at hi; cases hi
  | some i =>
    have hsz : i.size = 1 := by rw [hq] at hi; simpa using hi
    have e : (splice cur o [v]).toArray = (cur.toArray.toList.take (o + 0) ++ [v] ++ cur.toArray.toList.drop (o + 0 + [v].length)).toArray := by simp [splice]
    rw [← hsp, e, ← hs]
    simp [Instr.storeAt, Instr.sureAddr, storeVar, sizeOf, typeInfo, hq, hv, hsz]
theorem wp_store_at (ty : TypeId) (x y : Operand) (ho : op.op = .store ty x y) (g o : Nat) (t : TypeId) (cur : List Value) (v : Value) (hx : a.eval x = .pointer (some ⟨g, o, none⟩)) (hy : a.eval y = v) (hb : Blk w g t cur) (hl : o < cur.length)
    (hi : (Tryz.prog.info? ty).map (·.size) = some 1) (h1 : v.oneCell' = true) (hv : v.cells = #[v]) (h : ∀ w', Blk w' g t (cur.set o v) → Only g w w' → K (a.put op.dst undef) w') : op.wp Tryz.prog a w K Q := by
  have hrun := run_store_at ty g o t cur v hb hl hi h1 hv
  unfold Oper.wp execOp
  simp only [ho, hx, hy, Sem.run_bind, hrun, Result.andThen_ok]
  exact h _ (setRow_heap w g _ _ t _ hb) (Only.setRow w g _)
theorem wpList_store_at (hgd : op.guard = none) (ty : TypeId) (x y : Operand) (ho : op.op = .store ty x y) (g o : Nat) (t : TypeId) (cur : List Value) (v : Value) (hx : a.eval x = .pointer (some ⟨g, o, none⟩)) (hy : a.eval y = v) (hb : Blk w g t cur) (hl : o < cur.length)
    (hi : (Tryz.prog.info? ty).map (·.size) = some 1) (h1 : v.oneCell' = true) (hv : v.cells = #[v]) (h : ∀ w', Hid (Blk w' g t (cur.set o v)) → Only g w w' → wpList Tryz.prog ops Q rest (a.put op.dst undef) w') : wpList Tryz.prog ops Q (op :: rest) a w :=
  wpList_plain hgd fun _ hK => wp_store_at ty x y ho g o t cur v hx hy hb hl hi h1 hv fun w' e1 e2 => hK _ _ (h w' e1 e2)
end
theorem fr_neg {q : Rat} (h : q ≠ 0) : fr (-q) = ⟨!(fr q).neg, (fr q).n, (fr q).d⟩ := by
  have h0 : q.num ≠ 0 := fun e => h (Rat.num_eq_zero.1 e)
  refine fr_of (by rw [show (-q).num = -q.num from rfl, Int.natAbs_neg]) rfl (fun _ => ?_) (fun e => absurd e (num_ne h))
  rw [show (-q).num = -q.num from rfl]
  show decide (-q.num < 0) = !decide (q.num < 0)
  by_cases h1 : q.num < 0
  · rw [decide_eq_true h1, decide_eq_false (by omega)]; rfl
  · rw [decide_eq_false h1, decide_eq_true (by omega)]; rfl
end Go.Proofs.YtpmlihhofmblpaaGreatDoor
