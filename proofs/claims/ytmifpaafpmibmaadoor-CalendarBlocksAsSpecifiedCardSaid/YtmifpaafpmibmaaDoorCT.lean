/- The reference's dates. -/
import Derived.Test.YtmifpaafpmibmaaDoorCM
namespace Go.Proofs.YtmifpaafpmibmaaDoor
open Go.RowKit Hm Wm Cm

theorem wpList_store_cell {w : World} {ops : Array Oper} {rest : List Oper} {op : Oper} {a : Act} {Q : Exit → Act → World → Prop} (hgd : op.guard = none) (x y : Operand) (ho : op.op = .store 3 x y)
    (g o : Nat) (t : TypeId) (cur : List Value) (v : Int) (hx : a.eval x = .pointer (some ⟨g, o, none⟩)) (hy : a.eval y = .int .i64 v) (hb : Blk w g t cur) (hl : o < cur.length)
    (h : ∀ w', Hid (Blk w' g t (cur.set o (.int .i64 v))) → Only g w w' → wpList Tryd.prog ops Q rest (a.put op.dst undef) w') : wpList Tryd.prog ops Q (op :: rest) a w := by
  have hs := run_storeCells_at Tryd.prog g o t [.int .i64 v] 0 cur.toArray w hb (by simp; omega) (by intro u hu; rw [List.mem_singleton.1 hu]; rfl)
  have hrun : (Instr.storeAt 3 (.pointer (some ⟨g, o, none⟩)) (.int .i64 v)).run Tryd.prog w = .ok () (w.setRow g (splice cur o [.int .i64 v]).toArray) := by
    cases hq : Tryd.prog.info? 3 with
    | none => have hi := int_size; rw [hq] at hi; cases hi
    | some i =>
      have hsz : i.size = 1 := by have hi := int_size; rw [hq] at hi; simpa using hi
      have e : (splice cur o [Value.int .i64 v]).toArray = (cur.toArray.toList.take (o + 0) ++ [Value.int .i64 v] ++ cur.toArray.toList.drop (o + 0 + [Value.int .i64 v].length)).toArray := by simp [splice]
      rw [e, ← hs]
      simp [Instr.storeAt, Instr.sureAddr, storeVar, sizeOf, typeInfo, hq, Value.cells, hsz]
  have hsp : splice cur o [.int .i64 v] = cur.set o (.int .i64 v) := by
    unfold splice
    rw [List.set_eq_take_append_cons_drop, if_pos hl]
    simp
  rw [hsp] at hrun
  refine wpList_plain hgd fun K hK => ?_
  unfold Oper.wp execOp
  simp only [ho, hx, hy, Sem.run_bind, hrun, Result.andThen_ok]
  exact hK _ _ (h _ (setRow_heap w g _ _ t _ hb) (Only.setRow w g _))
set_option maxRecDepth 100000 in
set_option maxHeartbeats 400000 in
theorem rleap_any (y : Int) (w : World) : Calls Tryd.prog 44 #[.int .i64 y] w fun e w' => e = .returned (.bool (lpI y)) ∧ w = w' := by
  cases h4 : (y.tmod 4 == 0) <;> cases h100 : (y.tmod 100 == 0) <;> cases h400 : (y.tmod 400 == 0)
  all_goals
    have hR : lpI y = ((y.tmod 4 == 0) && !(y.tmod 100 == 0) || (y.tmod 400 == 0)) := rfl
    rw [h4, h100, h400] at hR
    have HR := Lib.hid hR
    clear hR
    have g100 : (y.tmod 100 != 0) = !(y.tmod 100 == 0) := rfl
    rw [h100] at g100
    simp only [Bool.not_false, Bool.not_true] at g100
    go_enter Tryd.func44, Tryd.ntmps44
    go_wp2
    go_ret
    exact ⟨by rw [HR.out]; rfl, rfl⟩
def dyI (y : Int) : Int := if lpI y then 366 else 365
set_option maxRecDepth 100000 in
set_option maxHeartbeats 400000 in
theorem rdays_any (y : Int) (w : World) : Calls Tryd.prog 42 #[.int .i64 y] w fun e w' => e = .returned (.int .i64 (dyI y)) ∧ w = w' := by
  have HC := Lib.hid (rleap_any y w)
  unfold dyI
  cases hl : lpI y
  all_goals
    rw [hl] at HC
    clear hl
    go_enter Tryd.func42, Tryd.ntmps42
    go_wp2_with fail
    refine HC.out.mono ?_
    rintro e w' ⟨rfl, rfl⟩
    go_wp2
    go_ret
    exact ⟨rfl, rfl⟩
set_option maxRecDepth 100000 in
set_option maxHeartbeats 1000000 in
theorem rlength_any (y z : Int) (m : Nat) (w : World) (hm : m < 12) (hz : z = (m : Int) + 1) : Calls Tryd.prog 43 #[.int .i64 y, .int .i64 z] w fun e w' => e = .returned (.int .i64 (mlI y m : Nat)) ∧ w = w' := by
  subst hz
  have HC := Lib.hid (rleap_any y w)
  have h12 : m = 0 ∨ m = 1 ∨ m = 2 ∨ m = 3 ∨ m = 4 ∨ m = 5 ∨ m = 6 ∨ m = 7 ∨ m = 8 ∨ m = 9 ∨ m = 10 ∨ m = 11 := by omega
  cases hl : lpI y
  all_goals
    rw [hl] at HC
    have HL := Lib.hid hl
    clear hl
    rcases h12 with rfl | rfl | rfl | rfl | rfl | rfl | rfl | rfl | rfl | rfl | rfl | rfl
    all_goals
      go_enter Tryd.func43, Tryd.ntmps43
      go_wp2_with fail
      refine HC.out.mono ?_
      rintro e w' ⟨rfl, rfl⟩
      go_wp2
      go_ret
      exact ⟨by unfold mlI; rw [HL.out]; rfl, rfl⟩
abbrev d4 (y m d e : Int) : List Value := [.int .i64 y, .int .i64 m, .int .i64 d, .int .i64 e]
def dtV (y m d e : Int) : Value := .agg #[.int .i64 y, .int .i64 m, .int .i64 d, .int .i64 e]
theorem dt_one (y m d e : Int) : ∀ v ∈ d4 y m d e, v.oneCell' = true := by
  intro v hv
  simp at hv
  rcases hv with rfl | rfl | rfl | rfl <;> rfl
theorem dt_size : (Tryd.prog.info? 66).map (·.size) = some 4 := by kernel_rfl
theorem dt_zero : (Tryd.prog.info? 66).map (·.zero) = some (some (.agg (d4 0 0 0 0).toArray)) := by kernel_rfl
theorem dt_b3 (W : World) : (Instr.build 66 #[(3, .int .i64 3)]).run Tryd.prog W = .ok (.agg (d4 0 0 0 3).toArray) W := by kernel_rfl
theorem dt_b01 (W : World) : (Instr.build 66 #[(0, .int .i64 2000), (1, .int .i64 1)]).run Tryd.prog W = .ok (.agg (d4 2000 1 0 0).toArray) W := by kernel_rfl
theorem dt_f0 (g : Nat) (W : World) : (Instr.fieldAt 66 (.pointer (some ⟨g, 0, none⟩)) 0).run Tryd.prog W = .ok (.pointer (some ⟨g, 0, none⟩)) W := by kernel_rfl
theorem dt_f1 (g : Nat) (W : World) : (Instr.fieldAt 66 (.pointer (some ⟨g, 0, none⟩)) 1).run Tryd.prog W = .ok (.pointer (some ⟨g, 1, none⟩)) W := by kernel_rfl
theorem dt_f2 (g : Nat) (W : World) : (Instr.fieldAt 66 (.pointer (some ⟨g, 0, none⟩)) 2).run Tryd.prog W = .ok (.pointer (some ⟨g, 2, none⟩)) W := by kernel_rfl
theorem dt_f3 (g : Nat) (W : World) : (Instr.fieldAt 66 (.pointer (some ⟨g, 0, none⟩)) 3).run Tryd.prog W = .ok (.pointer (some ⟨g, 3, none⟩)) W := by kernel_rfl
theorem dt_under : Tryd.prog.underlying 66 = some (.struct (Tryd.prog.fieldsOf 66)) := by kernel_rfl
theorem exec_build1 {P : Program} {oi : Oper} {a : Act} {w : World} (ty : TypeId) (m : Nat) (x : Operand) (ho : oi.op = .build ty #[(m, x)]) (p v : Value) (hx : a.eval x = p) (hl : (Instr.build ty #[(m, p)]).run P w = .ok v w) : (execOp a.eval oi).run P w = .ok (.value v) w := by
  subst hx
  simp [execOp, ho, hl]
theorem exec_build2' {P : Program} {oi : Oper} {a : Act} {w : World} (ty : TypeId) (m n : Nat) (x y : Operand) (ho : oi.op = .build ty #[(m, x), (n, y)]) (p q v : Value) (hx : a.eval x = p) (hy : a.eval y = q) (hl : (Instr.build ty #[(m, p), (n, q)]).run P w = .ok v w) : (execOp a.eval oi).run P w = .ok (.value v) w := by
  subst hx; subst hy
  simp [execOp, ho, hl]
set_option maxRecDepth 100000 in
set_option maxHeartbeats 400000 in
theorem rdate_no (d : Int) (w : World) (h : d < 0 ∨ 14609 < d) : Calls Tryd.prog 37 #[.int .i64 d] w fun e w' => e = .returned (dtV 0 0 0 3) ∧ Below w.heap.size w w' := by
  have HZ := Lib.hid (Blk.new w 66 (d4 0 0 0 0))
  have HW := Lib.hid ((Below.refl w.heap.size w).alloc (Nat.le_refl _) (.cells (d4 0 0 0 0).toArray 66))
  by_cases h0 : d < 0
  all_goals
    first | have h1 : 14609 < d := by omega | skip
    clear h
    go_enter Tryd.func37, Tryd.ntmps37
    go_wp2_with (first | (refine wpList_dst 10 rfl ?_; refine wpList_run 10 rfl rfl _ (exec_build1 66 3 (.const (.int .i64 3)) rfl (.int .i64 3) _ rfl (dt_b3 _)) ?_; go_frame) | (refine wpList_store_all rfl 66 (.tmp 2) (.tmp 10) rfl w.heap.size _ (d4 0 0 0 0) (d4 0 0 0 3) rfl rfl HZ.out rfl dt_size (dt_one _ _ _ _) ?_; intro w9 HK9 ho9; have HO9 := Lib.hid ho9; clear ho9))
    exact bodyPost_ret (results_blk rfl _ _ w.heap.size _ (d4 0 0 0 3) _ rfl HK9.out dt_under rfl dt_size) rfl ⟨rfl, HW.out.trans (HO9.out.below (Nat.le_refl _))⟩
end Go.Proofs.YtmifpaafpmibmaaDoor
