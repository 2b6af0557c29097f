/- The reference: Floor and Ceil. -/
import Derived.Test.YtpmlihhofmblpaaGreatDoorS7
import Derived.Deep.DeepCutAuto
namespace Go.Proofs.YtpmlihhofmblpaaGreatDoor
open Go.RowKit Hm Wm Wn

theorem zero_rivermarkref04_Divided : (Tryz.prog.info? 94).map (·.zero) = some (some (.agg #[.string ByteArray.empty, .string ByteArray.empty, .int .i64 0])) := by kernel_rfl
theorem size_rivermarkref04_Divided : (Tryz.prog.info? 94).map (·.size) = some 3 := by kernel_rfl
theorem fa_rivermarkref04_Divided_0_0 (g : Nat) (W : World) : (Instr.fieldAt 94 (.pointer (some ⟨g, 0, none⟩)) 0).run Tryz.prog W = .ok (.pointer (some ⟨g, 0, none⟩)) W := by kernel_rfl
theorem fa_rivermarkref04_Divided_1_0 (g : Nat) (W : World) : (Instr.fieldAt 94 (.pointer (some ⟨g, 0, none⟩)) 1).run Tryz.prog W = .ok (.pointer (some ⟨g, 1, none⟩)) W := by kernel_rfl
theorem flat_int (W : World) : (isAgg 3).run Tryz.prog W = .ok false W := by kernel_rfl
theorem flat_api_Errno (W : World) : (isAgg 28).run Tryz.prog W = .ok false W := by kernel_rfl
theorem exec_build2 {P : Program} {oi : Oper} {a : Act} {w : World} (ty : TypeId) (x y : Operand) (ho : oi.op = .build ty #[(0, x), (1, y)]) (p q v : Value) (hx : a.eval x = p) (hy : a.eval y = q) (hl : (Instr.build ty #[(0, p), (1, q)]).run P w = .ok v w) : (execOp a.eval oi).run P w = .ok (.value v) w := by
  subst hx; subst hy
  simp [execOp, ho, hl]
/-- What Floor hands out. -/
def fl5 (q : Rat) : Value := if -999999999999999 ≤ q.floor ∧ q.floor ≤ 999999999999999 then .agg #[.int .i64 q.floor, .int .i64 0] else .agg #[.int .i64 0, .int .i64 3]
theorem fl5_in {q : Rat} {z : Int} (hz : q.floor = z) (h : -999999999999999 ≤ z ∧ z ≤ 999999999999999) : fl5 q = .agg #[.int .i64 z, .int .i64 0] := by unfold fl5; rw [hz, if_pos h]
theorem fl5_out {q : Rat} {z : Int} (hz : q.floor = z) (h : ¬ (-999999999999999 ≤ z ∧ z ≤ 999999999999999)) : fl5 q = .agg #[.int .i64 0, .int .i64 3] := by unfold fl5; rw [hz, if_neg h]
theorem rt_parts (q : Rat) (b : Bool) (h : decide (q.num < 0) = b) : ∃ n d, rt q = ⟨b, n, d⟩ := ⟨(rt q).n, (rt q).d, by rw [← h, ← rt_negb]⟩
theorem cmp_big (u v : Nat) (h : v < u) : decide (0 < cmpN u v) = true := by unfold cmpN; rw [if_neg (by omega), if_pos h]; rfl
theorem cmp_small (u v : Nat) (h : u ≤ v) : decide (0 < cmpN u v) = false := by unfold cmpN; rw [if_neg (show ¬ v < u by omega)]; split <;> rfl
/-- Floor and Ceil of both sides agree. -/
theorem fl_both (q : Rat) : ∃ n k : Int, floorV q = .tuple #[.int .i64 n, .int .i64 k] ∧ fl5 q = .agg #[.int .i64 n, .int .i64 k] ∧ -999999999999999 ≤ n ∧ n ≤ 999999999999999 := by
  by_cases h : -999999999999999 ≤ q.floor ∧ q.floor ≤ 999999999999999
  · exact ⟨_, _, floorV_in h, fl5_in rfl h, h.1, h.2⟩
  · exact ⟨0, 3, floorV_out h, fl5_out rfl h, by decide, by decide⟩
end Go.Proofs.YtpmlihhofmblpaaGreatDoor
