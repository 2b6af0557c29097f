/- Covers follow; what stands at a place of blocks that follow; numbers from ticks. -/
import Derived.Test.YtbboadoolgcmaaaDoorCX
namespace Go.Proofs.YtbboadoolgcmaaaDoor
open Go.RowKit Hm Wm Cm

theorem fol_cover {N b a : Nat} {l : List Bk} (h : Gr N b a l) (hN : N ≤ 4) (hM : b ≤ M) : fol (l.map toI) a b = true := by
  induction h with
  | nil => exact beq_self_eq_true _
  | cons hlt hg ih =>
    rename_i a l
    obtain ⟨t1, t2⟩ := top_fits N a b hlt
    have hle := top_le N a b
    show ((a : Int) == (a : Int) && okB ((top N a b : Nat) : Int) (a : Int) ((nx (top N a b) a : Nat) : Int) && fol (l.map toI) ((nx (top N a b) a : Nat) : Int) b) = true
    rw [beq_self_eq_true, Bool.true_and, ih, Bool.and_true]
    exact (okB_iff _ _ _).2 ⟨top N a b, a, by omega, by omega, rfl, rfl, t1, rfl⟩
theorem fol_le : ∀ (L : List I3) (f t : Int), fol L f t = true → f ≤ t
  | [], f, t, h => by
    have : f = t := by simpa [fol] using h
    omega
  | (l, a, b) :: r, f, t, h => by
    simp only [fol, Bool.and_eq_true, beq_iff_eq] at h
    obtain ⟨⟨h1, h2⟩, h3⟩ := h
    obtain ⟨K, F, _, hF, _, e2, _, e4⟩ := (okB_iff _ _ _).1 h2
    have := blk_in (L := K) hF
    have := fol_le r b t h3
    omega
theorem fol_step {L : List I3} {k p b : Nat} {x : I3} (hx : L[k]? = some x) (h : fol (L.drop k) p b = true) :
    ∃ K q : Nat, x = ((K : Int), (p : Int), (q : Int)) ∧ K ≤ 4 ∧ p < M ∧ fl K p = p ∧ nx K p = q ∧ p < q ∧ q ≤ b ∧ fol (L.drop (k + 1)) q b = true := by
  obtain ⟨l, a, c⟩ := x
  rw [fol_at hx] at h
  simp only [Bool.and_eq_true, beq_iff_eq] at h
  obtain ⟨⟨h1, h2⟩, h3⟩ := h
  subst h1
  obtain ⟨K, F, hK, hF, e1, e2, e3, e4⟩ := (okB_iff _ _ _).1 h2
  have hin := blk_in (L := K) hF
  have hle := fol_le _ _ _ h3
  obtain rfl : p = F := by omega
  subst e1 e4
  exact ⟨K, nx K p, rfl, hK, hF, e3, rfl, hin.2.1, by omega, h3⟩
theorem rem_tick (x a : Int) (h0 : 0 ≤ x) (ha : x % 1402561 = a) (W : World) : (binOp .rem 3 (.int .i64 x) (.int .i64 1402561)).run Tryd.prog W = .ok (.int .i64 a) W := by
  subst ha
  simp [binOp, go_sem]
  rw [Int.tmod_eq_emod_of_nonneg h0]
theorem conv_tick (x : Int) (h0 : 0 ≤ x) (h1 : x ≤ 4294967295) (W : World) : (convert 62 3 (.int .u32 x)).run Tryd.prog W = .ok (.int .i64 x) W := by
  rw [run_convert_int W 62 3 .u32 x (by kernel_rfl) (by kernel_rfl)]
  rw [show Tryd.prog.intKind 3 = .i64 from by kernel_rfl, IntWalk.i64_in _ (by omega)]
theorem u32_flat (W : World) : (isAgg 62).run Tryd.prog W = .ok false W := by kernel_rfl
theorem exec_loadU {oi : Oper} {a : Act} {w : World} {g o : Nat} (x : Operand) (ho : oi.op = .load 62 x) (v : Value) (hx : a.eval x = .pointer (some ⟨g, o, none⟩)) (h : w.cell? ⟨g, o, none⟩ = some v) : (execOp a.eval oi).run Tryd.prog w = .ok (.value v) w :=
  exec_load 62 x ho _ _ hx (run_load_cell u32_flat h)
theorem u2_at0 (W : World) (b : Nat) : (Instr.indexAt 64 (.pointer (some ⟨b, 0, none⟩)) (.int .i64 0)).run Tryd.prog W = .ok (.pointer (some ⟨b, 0, none⟩)) W := by kernel_rfl
theorem u2_at1 (W : World) (b : Nat) : (Instr.indexAt 64 (.pointer (some ⟨b, 0, none⟩)) (.int .i64 1)).run Tryd.prog W = .ok (.pointer (some ⟨b, 1, none⟩)) W := by kernel_rfl
section
variable {P : Program} {oi : Oper} {a : Act} {w : World}
theorem exec_lssI (t : TypeId) (x y : Operand) (rt : TypeId) (ho : oi.op = .binOp .lss t x y rt) (k : IntKind) (m n : Int) (r : Bool) (hr : decide (m < n) = r) (hx : a.eval x = .int k m) (hy : a.eval y = .int k n) : (execOp a.eval oi).run P w = .ok (.value (.bool r)) w := by
  subst hr
  exact exec_bin .lss t rt x y ho _ _ _ hx hy (by simp [go_sem]) (by simp [go_sem])
theorem exec_leqI (t : TypeId) (x y : Operand) (rt : TypeId) (ho : oi.op = .binOp .leq t x y rt) (k : IntKind) (m n : Int) (r : Bool) (hr : decide (m ≤ n) = r) (hx : a.eval x = .int k m) (hy : a.eval y = .int k n) : (execOp a.eval oi).run P w = .ok (.value (.bool r)) w := by
  subst hr
  exact exec_bin .leq t rt x y ho _ _ _ hx hy (by simp [go_sem]) (by simp [go_sem])
theorem exec_gtrI (t : TypeId) (x y : Operand) (rt : TypeId) (ho : oi.op = .binOp .gtr t x y rt) (k : IntKind) (m n : Int) (r : Bool) (hr : decide (n < m) = r) (hx : a.eval x = .int k m) (hy : a.eval y = .int k n) : (execOp a.eval oi).run P w = .ok (.value (.bool r)) w := by
  subst hr
  exact exec_bin .gtr t rt x y ho _ _ _ hx hy (by simp [go_sem]) (by simp [go_sem])
end
/-- A field of a block inside a row. -/
theorem bn_fm1 (g o : Nat) (W : World) : (Instr.fieldAt 38 (.pointer (some ⟨g, o, none⟩)) 1).run Tryd.prog W = .ok (.pointer (some ⟨g, o + 1, none⟩)) W := by kernel_rfl
theorem bn_fm2 (g o : Nat) (W : World) : (Instr.fieldAt 38 (.pointer (some ⟨g, o, none⟩)) 2).run Tryd.prog W = .ok (.pointer (some ⟨g, o + 2, none⟩)) W := by kernel_rfl
theorem rg_cell {W : World} {g o : Nat} {l : List Value} (h : W.rangeAt g o l) (j : Nat) (v : Value) (hv : l[j]? = some v) : W.cell? ⟨g, o + j, none⟩ = some v := by
  exact h j v hv
end Go.Proofs.YtbboadoolgcmaaaDoor
