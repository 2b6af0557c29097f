/- Sizes, comparisons, and operations that are passed over. -/
import Derived.Test.YtpmlihhofmblpaaGreatDoorQ27
namespace Go.Proofs.YtpmlihhofmblpaaGreatDoor
open Go.RowKit Hm Wm Wn

theorem sz_rt {k : Nat} {q : Rat} (h : Sz k q) : szR k (rt q) := by
  unfold rt
  split
  · exact ⟨Nat.zero_le _, Nat.zero_le _⟩
  · exact h
theorem sz_big {j k : Nat} {x : Rv} (h : szR j x) (hk : j ≤ k) : szR k x := ⟨Nat.le_trans h.1 hk, Nat.le_trans h.2 hk⟩
section
variable {P : Program} {oi : Oper} {a : Act} {w : World}
theorem exec_gtrI (t : TypeId) (x y : Operand) (rt : TypeId) (ho : oi.op = .binOp .gtr t x y rt) (k : IntKind) (m n : Int) (r : Bool) (hr : decide (n < m) = r) (hx : a.eval x = .int k m) (hy : a.eval y = .int k n) : (execOp a.eval oi).run P w = .ok (.value (.bool r)) w := by
  subst hr
  exact exec_bin .gtr t rt x y ho _ _ _ hx hy (by simp [go_sem]) (by simp [go_sem])
theorem exec_geqI (t : TypeId) (x y : Operand) (rt : TypeId) (ho : oi.op = .binOp .geq t x y rt) (k : IntKind) (m n : Int) (r : Bool) (hr : decide (n ≤ m) = r) (hx : a.eval x = .int k m) (hy : a.eval y = .int k n) : (execOp a.eval oi).run P w = .ok (.value (.bool r)) w := by
  subst hr
  exact exec_bin .geq t rt x y ho _ _ _ hx hy (by simp [go_sem]) (by simp [go_sem])
theorem exec_leqI (t : TypeId) (x y : Operand) (rt : TypeId) (ho : oi.op = .binOp .leq t x y rt) (k : IntKind) (m n : Int) (r : Bool) (hr : decide (m ≤ n) = r) (hx : a.eval x = .int k m) (hy : a.eval y = .int k n) : (execOp a.eval oi).run P w = .ok (.value (.bool r)) w := by
  subst hr
  exact exec_bin .leq t rt x y ho _ _ _ hx hy (by simp [go_sem]) (by simp [go_sem])
end
theorem wpList_skipD {P : Program} {ops : Array Oper} {Q : Exit → Act → World → Prop} {a : Act} {w : World} {rest : List Oper} {o : Oper} (d : Tmp) (hd : o.dst = some d)
    (hw : Region.wanted o (yielded ops a.tmps) = false) (h : wpList P ops Q rest (a.put (some d) undef) w) : wpList P ops Q (o :: rest) a w := by
  rw [← hd] at h
  exact wpList_skip hw h
def skipOk (ops : Array Oper) : List Oper → List Tmp → Act → Bool
  | [], [], _ => true
  | u :: us, d :: ds, a => (u.dst == some d) && (Region.wanted u (yielded ops a.tmps) == false) && skipOk ops us ds (a.put (some d) undef)
  | _, _, _ => false
theorem wpList_skips {P : Program} {ops : Array Oper} {Q : Exit → Act → World → Prop} {w : World} : ∀ (us : List Oper) (ds : List Tmp) (rest : List Oper) (a : Act), skipOk ops us ds a = true → wpList P ops Q rest (ds.foldl (fun a d => a.put (some d) undef) a) w → wpList P ops Q (us ++ rest) a w
  | [], [], rest, a, _, h => h
  | [], _ :: _, _, _, hk, _ => by simp [skipOk] at hk
  | _ :: _, [], _, _, hk, _ => by simp [skipOk] at hk
  | u :: us, d :: ds, rest, a, hk, h => by
    simp only [skipOk, Bool.and_eq_true, beq_iff_eq] at hk
    refine wpList_skip hk.1.2 ?_
    rw [hk.1.1]
    exact wpList_skips us ds rest _ hk.2 h
theorem wpList_runSkip {w : World} {ops : Array Oper} {tail : List Oper} {o : Oper} {a : Act} {Q : Exit → Act → World → Prop} (d : Tmp) (hd : o.dst = some d) (hw : Region.wanted o (yielded ops a.tmps) = true) (v : Value) (hrun : (execOp a.eval o).run Tryz.prog w = .ok (.value v) w)
    (n : Nat) (ds : List Tmp) (hk : skipOk ops (tail.take n) ds (a.put (some d) v) = true) (h : wpList Tryz.prog ops Q (tail.drop n) (ds.foldl (fun a d => a.put (some d) undef) (a.put (some d) v)) w) : wpList Tryz.prog ops Q (o :: tail) a w := by
  refine wpList_runG d hd hw v hrun ?_
  have := wpList_skips (P := Tryz.prog) (Q := Q) (w := w) (tail.take n) ds (tail.drop n) _ hk h
  rwa [List.take_append_drop] at this
theorem cmp_lt {a b : Rat} (h : a < b) : cmpQ a b = -1 := by unfold cmpQ; rw [if_pos h]
theorem cmp_eq (a : Rat) : cmpQ a a = 0 := by unfold cmpQ; rw [if_neg Rat.lt_irrefl, if_pos rfl]
theorem cmp_gt {a b : Rat} (h : b < a) : cmpQ a b = 1 := by
  unfold cmpQ
  rw [if_neg (Rat.not_lt.2 (Rat.le_of_lt h)), if_neg (fun e => Rat.ne_of_lt h e.symm)]
theorem q_tri (a b : Rat) : a < b ∨ a = b ∨ b < a := by
  by_cases h : a < b
  · exact .inl h
  · rcases Rat.le_iff_lt_or_eq.1 (Rat.not_lt.1 h) with h | h
    · exact .inr (.inr h)
    · exact .inr (.inl h.symm)
end Go.Proofs.YtpmlihhofmblpaaGreatDoor
