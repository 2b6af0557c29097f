/- Plain facts for RatsAreOrdered. -/
import Derived.Test.YtibfmcohodhkbaaGreatDoorQ31
namespace Go.Proofs.YtibfmcohodhkbaaGreatDoor
open Go.RowKit Hm Wm Wn

theorem cmp_lt {a b : Rat} (h : a < b) : cmpQ a b = -1 := by unfold cmpQ; rw [if_pos h]
theorem cmp_eq (a : Rat) : cmpQ a a = 0 := by unfold cmpQ; rw [if_neg Rat.lt_irrefl, if_pos rfl]
theorem cmp_gt {a b : Rat} (h : b < a) : cmpQ a b = 1 := by
  unfold cmpQ
  rw [if_neg (Rat.not_lt.2 (Rat.le_of_lt h)), if_neg (fun e => Rat.ne_of_lt h e.symm)]
theorem q_tri (a b : Rat) : a < b ∨ a = b ∨ b < a := by
  by_cases h : a < b
  · exact .inl h
  · rcases Rat.le_iff_lt_or_eq.1 (Rat.not_lt.1 h) with h | h
    · exact .inr (.inr h)
    · exact .inr (.inl h.symm)
theorem q_trans {a b c : Rat} (h : a < b) (h' : b < c) : a < c :=
  Rat.lt_of_le_of_ne (Rat.le_trans (Rat.le_of_lt h) (Rat.le_of_lt h')) (fun e => by subst e; exact Rat.not_lt.2 (Rat.le_of_lt h) h')
theorem tri3 (A B C : Rat) : (cmpQ A B = -1 ∧ cmpQ B A = 1 ∧ decide (A = B) = false ∧ cmpQ B C = -1 ∧ cmpQ A C = -1) ∨ (cmpQ A B = -1 ∧ cmpQ B A = 1 ∧ decide (A = B) = false ∧ cmpQ B C = 0 ∧ cmpQ A C = -1) ∨ (cmpQ A B = -1 ∧ cmpQ B A = 1 ∧ decide (A = B) = false ∧ cmpQ B C = 1 ∧ cmpQ A C = -1) ∨ (cmpQ A B = -1 ∧ cmpQ B A = 1 ∧ decide (A = B) = false ∧ cmpQ B C = 1 ∧ cmpQ A C = 0) ∨ (cmpQ A B = -1 ∧ cmpQ B A = 1 ∧ decide (A = B) = false ∧ cmpQ B C = 1 ∧ cmpQ A C = 1) ∨ (cmpQ A B = 0 ∧ cmpQ B A = 0 ∧ decide (A = B) = true ∧ cmpQ B C = -1 ∧ cmpQ A C = -1) ∨ (cmpQ A B = 0 ∧ cmpQ B A = 0 ∧ decide (A = B) = true ∧ cmpQ B C = 0 ∧ cmpQ A C = 0) ∨ (cmpQ A B = 0 ∧ cmpQ B A = 0 ∧ decide (A = B) = true ∧ cmpQ B C = 1 ∧ cmpQ A C = 1) ∨ (cmpQ A B = 1 ∧ cmpQ B A = -1 ∧ decide (A = B) = false ∧ cmpQ B C = 1 ∧ cmpQ A C = 1) ∨ (cmpQ A B = 1 ∧ cmpQ B A = -1 ∧ decide (A = B) = false ∧ cmpQ B C = 0 ∧ cmpQ A C = 1) ∨ (cmpQ A B = 1 ∧ cmpQ B A = -1 ∧ decide (A = B) = false ∧ cmpQ B C = -1 ∧ cmpQ A C = -1) ∨ (cmpQ A B = 1 ∧ cmpQ B A = -1 ∧ decide (A = B) = false ∧ cmpQ B C = -1 ∧ cmpQ A C = 0) ∨ (cmpQ A B = 1 ∧ cmpQ B A = -1 ∧ decide (A = B) = false ∧ cmpQ B C = -1 ∧ cmpQ A C = 1) := by
  rcases q_tri A B with h | h | h
  · rw [cmp_lt h, cmp_gt h, decide_eq_false (Rat.ne_of_lt h)]
    rcases q_tri B C with k | k | k
    · rw [cmp_lt k, cmp_lt (q_trans h k)]; simp
    · subst k; rw [cmp_eq, cmp_lt h]; simp
    · rw [cmp_gt k]
      rcases q_tri A C with l | l | l
      · rw [cmp_lt l]; simp
      · subst l; rw [cmp_eq]; simp
      · rw [cmp_gt l]; simp
  · subst h
    rw [cmp_eq, decide_eq_true (p := A = A) rfl]
    rcases q_tri A C with k | k | k
    · rw [cmp_lt k]; simp
    · subst k; rw [cmp_eq]; simp
    · rw [cmp_gt k]; simp
  · rw [cmp_gt h, cmp_lt h, decide_eq_false (fun e => Rat.ne_of_lt h e.symm)]
    rcases q_tri B C with k | k | k
    · rw [cmp_lt k]
      rcases q_tri A C with l | l | l
      · rw [cmp_lt l]; simp
      · subst l; rw [cmp_eq]; simp
      · rw [cmp_gt l]; simp
    · subst k; rw [cmp_eq, cmp_gt h]; simp
    · rw [cmp_gt k, cmp_gt (q_trans k h)]; simp
theorem cmp_add (A B C : Rat) : cmpQ (A + C) (B + C) = cmpQ A B := by
  rcases q_tri A B with h | h | h
  · rw [cmp_lt h, cmp_lt (Rat.add_lt_add_right.2 h)]
  · subst h; rw [cmp_eq, cmp_eq]
  · rw [cmp_gt h, cmp_gt (Rat.add_lt_add_right.2 h)]
theorem cmp_mul (A B C : Rat) : cmpQ (A * C) (B * C) = cmpQ A B * cmpQ C 0 := by
  rcases q_tri C 0 with h | h | h
  · have hc : 0 < -C := by
      have h1 := Rat.neg_lt_neg h
      rwa [show -(0 : Rat) = 0 from rfl] at h1
    have key : ∀ a b : Rat, a < b → b * C < a * C := fun a b hab => by
      have h1 := (Rat.mul_lt_mul_right hc).2 hab
      rw [Rat.mul_neg, Rat.mul_neg] at h1
      exact Rat.neg_lt_neg_iff.1 h1
    rw [cmp_lt h]
    rcases q_tri A B with k | k | k
    · rw [cmp_lt k, cmp_gt (key A B k)]; rfl
    · subst k; rw [cmp_eq, cmp_eq]; rfl
    · rw [cmp_gt k, cmp_lt (key B A k)]; rfl
  · subst h
    rw [Rat.mul_zero, Rat.mul_zero, cmp_eq, Int.mul_zero]
  · rw [cmp_gt h]
    rcases q_tri A B with k | k | k
    · rw [cmp_lt k, cmp_lt ((Rat.mul_lt_mul_right h).2 k)]; rfl
    · subst k; rw [cmp_eq, cmp_eq]; rfl
    · rw [cmp_gt k, cmp_gt ((Rat.mul_lt_mul_right h).2 k)]; rfl
theorem cmp_val (a b : Rat) : cmpQ a b = -1 ∨ cmpQ a b = 0 ∨ cmpQ a b = 1 := by
  rcases q_tri a b with h | h | h
  · exact .inl (cmp_lt h)
  · subst h; exact .inr (.inl (cmp_eq _))
  · exact .inr (.inr (cmp_gt h))
theorem run_mulS (a b : Int) (ha : a = -1 ∨ a = 0 ∨ a = 1) (hb : b = -1 ∨ b = 0 ∨ b = 1) (W : World) : (binOp .mul 3 (.int .i64 a) (.int .i64 b)).run Tryz.prog W = .ok (.int .i64 (a * b)) W := by
  rcases ha with rfl | rfl | rfl <;> rcases hb with rfl | rfl | rfl <;> kernel_rfl
theorem run_neT (x y : Rv) (h : x ≠ y) (W : World) : (binOp .neq 23 (rv x) (rv y)).run Tryz.prog W = .ok (.bool true) W := by
  have h := run_neR x y false (decide_eq_false h) W
  unfold rv
  simp [binOp] at h ⊢
  generalize Sem.run Tryz.prog (Op.equal 23 (.agg #[.bool x.neg, .string x.n, .string x.d]) (.agg #[.bool y.neg, .string y.n, .string y.d])) W = R at h ⊢
  cases R <;> simp_all
theorem floor_ceil (A : Rat) : (A = (A.floor : Rat) ∧ -(-A).floor = A.floor) ∨ (A ≠ (A.floor : Rat) ∧ -(-A).floor = A.floor + 1) := by
  have h1 := Rat.floor_le A
  have h2 := Rat.lt_floor_add_one A
  by_cases h : A = (A.floor : Rat)
  · refine .inl ⟨h, ?_⟩
    have h3 : (-A).floor = -A.floor := by
      have h4 : -A = ((-A.floor : Int) : Rat) := by rw [Rat.intCast_neg, ← h]
      rw [h4, Rat.floor_intCast]
    omega
  · refine .inr ⟨h, ?_⟩
    have h3 : (-A).floor < -A.floor := Rat.floor_lt_iff.2 (by
      rw [Rat.intCast_neg]
      exact Rat.neg_lt_neg (Rat.lt_of_le_of_ne h1 (fun e => h e.symm)))
    have h4 : -(A.floor + 1) ≤ (-A).floor := Rat.le_floor_iff.2 (by
      rw [Rat.intCast_neg]
      exact Rat.neg_le_neg (Rat.le_of_lt h2))
    omega
end Go.Proofs.YtibfmcohodhkbaaGreatDoor
