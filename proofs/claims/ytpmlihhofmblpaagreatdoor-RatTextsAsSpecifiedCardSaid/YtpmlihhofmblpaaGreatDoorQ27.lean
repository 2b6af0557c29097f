/- The walk of RatTextsComeBack. -/
import Derived.Test.YtpmlihhofmblpaaGreatDoorQ26
namespace Go.Proofs.YtpmlihhofmblpaaGreatDoor
open Go.RowKit Hm Wm Wn

instance : DecidableEq Rv := fun x y => decidable_of_iff (x.neg = y.neg ∧ x.n = y.n ∧ x.d = y.d) (by obtain ⟨a, b, c⟩ := x; obtain ⟨a', b', c'⟩ := y; simp)
theorem run_bsame_neq (b : Bool) (W : World) : (binOp .neq 4 (.bool b) (.bool b)).run Tryz.prog W = .ok (.bool false) W := by
  cases b <;> kernel_rfl
theorem bool_guard_neq (b : Bool) (W : World) (x y : Operand) : (eqGuard .neq 4 x y (.bool b) (.bool b)).run Tryz.prog W = .ok () W := by simp [go_sem]
theorem run_neR (x y : Rv) (b : Bool) (h : decide (x = y) = b) (W : World) : (binOp .eql 26 (.agg #[.bool x.neg, .string x.n, .string x.d]) (.agg #[.bool y.neg, .string y.n, .string y.d])).run Tryz.prog W = .ok (.bool b) W := by
  rw [run_eqR, ← h]
  congr 2
  refine decide_eq_decide.2 ⟨fun e => ?_, fun e => by rw [e]; exact ⟨rfl, rfl, rfl⟩⟩
  obtain ⟨a, b, c⟩ := x
  obtain ⟨a', b', c'⟩ := y
  obtain ⟨rfl, rfl, rfl⟩ := e
  rfl
theorem rat_guardN (W : World) (x y : Operand) (xs ys : Array Value) : (eqGuard .neq 26 x y (.agg xs) (.agg ys)).run Tryz.prog W = .ok () W := run_eqGuard_agg W .neq _ x y xs ys (by kernel_rfl)
theorem run_sameR (x : Rv) (W : World) : (binOp .neq 26 (.agg #[.bool x.neg, .string x.n, .string x.d]) (.agg #[.bool x.neg, .string x.n, .string x.d])).run Tryz.prog W = .ok (.bool false) W := by
  have h := run_eqRs x.neg x.n x.d W
  simp [binOp] at h ⊢
  generalize Sem.run Tryz.prog (Op.equal 26 (.agg #[.bool x.neg, .string x.n, .string x.d]) (.agg #[.bool x.neg, .string x.n, .string x.d])) W = R at h ⊢
  cases R <;> simp_all
theorem okB_rt {x : Rv} (h : okB x = true) : rt (valR x) = x := by
  by_cases hn : x.n = ⟨#[]⟩
  · have hz : x = zR := by
      unfold okB at h
      rw [decide_eq_false (p := x.n ≠ ⟨#[]⟩) (fun k => k hn)] at h
      simp only [Bool.false_and, Bool.or_false, decide_eq_true_eq] at h
      obtain ⟨a, b, c⟩ := x
      obtain ⟨h1, h2, h3⟩ := h
      simp only at h1 h2 h3
      subst h1 h2 h3
      rfl
    rw [hz, vz zR rfl, rt_zero]
  · exact rt_val ((okB_iff x hn).1 h)
theorem few_sz {k : Nat} {x : Rv} (h : fewB k x = true) : szR k x := by
  unfold fewB at h
  rw [Bool.and_eq_true, decide_eq_true_eq, decide_eq_true_eq] at h
  exact h
theorem txl {x : Rv} {k : Nat} (h : szR k x) (hk : 1 ≤ k) : (txtQ (valR x)).length ≤ 6 * k + 4 := by
  have sx := Sz_val x k hk h.1 h.2
  have h1 := ndig (cS (valR x).num.natAbs) k sx.1
  have h2 := ndig (cS (valR x).den) k sx.2
  rw [nB_cS] at h1 h2
  unfold txtQ
  rw [List.length_append, List.length_append]
  split <;> split <;> simp <;> omega
theorem okB_valid (q : Rat) : okB (rt q) = true := by
  by_cases h : q = 0
  · subst h; rw [rt_zero]; rfl
  · have := ok_fr h
    have e : rt q = fr q := by unfold rt; rw [if_neg h]
    rw [e]
    exact (okB_iff _ (num_nil h)).2 this
end Go.Proofs.YtpmlihhofmblpaaGreatDoor
