/- Numbers and what follows them, as the reference reads them; no Go is named here. -/
import Derived.Test.YtggjgikpiljoiaaDoorLM7
namespace Go.Proofs.YtggjgikpiljoiaaDoor.Lx

def dgs (l : List UInt8) : List UInt8 := l.takeWhile dg
theorem dgs_pos {c : UInt8} {r : List UInt8} (h : dg c = true) : 0 < (dgs (c :: r)).length := by
  unfold dgs; rw [List.takeWhile_cons, if_pos h]; simp
theorem dgs_all (l : List UInt8) : (dgs l).all dg = true := by
  induction l with
  | nil => rfl
  | cons c r ih =>
    unfold dgs at ih ⊢
    rw [List.takeWhile_cons]
    cases h : dg c
    · rfl
    · simp only [if_true, List.all_cons, h, Bool.true_and]; exact ih
/-- What follows the digits is the end, or no digit. -/
theorem dgs_next (l : List UInt8) : (dgs l).length = l.length ∨ ∃ d, l[(dgs l).length]? = some d ∧ dg d = false := tw_out dg l
theorem word_dgs {l : List UInt8} (h : (dgs l).length = l.length ∨ ∃ d, l[(dgs l).length]? = some d ∧ wd d = false) : word l = dgs l := by
  induction l with
  | nil => rfl
  | cons c r ih =>
    unfold word dgs at ih ⊢
    unfold dgs at h
    rw [List.takeWhile_cons] at h ⊢
    rw [List.takeWhile_cons]
    cases hc : dg c
    · simp only [hc, Bool.false_eq_true, if_false, List.length_nil, List.length_cons] at h ⊢
      rcases h with h | ⟨d, h1, h2⟩
      · omega
      · simp only [List.getElem?_cons_zero, Option.some.injEq] at h1
        subst h1
        rw [if_neg (by rw [h2]; decide)]
    · simp only [hc, if_true, List.length_cons] at h ⊢
      rw [if_pos (dg_wd hc)]
      congr 1
      refine ih ?_
      rcases h with h | ⟨d, h1, h2⟩
      · exact .inl (by omega)
      · exact .inr ⟨d, by simpa using h1, h2⟩
theorem word_more {l : List UInt8} {d : UInt8} (h : l[(dgs l).length]? = some d) (hd : lt d = true) : (word l).all dg = false := by
  induction l with
  | nil => simp [dgs] at h
  | cons c r ih =>
    unfold word dgs at ih
    unfold dgs at h
    unfold word
    rw [List.takeWhile_cons] at h
    rw [List.takeWhile_cons]
    cases hc : dg c
    · simp only [hc, Bool.false_eq_true, if_false, List.length_nil, List.getElem?_cons_zero, Option.some.injEq] at h
      subst h
      rw [if_pos (lt_wd hd), List.all_cons, hc, Bool.false_and]
    · simp only [hc, if_true, List.length_cons] at h ⊢
      rw [if_pos (dg_wd hc), List.all_cons, hc, Bool.true_and]
      exact ih (by simpa using h)
theorem numOk_bad {l : List UInt8} {d : UInt8} (h : l[(dgs l).length]? = some d) (hd : lt d = true) : numOk (word l) = false := by
  cases hn : numOk (word l) with
  | false => rfl
  | true => have := ((numOk_iff _).1 hn).1; rw [word_more h hd] at this; cases this
theorem dgs_le_word (l : List UInt8) : (dgs l).length ≤ (word l).length := by
  induction l with
  | nil => exact Nat.le_refl _
  | cons c r ih =>
    unfold word dgs at ih ⊢
    rw [List.takeWhile_cons, List.takeWhile_cons]
    cases hc : dg c
    · simp
    · rw [if_pos rfl, if_pos (dg_wd hc)]
      simp only [List.length_cons]; omega
theorem numOk_long {l : List UInt8} (h : 15 < (dgs l).length) : numOk (word l) = false := by
  cases hn : numOk (word l) with
  | false => rfl
  | true => have := ((numOk_iff _).1 hn).2.1; have := dgs_le_word l; omega
theorem numOk_zero {c : UInt8} {r : List UInt8} (h : 1 < (dgs (c :: r)).length) (hc : c.toNat = 48) : numOk (word (c :: r)) = false := by
  cases hn : numOk (word (c :: r)) with
  | false => rfl
  | true =>
    have h1 := ((numOk_iff _).1 hn).2.2
    have h2 := dgs_le_word (c :: r)
    have h3 : (word (c :: r)).headD 0 = c := by
      unfold word
      rw [List.takeWhile_cons, if_pos (dg_wd (by simp [dg, hc]))]; rfl
    rw [h3] at h1
    omega
theorem numOk_yes {c : UInt8} {r : List UInt8} (hc : dg c = true) (h1 : (dgs (c :: r)).length ≤ 15) (h2 : (dgs (c :: r)).length ≤ 1 ∨ c.toNat ≠ 48) (h3 : (dgs (c :: r)).length = (c :: r).length ∨ ∃ d, (c :: r)[(dgs (c :: r)).length]? = some d ∧ wd d = false) :
    numOk (word (c :: r)) = true ∧ word (c :: r) = dgs (c :: r) := by
  have hw := word_dgs h3
  refine ⟨?_, hw⟩
  rw [hw, numOk_iff]
  refine ⟨dgs_all _, h1, ?_⟩
  have e : (dgs (c :: r)).headD 0 = c := by unfold dgs; rw [List.takeWhile_cons, if_pos hc]; rfl
  rw [e]; exact h2
theorem numOk_take {w : List UInt8} (h : numOk w = true) (j : Nat) : numOk (w.take j) = true := by
  obtain ⟨h1, h2, h3⟩ := (numOk_iff w).1 h
  rw [numOk_iff]
  refine ⟨?_, by rw [List.length_take]; omega, ?_⟩
  · rw [List.all_eq_true] at h1 ⊢
    exact fun x hx => h1 x (List.mem_of_mem_take hx)
  · rcases h3 with h3 | h3
    · exact .inl (by rw [List.length_take]; omega)
    · cases w with
      | nil => exact .inl (by simp)
      | cons c r =>
        cases j with
        | zero => exact .inl (by simp)
        | succ j => exact .inr (by simpa using h3)
theorem numV_take {w : List UInt8} {j : Nat} {d : UInt8} (h : w[j]? = some d) : numV (w.take (j + 1)) = 10 * numV (w.take j) + (d.toNat - 48) := by
  obtain ⟨h1, rfl⟩ := List.getElem?_eq_some_iff.1 h
  rw [List.take_succ_eq_append_getElem h1, numV_snoc]
theorem step_lt {c : UInt8} {r : List UInt8} (h : lt c = true) : step (c :: r) = if 32 < (word (c :: r)).length then .bad 2 else .tok 1 (word (c :: r)) 0 (word (c :: r)).length := by
  have h1 : bl c = false ∧ c.toNat ≠ 35 := by
    simp only [lt, decide_eq_true_eq] at h
    simp only [bl, decide_eq_false_iff_not]
    omega
  simp [step, h1.1, h1.2, h]
theorem step_dg {c : UInt8} {r : List UInt8} (h : dg c = true) : step (c :: r) = if numOk (word (c :: r)) then .tok 2 [] (numV (word (c :: r))) (word (c :: r)).length else .bad 27 := by
  have h1 : bl c = false ∧ c.toNat ≠ 35 ∧ lt c = false := by
    simp only [dg, decide_eq_true_eq] at h
    simp only [bl, lt, decide_eq_false_iff_not]
    omega
  simp [step, h1.1, h1.2.1, h1.2.2, h]
theorem step_34 {c : UInt8} {r : List UInt8} (h : c.toNat = 34) : step (c :: r) = txt r [] 1 := by
  have h1 : bl c = false ∧ lt c = false ∧ dg c = false := by
    simp only [bl, lt, dg, decide_eq_false_iff_not]
    omega
  simp [step, h1.1, h1.2.1, h1.2.2, h]
theorem step_sg {c : UInt8} {r : List UInt8} (h1 : bl c = false) (h2 : c.toNat ≠ 35) (h3 : lt c = false) (h4 : dg c = false) (h5 : c.toNat ≠ 34) : step (c :: r) = sgn c r := by
  simp [step, h1, h2, h3, h4, h5]
end Go.Proofs.YtggjgikpiljoiaaDoor.Lx
