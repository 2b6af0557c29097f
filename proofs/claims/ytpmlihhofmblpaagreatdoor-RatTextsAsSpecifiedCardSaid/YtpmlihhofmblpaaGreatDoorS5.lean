/- The reference: Add, Sub and Mul. -/
import Derived.Test.YtpmlihhofmblpaaGreatDoorS4
namespace Go.Proofs.YtpmlihhofmblpaaGreatDoor
open Go.RowKit Hm Wm Wn

theorem run_eqb5 (b c d : Bool) (h : (b == c) = d) (W : World) : (binOp .eql 4 (.bool b) (.bool c)).run Tryz.prog W = .ok (.bool d) W := by
  subst h
  cases b <;> cases c <;> kernel_rfl
theorem rt_negb (q : Rat) : (rt q).neg = decide (q.num < 0) := by
  unfold rt
  split
  · rename_i h; subst h; rfl
  · rfl
theorem sg_add (n : Bool) (u v : Nat) : sg n u + sg n v = sg n (u + v) := by cases n <;> simp [sg] <;> omega
theorem sg_two (n : Bool) (u v : Nat) (h : v ≤ u) : sg n u + sg (!n) v = sg n (u - v) := by cases n <;> simp [sg] <;> omega
theorem sg_rt (q : Rat) : sg (rt q).neg q.num.natAbs = q.num := by rw [rt_negb]; exact sg_of _
theorem radd5_any (x y : Rv) (w : World) (hx : szR 1000 x) (hy : szR 1000 y) : Calls Tryz.prog 42 #[rv x, rv y] w fun e w' => e = .returned (rv (rt (valR x + valR y))) ∧ Below w.heap.size w w' := by
  have sx := Sz_val x 1000 (by decide) hx.1 hx.2
  have sy := Sz_val y 1000 (by decide) hy.1 hy.2
  have cx := fun W => rcl_any x W (sz_big hx (by decide))
  have cy := fun W => rcl_any y W (sz_big hy (by decide))
  generalize valR x = A at sx cx ⊢
  generalize valR y = B at sy cy ⊢
  have e1 : A.num * (B.den : Int) = sg (rt A).neg (A.num.natAbs * B.den) := by rw [sg_mulS, sg_rt]
  have e2 : B.num * (A.den : Int) = sg (rt B).neg (B.num.natAbs * A.den) := by rw [sg_mulS, sg_rt]
  have z1 : (cS (A.num.natAbs * B.den)).size ≤ 2000 := cS_mulS sx.1 sy.2
  have z2 : (cS (B.num.natAbs * A.den)).size ≤ 2000 := cS_mulS sy.1 sx.2
  have z3 : (cS (A.den * B.den)).size ≤ 2000 := cS_mulS sx.2 sy.2
  have d0 : A.den * B.den ≠ 0 := Nat.mul_ne_zero A.den_nz B.den_nz
  have m1 := fun W => rmul_any (cS A.num.natAbs) (cS B.den) W (Nat.le_trans sx.1 (by decide)) (Nat.le_trans sy.2 (by decide))
  have m2 := fun W => rmul_any (cS B.num.natAbs) (cS A.den) W (Nat.le_trans sy.1 (by decide)) (Nat.le_trans sx.2 (by decide))
  have m3 := fun W => rmul_any (cS A.den) (cS B.den) W (Nat.le_trans sx.2 (by decide)) (Nat.le_trans sy.2 (by decide))
  rw [nB_cS, nB_cS] at m1 m2 m3
  rw [Rat.add_def', e1, e2]
  generalize A.num.natAbs * B.den = u at z1 m1 ⊢
  generalize B.num.natAbs * A.den = v at z2 m2 ⊢
  generalize A.den * B.den = dd at z3 m3 d0 ⊢
  by_cases hn : (rt A).neg = (rt B).neg
  · rw [← hn, sg_add]
    refine add5_same x y (rt A) (rt B) _ _ _ _ _ _ _ _ (cS (u + v)) w (fun W => run_eqb5 _ _ _ (by rw [hn]; exact beq_self_eq_true _) W) cx cy (fun W => parts_any A W) (fun W => parts_any B W) m1 m2 m3 (fun W => ?_) (fun W => low_any _ _ _ W (Nat.le_trans (cS_addS z1 z2) (by decide)) (Nat.le_trans z3 (by decide)) d0)
    have h := radd_any (cS u) (cS v) W (Nat.le_trans z1 (by decide)) (Nat.le_trans z2 (by decide))
    rwa [nB_cS, nB_cS] at h
  · have hb : (rt B).neg = !(rt A).neg := by cases h1 : (rt A).neg <;> cases h2 : (rt B).neg <;> simp_all
    have he : ((rt A).neg == (rt B).neg) = false := by rw [hb]; cases (rt A).neg <;> rfl
    have hc := fun W => (rcmp_any (cS u) (cS v) W (Nat.le_trans z1 (by decide)) (Nat.le_trans z2 (by decide))).mono (fun e w' h => (⟨h.1, by rw [h.2]; exact Below.refl _ _⟩ : e = .returned (.int .i64 (cmpN (nB (cS u)) (nB (cS v)))) ∧ Below W.heap.size W w'))
    rw [nB_cS, nB_cS] at hc
    by_cases hle : v ≤ u
    · rw [hb, sg_two _ _ _ hle]
      refine add5_ge x y (rt A) (rt B) _ _ _ _ _ _ _ _ (cS (u - v)) w (fun W => run_eqb5 _ _ _ he W) (cmpN u v) (by unfold cmpN; rw [if_neg (by omega)]; split <;> rfl) cx cy (fun W => parts_any A W) (fun W => parts_any B W) m1 m2 m3 hc (fun W => ?_) (fun W => low_any _ _ _ W (Nat.le_trans (cS_le (Nat.sub_le u v) z1) (by decide)) (Nat.le_trans z3 (by decide)) d0)
      have h := rsub_any (cS u) (cS v) W (Nat.le_trans z1 (by decide)) (Nat.le_trans z2 (by decide)) (by rw [nB_cS, nB_cS]; exact hle)
      rw [nB_cS, nB_cS] at h
      exact h
    · have hq : sg (rt A).neg u + sg (rt B).neg v = sg (rt B).neg (v - u) := by
        have h := sg_two (rt B).neg v u (by omega)
        rw [show (!(rt B).neg) = (rt A).neg by rw [hb, Bool.not_not]] at h
        rw [Int.add_comm]; exact h
      rw [hq]
      refine add5_lt x y (rt A) (rt B) _ _ _ _ _ _ _ _ (cS (v - u)) w (fun W => run_eqb5 _ _ _ he W) (cmpN u v) (by unfold cmpN; rw [if_pos (by omega)]; rfl) cx cy (fun W => parts_any A W) (fun W => parts_any B W) m1 m2 m3 hc (fun W => ?_) (fun W => low_any _ _ _ W (Nat.le_trans (cS_le (Nat.sub_le v u) z2) (by decide)) (Nat.le_trans z3 (by decide)) d0)
      have h := rsub_any (cS v) (cS u) W (Nat.le_trans z2 (by decide)) (Nat.le_trans z1 (by decide)) (by rw [nB_cS, nB_cS]; omega)
      rw [nB_cS, nB_cS] at h
      exact h
theorem sg_mul2 (b c : Bool) (i j : Nat) : sg (b != c) (i * j) = sg b i * sg c j := by cases b <;> cases c <;> simp [sg, Int.mul_neg, Int.neg_mul]
end Go.Proofs.YtpmlihhofmblpaaGreatDoor
