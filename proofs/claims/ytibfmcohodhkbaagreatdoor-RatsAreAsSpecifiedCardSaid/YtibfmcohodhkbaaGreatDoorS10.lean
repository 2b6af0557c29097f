/- RatsAreAsSpecified. -/
import Derived.Test.YtibfmcohodhkbaaGreatDoorS9
namespace Go.Proofs.YtibfmcohodhkbaaGreatDoor
open Go.RowKit Hm Wm Wn

theorem make_both (m n : Int) : ∃ (a : Rv) (e : Int), (∀ W, Calls Tryz.prog 8 #[.int .i64 m, .int .i64 n] W fun f w' => f = .returned (.tuple #[rv a, .int .i64 e]) ∧ Below W.heap.size W w') ∧ (∀ W, Calls Tryz.prog 9 #[.int .i64 m, .int .i64 n] W fun f w' => f = .returned (mk5 a e) ∧ Below W.heap.size W w') := by
  cases h : (inB m && inB n)
  · exact ⟨rt 0, 3, fun W => Make_far m n W h, fun W => rmake5_far m n W h⟩
  · rw [Bool.and_eq_true] at h
    by_cases h0 : n = 0
    · subst h0
      exact ⟨rt 0, 1, fun W => Make_zero m W h.1, fun W => rmake5_zero m W h.1⟩
    · exact ⟨_, 0, fun W => Make_any m n W h.1 h.2 h0, fun W => rmake5_any m n W h.1 h.2 h0⟩
theorem div_both5 (x y : Rv) (hx : szR 30 x) (hy : szR 30 y) : ∃ (a : Rv) (e : Int), (∀ W, Calls Tryz.prog 10 #[rv x, rv y] W fun f w' => f = .returned (.tuple #[rv a, .int .i64 e]) ∧ Below W.heap.size W w') ∧ (∀ W, Calls Tryz.prog 11 #[rv x, rv y] W fun f w' => f = .returned (mk5 a e) ∧ Below W.heap.size W w') := by
  by_cases h0 : valR y = 0
  · exact ⟨rt 0, 1, fun W => Div_none x y W (sz_big hy (by decide)) h0, fun W => rdiv5_zero x y W (sz_big hy (by decide)) h0⟩
  · exact ⟨_, 0, fun W => Div_any x y W (sz_big hx (by decide)) (sz_big hy (by decide)) h0, fun W => rdiv5_any x y W (sz_big hx (by decide)) (sz_big hy (by decide)) h0⟩
theorem int_both5 (m : Int) : ∃ a : Rv, (∀ W, Calls Tryz.prog 18 #[.int .i64 m] W fun f w' => f = .returned (rv a) ∧ Below W.heap.size W w') ∧ (∀ W, Calls Tryz.prog 19 #[.int .i64 m] W fun f w' => f = .returned (rv a) ∧ Below W.heap.size W w') := by
  cases h : inB m
  · exact ⟨rt 0, fun W => Int_far m W (of_decide_eq_false h), fun W => rint5_far m W h⟩
  · exact ⟨_, fun W => Int_any m W (of_decide_eq_true h), fun W => rint5_any m W h⟩
theorem walk_as (x y : Rv) (m n : Int) (w : World) (hE : Env w) : Calls Tryz.prog 3 #[rv x, rv y, .agg #[.int .i64 m, .int .i64 n]] w fun e w' => e = .returned (.bool true) ∧ Below w.heap.size w w' := by
  have g1 := fun W => few_any 30 x W
  have g2 := fun W => few_any 30 y W
  cases f1 : fewB 30 x
  · rw [f1] at g1; exact as_out0 x y m n w hE g1
  rw [f1] at g1
  cases f2 : fewB 30 y
  · rw [f2] at g2; exact as_out1 x y m n w hE g1 g2
  rw [f2] at g2
  have ux := few_sz f1
  have uy := few_sz f2
  have bx := sz_big ux (show 30 ≤ 10000 by decide)
  have b_y := sz_big uy (show 30 ≤ 10000 by decide)
  have kx := sz_big ux (show 30 ≤ 1000 by decide)
  have ky := sz_big uy (show 30 ≤ 1000 by decide)
  have nx := sz_big ux (show 30 ≤ 900 by decide)
  have ny := sz_big uy (show 30 ≤ 900 by decide)
  obtain ⟨a1, e1, p1, q1⟩ := make_both m n
  obtain ⟨a2, e2, p2, q2⟩ := div_both5 x y ux uy
  obtain ⟨r3, p3, q3⟩ := int_both5 m
  obtain ⟨n1, k1, fl1, fl2, _, _⟩ := fl_both (valR x)
  obtain ⟨n2, k2, cl1, cl2, c3, c4⟩ := fl_both (-valR x)
  have ce : ceilV (valR x) = .tuple #[.int .i64 (-n2), .int .i64 k2] := by unfold ceilV; rw [cl1]; rfl
  exact as_in x y a1 a2 r3 _ _ _ _ _ _ m n e1 e2 n1 k1 (-n2) k2 _ _ w hE g1 g2 p1 q1 p2 q2
    (fun W => by have h := Floor_any x W bx.1 bx.2; rwa [fl1] at h) (fun W => by have h := rfloor5_any x W nx; rwa [fl2] at h)
    (fun W => by have h := Ceil_any x W bx.1 bx.2; rwa [ce] at h) (fun W => rceil5_any x n2 k2 W (sz_big ux (by decide)) cl2 ⟨c3, c4⟩)
    (fun W => qvalid_any x W bx.1 bx.2) (fun W => rvalidq x W bx) p3 q3
    (fun W => Neg_any x W bx.1 bx.2) (fun W => rneg_any x W bx)
    (fun W => Add_any x y W kx ky) (fun W => radd5_any x y W kx ky)
    (fun W => Sub_any x y W kx ky) (fun W => rsub5_any x y W kx ny)
    (fun W => Mul_any x y W bx.1 bx.2 b_y.1 b_y.2) (fun W => rmul5_any x y W kx ky)
    (fun W => Cmp_any x y W bx.1 bx.2 b_y.1 b_y.2) (fun W => rcmp5_any x y W nx ny)
    (fun W => Min_any x y W bx.1 bx.2 b_y.1 b_y.2) (fun W => rmin5_any x y W nx ny)
    (fun W => Max_any x y W bx.1 bx.2 b_y.1 b_y.2) (fun W => rmax5_any x y W nx ny)
end Go.Proofs.YtibfmcohodhkbaaGreatDoor
