/- RatsAreAField. -/
import Derived.Test.YtjfkmigaehcnbaaGreatDoorQ29
namespace Go.Proofs.YtjfkmigaehcnbaaGreatDoor
open Go.RowKit Hm Wm Wn

theorem sz_rt {k : Nat} {q : Rat} (h : Sz k q) : szR k (rt q) := by
  unfold rt
  split
  · exact ⟨Nat.zero_le _, Nat.zero_le _⟩
  · exact h
theorem sz_big {j k : Nat} {x : Rv} (h : szR j x) (hk : j ≤ k) : szR k x := ⟨Nat.le_trans h.1 hk, Nat.le_trans h.2 hk⟩
theorem rt_nil {q : Rat} : rt q = zR ↔ q = 0 := ⟨fun h => by rw [← val_rt q, h, vz zR rfl], fun h => by rw [h, rt_zero]⟩
theorem q_sub (a b : Rat) : a - b + b = a := by rw [Rat.sub_eq_add_neg, Rat.add_assoc, Rat.neg_add_cancel, Rat.add_zero]
theorem q_div (a : Rat) {b : Rat} (h : b ≠ 0) : a * b / b = a := by rw [Rat.div_def, Rat.mul_assoc, Rat.mul_inv_cancel b h, Rat.mul_one]
theorem q_m1 (a : Rat) : a * ((-1 : Int) : Rat) = -a := by
  rw [show ((-1 : Int) : Rat) = -1 from rfl, Rat.mul_neg, Rat.mul_one]
theorem walk_field (x y z : Rv) (w : World) (hE : Env w) : Calls Tryz.prog 5 #[rv x, rv y, rv z] w fun e w' => e = .returned (.bool true) ∧ Below w.heap.size w w' := by
  have g15 := fun W => few_any 25 x W
  have g19 := fun W => few_any 25 y W
  have g24 := fun W => few_any 25 z W
  cases f1 : fewB 25 x
  · rw [f1] at g15; exact fld_out0 x y z w hE g15
  rw [f1] at g15
  cases f2 : fewB 25 y
  · rw [f2] at g19; exact fld_out1 x y z w hE g15 g19
  rw [f2] at g19
  cases f3 : fewB 25 z
  · rw [f3] at g24; exact fld_out2 x y z w hE g15 g19 g24
  rw [f3] at g24
  have ux := few_sz f1
  have uy := few_sz f2
  have uz := few_sz f3
  have qx := Sz_val x 25 (by decide) ux.1 ux.2
  have qy := Sz_val y 25 (by decide) uy.1 uy.2
  have qz := Sz_val z 25 (by decide) uz.1 uz.2
  have sx := sz_big ux (show 25 ≤ 1000 by decide)
  have sy := sz_big uy (show 25 ≤ 1000 by decide)
  have sz := sz_big uz (show 25 ≤ 1000 by decide)
  have bx := sz_big ux (show 25 ≤ 10000 by decide)
  have b_y := sz_big uy (show 25 ≤ 10000 by decide)
  have bz := sz_big uz (show 25 ≤ 10000 by decide)
  generalize hA : valR x = A at qx
  generalize hB : valR y = B at qy
  generalize hC : valR z = C at qz
  have ss := sz_rt (Sz_add qx qy)
  have sp := sz_rt (Sz_mul qx qy)
  have sd : szR 51 (rt (A - B)) := by rw [Rat.sub_eq_add_neg]; exact sz_rt (Sz_add qx (Sz_neg qy))
  have sbz := sz_rt (Sz_add qy qz)
  have smz := sz_rt (Sz_mul qy qz)
  have sxz := sz_rt (Sz_mul qx qz)
  have s0 : szR 1000 zR := ⟨Nat.zero_le _, Nat.zero_le _⟩
  have sm1 : szR 1000 (rt ((-1 : Int) : Rat)) := sz_int (-1) rfl
  have V0 : valR zR = 0 := vz zR rfl
  have AD : ∀ (u v : Rv) (p q r : Rat), szR 1000 u → szR 1000 v → valR u = p → valR v = q → p + q = r → ∀ W, Calls Tryz.prog 24 #[rv u, rv v] W fun e w' => e = .returned (rv (rt r)) ∧ Below W.heap.size W w' := fun u v p q r h1 h2 h3 h4 h5 W => by
    have h := Add_any u v W h1 h2
    rwa [h3, h4, h5] at h
  have SB : ∀ (u v : Rv) (p q r : Rat), szR 1000 u → szR 1000 v → valR u = p → valR v = q → p - q = r → ∀ W, Calls Tryz.prog 26 #[rv u, rv v] W fun e w' => e = .returned (rv (rt r)) ∧ Below W.heap.size W w' := fun u v p q r h1 h2 h3 h4 h5 W => by
    have h := Sub_any u v W h1 h2
    rwa [h3, h4, h5] at h
  have ML : ∀ (u v : Rv) (p q r : Rat), szR 10000 u → szR 10000 v → valR u = p → valR v = q → p * q = r → ∀ W, Calls Tryz.prog 28 #[rv u, rv v] W fun e w' => e = .returned (rv (rt r)) ∧ Below W.heap.size W w' := fun u v p q r h1 h2 h3 h4 h5 W => by
    have h := Mul_any u v W h1.1 h1.2 h2.1 h2.2
    rwa [h3, h4, h5] at h
  have VA : ∀ q : Rat, szR 10000 (rt q) → ∀ W, Calls Tryz.prog 18 #[rv (rt q)] W fun e w' => e = .returned (.bool true) ∧ Below W.heap.size W w' := fun q h1 W => by
    have h := qvalid_any (rt q) W h1.1 h1.2
    rwa [okB_valid] at h
  have NG : ∀ (u : Rv) (p : Rat), szR 10000 u → valR u = p → ∀ W, Calls Tryz.prog 22 #[rv u] W fun e w' => e = .returned (rv (rt (-p))) ∧ Below W.heap.size W w' := fun u p h1 h2 W => by
    have h := Neg_any u W h1.1 h1.2
    rwa [h2] at h
  have b1 : ∀ {k : Nat} {u : Rv}, szR k u → k ≤ 1000 → szR 1000 u := fun h hk => sz_big h hk
  have b2 : ∀ {k : Nat} {u : Rv}, szR k u → k ≤ 10000 → szR 10000 u := fun h hk => sz_big h hk
  have g59 := SB x x A A 0 sx sx hA hA (Rat.sub_self)
  rw [rt_zero] at g59
  have g110 : ∃ q er, (∀ W, Calls Tryz.prog 12 #[rv (rt (A * B)), rv y] W fun e w' => e = .returned (.tuple #[rv q, .int .i64 er]) ∧ Below W.heap.size W w') ∧ (B = 0 → er = 1 ∧ q = zR) ∧ (B ≠ 0 → er = 0 ∧ q = rt A) := by
    by_cases h0 : B = 0
    · refine ⟨rt 0, 1, fun W => Div_none (rt (A * B)) y W sy (by rw [hB]; exact h0), fun _ => ⟨rfl, rt_zero⟩, fun h => absurd h0 h⟩
    · refine ⟨rt A, 0, fun W => ?_, fun h => absurd h h0, fun _ => ⟨rfl, rfl⟩⟩
      have h := Div_any (rt (A * B)) y W (b1 sp (by decide)) sy (by rw [hB]; exact h0)
      rwa [val_rt, hB, q_div A h0] at h
  obtain ⟨q, er, k110, kz, kp⟩ := g110
  refine fld_in x y z (rt (A + B)) (rt (A * B)) (rt (A - B)) (rt A) (rt (A + B + C)) (rt (B + C)) (rt (A * B * C)) (rt (B * C)) (rt ((A + B) * C)) (rt (A * C)) q (rt (-B)) (rt 1) (rt ((-1 : Int) : Rat)) (rt (-A)) er w hE g15 g19 g24
    (AD x y A B _ sx sy hA hB rfl) (ML x y A B _ bx b_y hA hB rfl) (VA _ (b2 ss (by decide))) (VA _ (b2 sp (by decide))) (AD y x B A _ sy sx hB hA (Rat.add_comm _ _)) (ML y x B A _ b_y bx hB hA (Rat.mul_comm _ _)) g59 (SB x y A B _ sx sy hA hB rfl)
    (AD (rt (A - B)) y (A - B) B _ (b1 sd (by decide)) sy (val_rt _) hB (q_sub A B)) (AD x zR A 0 _ sx s0 hA V0 (Rat.add_zero _))
    (AD (rt (A + B)) z (A + B) C _ (b1 ss (by decide)) sz (val_rt _) hC rfl) (AD y z B C _ sy sz hB hC rfl) (AD x (rt (B + C)) A (B + C) _ sx (b1 sbz (by decide)) hA (val_rt _) (Rat.add_assoc _ _ _).symm)
    (ML (rt (A * B)) z (A * B) C _ (b2 sp (by decide)) bz (val_rt _) hC rfl) (ML y z B C _ b_y bz hB hC rfl) (ML x (rt (B * C)) A (B * C) _ bx (b2 smz (by decide)) hA (val_rt _) (Rat.mul_assoc _ _ _).symm)
    (ML (rt (A + B)) z (A + B) C _ (b2 ss (by decide)) bz (val_rt _) hC rfl) (ML x z A C _ bx bz hA hC rfl) (AD (rt (A * C)) (rt (B * C)) (A * C) (B * C) _ (b1 sxz (by decide)) (b1 smz (by decide)) (val_rt _) (val_rt _) (Rat.add_mul _ _ _).symm)
    k110 (NG y B b_y hB) ?_ ?_
  · intro h
    have h0 : B = 0 := by
      have := rt_nil.1 h
      rw [← Rat.neg_neg (a := B), this]; rfl
    exact ⟨(kz h0).1, (kz h0).2, rt_nil.2 (by rw [h0, Rat.mul_zero])⟩
  · intro h
    have h0 : B ≠ 0 := fun e => h (rt_nil.2 (by rw [e]; rfl))
    refine ⟨(kp h0).1, (kp h0).2.symm, fun W => ?_, fun W => ?_, VA _ (b2 (sz_rt qx) (by decide)), fun W => Int_any (-1) W (by decide), ML x (rt ((-1 : Int) : Rat)) A _ _ bx (sz_big sm1 (by decide)) hA (val_rt _) (q_m1 A), NG x A bx hA⟩
    · have h1 := Div_any y y W sy sy (by rw [hB]; exact h0)
      rwa [hB, Rat.div_def, Rat.mul_inv_cancel B h0] at h1
    · exact Int_any 1 W (by decide)
end Go.Proofs.YtjfkmigaehcnbaaGreatDoor
