/- RatsAreOrdered. -/
import Derived.Test.YtibfmcohodhkbaaGreatDoorQ32
import Derived.Test.YtibfmcohodhkbaaGreatDoorQ33
namespace Go.Proofs.YtibfmcohodhkbaaGreatDoor
open Go.RowKit Hm Wm Wn

theorem walk_ord (x y z : Rv) (w : World) (hE : Env w) : Calls Tryz.prog 5 #[rv x, rv y, rv z] w fun e w' => e = .returned (.bool true) ∧ Below w.heap.size w w' := by
  have g1 := fun W => few_any 25 x W
  have g2 := fun W => few_any 25 y W
  have g3 := fun W => few_any 25 z W
  cases f1 : fewB 25 x
  · rw [f1] at g1; exact ord_out0 x y z w hE g1
  rw [f1] at g1
  cases f2 : fewB 25 y
  · rw [f2] at g2; exact ord_out1 x y z w hE g1 g2
  rw [f2] at g2
  cases f3 : fewB 25 z
  · rw [f3] at g3; exact ord_out2 x y z w hE g1 g2 g3
  rw [f3] at g3
  have ux := few_sz f1
  have uy := few_sz f2
  have uz := few_sz f3
  have bx := sz_big ux (show 25 ≤ 10000 by decide)
  have b_y := sz_big uy (show 25 ≤ 10000 by decide)
  have bz := sz_big uz (show 25 ≤ 10000 by decide)
  have g4 := fun W => rvalidq x W bx
  have g5 := fun W => rvalidq y W b_y
  have g6 := fun W => rvalidq z W bz
  cases f4 : okB x
  · rw [f4] at g4; exact ord_out3 x y z w hE g1 g2 g3 g4
  rw [f4] at g4
  cases f5 : okB y
  · rw [f5] at g5; exact ord_out4 x y z w hE g1 g2 g3 g4 g5
  rw [f5] at g5
  cases f6 : okB z
  · rw [f6] at g6; exact ord_out5 x y z w hE g1 g2 g3 g4 g5 g6
  rw [f6] at g6
  have qx := Sz_val x 25 (by decide) ux.1 ux.2
  have qy := Sz_val y 25 (by decide) uy.1 uy.2
  have qz := Sz_val z 25 (by decide) uz.1 uz.2
  have sx := sz_big ux (show 25 ≤ 1000 by decide)
  have sy := sz_big uy (show 25 ≤ 1000 by decide)
  have sz := sz_big uz (show 25 ≤ 1000 by decide)
  have tx := okB_rt f4
  have ty := okB_rt f5
  have tz := okB_rt f6
  generalize hA : valR x = A at qx tx
  generalize hB : valR y = B at qy ty
  generalize hC : valR z = C at qz tz
  have ss := sz_rt (Sz_add qx qz)
  have st := sz_rt (Sz_add qy qz)
  have sp := sz_rt (Sz_mul qx qz)
  have sq := sz_rt (Sz_mul qy qz)
  have s0 : szR 10000 zR := ⟨Nat.zero_le _, Nat.zero_le _⟩
  have V0 : valR zR = 0 := vz zR rfl
  have CM : ∀ (u v : Rv) (p q : Rat) (r : Int), szR 10000 u → szR 10000 v → valR u = p → valR v = q → cmpQ p q = r → ∀ W, Calls Tryz.prog 28 #[rv u, rv v] W fun e w' => e = .returned (.int .i64 r) ∧ Below W.heap.size W w' := fun u v p q r h1 h2 h3 h4 h5 W => by
    have h := Cmp_any u v W h1.1 h1.2 h2.1 h2.2
    rwa [h3, h4, h5] at h
  have AD : ∀ (u v : Rv) (p q : Rat), szR 1000 u → szR 1000 v → valR u = p → valR v = q → ∀ W, Calls Tryz.prog 22 #[rv u, rv v] W fun e w' => e = .returned (rv (rt (p + q))) ∧ Below W.heap.size W w' := fun u v p q h1 h2 h3 h4 W => by
    have h := Add_any u v W h1 h2
    rwa [h3, h4] at h
  have ML : ∀ (u v : Rv) (p q : Rat), szR 10000 u → szR 10000 v → valR u = p → valR v = q → ∀ W, Calls Tryz.prog 26 #[rv u, rv v] W fun e w' => e = .returned (rv (rt (p * q))) ∧ Below W.heap.size W w' := fun u v p q h1 h2 h3 h4 W => by
    have h := Mul_any u v W h1.1 h1.2 h2.1 h2.2
    rwa [h3, h4] at h
  have MN : ∀ W, Calls Tryz.prog 30 #[rv x, rv y] W fun e w' => e = .returned (rv (rt (if cmpQ A B = -1 then A else B))) ∧ Below W.heap.size W w' := fun W => by
    have h := Min_any x y W bx.1 bx.2 b_y.1 b_y.2
    rwa [hA, hB] at h
  have MX : ∀ W, Calls Tryz.prog 32 #[rv x, rv y] W fun e w' => e = .returned (rv (rt (if cmpQ A B = 1 then A else B))) ∧ Below W.heap.size W w' := fun W => by
    have h := Max_any x y W bx.1 bx.2 b_y.1 b_y.2
    rwa [hA, hB] at h
  have FL : ∀ W, Calls Tryz.prog 12 #[rv x] W fun e w' => e = .returned (floorV A) ∧ Below W.heap.size W w' := fun W => by
    have h := Floor_any x W bx.1 bx.2
    rwa [hA] at h
  have CL : ∀ W, Calls Tryz.prog 14 #[rv x] W fun e w' => e = .returned (ceilV A) ∧ Below W.heap.size W w' := fun W => by
    have h := Ceil_any x W bx.1 bx.2
    rwa [hA] at h
  obtain ⟨c, kc, hc, hk⟩ : ∃ c kc : Int, ceilV A = .tuple #[.int .i64 c, .int .i64 kc] ∧ (kc = 3 ∨ (kc = 0 ∧ c = -(-A).floor)) := by
    unfold ceilV
    by_cases h : -999999999999999 ≤ (-A).floor ∧ (-A).floor ≤ 999999999999999
    · rw [floorV_in h]; exact ⟨_, _, rfl, .inr ⟨rfl, rfl⟩⟩
    · rw [floorV_out h]; exact ⟨_, _, rfl, .inl rfl⟩
  rw [hc] at CL
  have xy : (decide (x = y)) = decide (A = B) := decide_eq_decide.2 ⟨fun e => by rw [← hA, ← hB, e], fun e => by rw [← tx, ← ty, e]⟩
  have H10 : ((cmpQ A B = -1 ∨ cmpQ A B = 0) ∧ x = rt (if cmpQ A B = -1 then A else B) ∧ y = rt (if cmpQ A B = 1 then A else B)) ∨ (cmpQ A B = 1 ∧ y = rt (if cmpQ A B = -1 then A else B) ∧ x = rt (if cmpQ A B = 1 then A else B)) := by
    rcases q_tri A B with h | h | h
    · rw [cmp_lt h]; exact .inl ⟨.inl rfl, tx.symm, ty.symm⟩
    · subst h; rw [cmp_eq]; exact .inl ⟨.inr rfl, tx.symm, ty.symm⟩
    · rw [cmp_gt h]; exact .inr ⟨rfl, ty.symm, tx.symm⟩
  have base := fun (f k : Int) (fi sb : Rv) (c174 c182 : Int) (hf : floorV A = .tuple #[.int .i64 f, .int .i64 k]) => ord_in x y z (rt (A + C)) (rt (B + C)) (rt (A * C)) (rt (B * C)) (rt (if cmpQ A B = -1 then A else B)) (rt (if cmpQ A B = 1 then A else B)) fi sb (rt ((1 : Int) : Rat)) (cmpQ A B) (cmpQ B C) (cmpQ A C) (cmpQ B A) (cmpQ C 0) (cmpQ A B * cmpQ C 0) f k c kc c174 c182 (decide (A = B)) w hE g1 g2 g3 g4 g5 g6
    (CM x y A B _ bx b_y hA hB rfl) (CM y z B C _ b_y bz hB hC rfl) (CM x z A C _ bx bz hA hC rfl) (CM y x B A _ b_y bx hB hA rfl) (CM z zR C 0 _ bz s0 hC V0 rfl)
    (AD x z A C sx sz hA hC) (AD y z B C sy sz hB hC) (CM (rt (A + C)) (rt (B + C)) (A + C) (B + C) _ (sz_big ss (by decide)) (sz_big st (by decide)) (val_rt _) (val_rt _) (cmp_add A B C))
    (ML x z A C bx bz hA hC) (ML y z B C b_y bz hB hC) (CM (rt (A * C)) (rt (B * C)) (A * C) (B * C) _ (sz_big sp (by decide)) (sz_big sq (by decide)) (val_rt _) (val_rt _) (cmp_mul A B C))
    MN MX (fun W => by rw [← hf]; exact FL W) CL (tri3 A B C) (fun W => run_neR x y _ xy W) (fun W => run_mulS _ _ (cmp_val A B) (cmp_val C 0) W) H10
  by_cases hR : -999999999999999 ≤ A.floor ∧ A.floor ≤ 999999999999999
  · have si : szR 1000 (rt (A.floor : Rat)) := sz_int _ (decide_eq_true hR)
    have so : szR 1000 (rt ((1 : Int) : Rat)) := sz_int 1 rfl
    have s1 := Sz_val (rt (A.floor : Rat)) 1000 (by decide) si.1 si.2
    rw [val_rt] at s1
    have sd : szR 1026 (rt (A - (A.floor : Rat))) := by rw [Rat.sub_eq_add_neg]; exact sz_rt (Sz_add qx (Sz_neg s1))
    refine base A.floor 0 (rt (A.floor : Rat)) (rt (A - (A.floor : Rat))) (cmpQ (A.floor : Rat) A) (cmpQ (A - (A.floor : Rat)) ((1 : Int) : Rat)) (floorV_in hR) (.inr ⟨rfl, fun W => Int_any _ W hR, CM _ x _ A _ (sz_big si (by decide)) bx (val_rt _) hA rfl, fun W => ?_, fun W => Int_any 1 W (by decide), CM _ _ _ _ _ (sz_big sd (by decide)) (sz_big so (by decide)) (val_rt _) (val_rt _) rfl, ?_, ?_, ?_⟩)
    · have h := Sub_any x (rt (A.floor : Rat)) W sx si
      rwa [hA, val_rt] at h
    · rcases Rat.le_iff_lt_or_eq.1 (Rat.floor_le A) with h | h
      · rw [cmp_lt h]; rfl
      · rw [h, cmp_eq]; rfl
    · rw [cmp_lt (Rat.sub_lt_iff.2 (by have h := Rat.lt_floor_add_one A; rwa [Rat.intCast_add, Rat.add_comm] at h))]; rfl
    · rcases hk with h | ⟨h0, h1⟩
      · exact .inl h
      · rcases floor_ceil A with ⟨h2, h3⟩ | ⟨h2, h3⟩
        · refine .inr (.inl ⟨h0, fun W => run_subI _ _ _ _ (by omega) (by decide) W, fun W => run_neR _ x true (decide_eq_true ?_) W⟩)
          rw [← tx, ← h2]
        · refine .inr (.inr ⟨h0, fun W => run_subI _ _ _ _ (by omega) (by decide) W, fun W => run_neT _ x (fun e => h2 ?_) W⟩)
          have h := congrArg valR e
          rw [val_rt, hA] at h
          exact h.symm
  · exact base 0 3 zR zR 0 0 (floorV_out hR) (.inl rfl)
end Go.Proofs.YtibfmcohodhkbaaGreatDoor
