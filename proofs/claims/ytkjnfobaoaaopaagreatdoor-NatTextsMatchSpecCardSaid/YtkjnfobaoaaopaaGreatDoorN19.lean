/- divMod: the short case, and the loop's relation. -/
import Derived.Test.YtkjnfobaoaaopaaGreatDoorN18
import Derived.WalkMore
namespace Go.Proofs.YtkjnfobaoaaopaaGreatDoor
open Go.RowKit Hm Wm Wn

theorem newW_zero (w : World) : NewW w 0 (.slice none 0 0) := ⟨none, 0, by rw [digW_zero]; rfl, by rw [digW_zero]; exact Rd.nil _ _, by rw [digW_zero]; exact Nat.le_refl _⟩
set_option maxRecDepth 100000 in
set_option maxHeartbeats 400000 in
theorem divMod_short (A : Option Addr) (c N : Nat) (A2 : Option Addr) (c2 M : Nat) (w : World) (hr : RdW w A (digW N)) (hc : (digW N).length ≤ c) (hlt : (digW N).length < (digW M).length) (hl : (digW M).length ≤ 100000) :
    Calls Tryz.prog 33 #[.slice A (digW N).length c, .slice A2 (digW M).length c2] w fun e w' => ∃ v1 v2, e = .returned (.tuple #[v1, v2]) ∧ NewW w' (N / M) v1 ∧ NewW w' (N % M) v2 ∧ w' = w := by
  have hM : M ≠ 0 := fun h => by rw [h, digW_zero] at hlt; simp at hlt
  obtain ⟨g1, g2⟩ := digW_ge hM
  have h1 := digW_lt N
  have h2 : B ^ (digW N).length ≤ B ^ ((digW M).length - 1) := Nat.pow_le_pow_right B_pos (by omega)
  have hNM : N < M := by omega
  have HV := Lib.hid (show NewW w (N % M) (.slice A (digW N).length c) from ⟨A, c, by rw [Nat.mod_eq_of_lt hNM], by rw [Nat.mod_eq_of_lt hNM]; exact hr, by rw [Nat.mod_eq_of_lt hNM]; exact hc⟩)
  have HZ := Lib.hid (show NewW w (N / M) (.slice none 0 0) by rw [Nat.div_eq_of_lt hNM]; exact newW_zero w)
  obtain ⟨n, hn⟩ : ∃ n, (digW M).length = n := ⟨_, rfl⟩
  obtain ⟨m, hm⟩ : ∃ m, (digW N).length = m := ⟨_, rfl⟩
  rw [hn] at hlt hl
  rw [hm] at hlt HV
  rw [hn, hm]
  have d1 : decide ((m : Int) < (n : Int)) = true := decide_eq_true (by omega)
  have d1' : decide (m < n) = true := decide_eq_true hlt
  clear hr hc hM g1 g2 h1 h2 hNM hn hm
  go_enter Tryz.func33, Tryz.ntmps33
  go_wp2_with fail
  go_step3
  go_wp2_with fail
  rw [Exit.noGoto_ret]
  go_ret2
  exact ⟨_, _, rfl, HZ.out, HV.out, rfl⟩
/-- What stands in the loop of divMod: the blocks of the divisor, the rest and the quotient. -/
structure DmS (w : World) (X Y : List Nat) (s g1 g2 g3 : Nat) (P R Q : List Nat) (j : Nat) (wr : World) : Prop where
  b1 : Blk wr g1 53 (ws P)
  b2 : Blk wr g2 53 (ws R)
  b3 : Blk wr g3 53 (ws Q)
  st : DvI X Y s (num Y * 2 ^ s) R Q j
  below : Below w.heap.size w wr
def DmR (w : World) (X Y : List Nat) (s g1 g2 g3 : Nat) (P : List Nat) (iv : Value) (wr : World) : Prop :=
  ∃ (j : Nat) (R Q : List Nat), iv = .int .i64 ((j : Int) - 1) ∧ j ≤ X.length - Y.length + 1 ∧ Hid (DmS w X Y s g1 g2 g3 P R Q j wr)
/-- What stands in the inner loop: the window's number and the digit, which is still too great. -/
structure DmB (w : World) (X Y : List Nat) (s g1 g2 g3 i : Nat) (P R Q V : List Nat) (f : Nat) (wr : World) : Prop where
  b1 : Blk wr g1 53 (ws P)
  b2 : Blk wr g2 53 (ws (R.take i ++ V ++ R.drop (i + (Y.length + 1))))
  b3 : Blk wr g3 53 (ws (Q.set i f))
  st : DvI X Y s (num Y * 2 ^ s) R Q (i + 1)
  below : Below w.heap.size w wr
  vl : V.length = Y.length + 1
  vd : Dig V
  sum : num V + f * (num Y * 2 ^ s) = num ((R.drop i).take (Y.length + 1)) + B ^ (Y.length + 1)
  qf : num ((R.drop i).take (Y.length + 1)) / (num Y * 2 ^ s) < f
  fB : f < B
end Go.Proofs.YtkjnfobaoaaopaaGreatDoor
