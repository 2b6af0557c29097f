/- Gcd: the plain part of its guesses. -/
import Derived.Test.YtkjnfobaoaaopaaGreatDoorN21
namespace Go.Proofs.YtkjnfobaoaaopaaGreatDoor
namespace Wn
/-- What n guessed steps say of two numbers x and y: A is the last divisor, C the last remainder. -/
structure GsP (n dx dy rx ry x y A C : Nat) : Prop where
  ev : n % 2 = 0 → dx * x = A + dy * y ∧ ry * y = C + rx * x
  od : n % 2 = 1 → dy * y = A + dx * x ∧ rx * x = C + ry * y
  com : Nat.gcd A C = Nat.gcd x y
  sum : A + C ≤ x + y
  les : 0 < n → A + C < x + y
/-- What stands in the loop of guessSteps. -/
structure GsI (X Y n dx dy rx ry a b : Nat) : Prop where
  top : a * ry + b * dy = X
  low : a * rx + b * dx = Y
  le : rx ≤ ry
  one : 1 ≤ ry
  cnt : n ≤ ry ∧ (0 < n → 1 ≤ dy) ∧ (0 < b → ry ≤ b)
  old : dx ≤ dy ∨ (n = 0 ∧ dx = 1 ∧ rx = 0)
  here : (n % 2 = 0 → dx * X = a + dy * Y ∧ ry * Y = b + rx * X) ∧ (n % 2 = 1 → dy * Y = a + dx * X ∧ rx * X = b + ry * Y)
  all : ∀ K x' y', x' < K → y' < K → ∃ A C, GsP n dx dy rx ry (X * K + x') (Y * K + y') A C ∧ (0 < b → 0 < C)
theorem GsI.start (X Y : Nat) : GsI X Y 0 1 0 0 1 X Y where
  top := by omega
  low := by omega
  le := by omega
  one := by omega
  cnt := by omega
  old := .inr ⟨rfl, rfl, rfl⟩
  here := ⟨fun _ => by omega, fun h => by omega⟩
  all := fun K x' y' _ _ => ⟨X * K + x', Y * K + y', ⟨fun _ => by omega, fun h => by omega, rfl, Nat.le_refl _, fun h => by omega⟩, fun hb => by
    have : 0 < Y * K := Nat.mul_pos hb (by omega)
    omega⟩
theorem GsI.room {X Y n dx dy rx ry a b : Nat} (h : GsI X Y n dx dy rx ry a b) (hb : 0 < b) : dy + a / b * ry ≤ X ∧ dx + a / b * rx ≤ Y := by
  have hq : a / b * b ≤ a := Nat.div_mul_le_self a b
  have key : ∀ d r T : Nat, a * r + b * d = T → d + a / b * r ≤ T := by
    intro d r T hT
    have h1 : a / b * b * r ≤ a * r := Nat.mul_le_mul_right r hq
    have h2 : a / b * b * r = b * (a / b * r) := by rw [Nat.mul_comm (a / b) b, Nat.mul_assoc]
    have h3 : d + a / b * r ≤ b * (d + a / b * r) := Nat.le_mul_of_pos_left _ hb
    rw [Nat.mul_add] at h3
    omega
  exact ⟨key _ _ _ h.top, key _ _ _ h.low⟩
theorem gs_diff {P X Q Y r K x' y' : Nat} (h : P * X = r + Q * Y) (hy : y' < K) (hQ : Q ≤ r) (h1 : 1 ≤ r ∨ 1 ≤ Q) : ∃ C, P * (X * K + x') = C + Q * (Y * K + y') ∧ 0 < C := by
  have e1 : P * (X * K + x') = r * K + Q * (Y * K) + P * x' := by rw [Nat.mul_add, ← Nat.mul_assoc, h, Nat.add_mul, Nat.mul_assoc]
  have e2 : Q * (Y * K + y') = Q * (Y * K) + Q * y' := Nat.mul_add _ _ _
  have h2 : Q * y' + Q ≤ Q * K := by rw [← Nat.mul_succ]; exact Nat.mul_le_mul_left Q hy
  have h3 : Q * K ≤ r * K := Nat.mul_le_mul_right K hQ
  have h4 : 1 ≤ r := by omega
  have h5 : 1 * K ≤ r * K := Nat.mul_le_mul_right K h4
  refine ⟨r * K - Q * y' + P * x', by omega, ?_⟩
  rcases Nat.eq_zero_or_pos Q with h0 | h0
  · subst h0; omega
  · omega
theorem gs_gcd (A C C' q : Nat) (h : A = C' + q * C) : Nat.gcd C C' = Nat.gcd A C := by
  subst h
  rw [Nat.gcd_comm (C' + q * C) C, Nat.gcd_add_mul_right_right]
theorem GsI.next {X Y n dx dy rx ry a b : Nat} (h : GsI X Y n dx dy rx ry a b) (hb : 0 < b) (hba : b < a) (hr : dy + a / b * ry ≤ a % b) :
    GsI X Y (n + 1) rx ry (dx + a / b * rx) (dy + a / b * ry) b (a % b) := by
  obtain ⟨q, hq⟩ : ∃ q, a / b = q := ⟨_, rfl⟩
  obtain ⟨r, hr2⟩ : ∃ r, a % b = r := ⟨_, rfl⟩
  have ha : a = b * q + r := by rw [← hq, ← hr2]; exact (Nat.div_add_mod a b).symm
  have hq1 : 1 ≤ q := by rw [← hq]; exact Nat.div_pos (Nat.le_of_lt hba) hb
  rw [hq, hr2] at hr ⊢
  have hqr : ry ≤ q * ry := Nat.le_mul_of_pos_left _ hq1
  have hqx : q * rx ≤ q * ry := Nat.mul_le_mul_left q h.le
  have h1 := h.one
  have hx : dx + q * rx ≤ dy + q * ry := by
    rcases h.old with h2 | ⟨_, h3, h4⟩
    · omega
    · rw [h3, h4]; omega
  have hN1 : n % 2 = 0 → (dx + q * rx) * X = r + (dy + q * ry) * Y := fun hn => by
    obtain ⟨e1, e2⟩ := h.here.1 hn
    have e3 : q * (ry * Y) = q * b + q * (rx * X) := by rw [e2, Nat.mul_add]
    rw [Nat.add_mul, Nat.add_mul, Nat.mul_assoc, Nat.mul_assoc, e1, e3, ha, Nat.mul_comm q b]
    omega
  have hN2 : n % 2 = 1 → (dy + q * ry) * Y = r + (dx + q * rx) * X := fun hn => by
    obtain ⟨e1, e2⟩ := h.here.2 hn
    have e3 : q * (rx * X) = q * b + q * (ry * Y) := by rw [e2, Nat.mul_add]
    rw [Nat.add_mul, Nat.add_mul, Nat.mul_assoc, Nat.mul_assoc, e1, e3, ha, Nat.mul_comm q b]
    omega
  obtain ⟨c1, c2, c3⟩ := h.cnt
  have hc : n + 1 ≤ dy + q * ry := by
    rcases Nat.eq_zero_or_pos n with h0 | h0
    · omega
    · have := c2 h0; omega
  refine ⟨?_, ?_, hx, by omega, ⟨hc, fun _ => h1, fun _ => hr⟩, .inl h.le, ⟨fun hn => ⟨?_, ?_⟩, fun hn => ⟨?_, ?_⟩⟩, ?_⟩
  · have := h.top
    rw [ha, Nat.add_mul, Nat.mul_assoc] at this
    rw [Nat.mul_add]
    omega
  · have := h.low
    rw [ha, Nat.add_mul, Nat.mul_assoc] at this
    rw [Nat.mul_add]
    omega
  · exact (h.here.2 (by omega)).2
  · exact hN2 (by omega)
  · exact (h.here.1 (by omega)).2
  · exact hN1 (by omega)
  · intro K x' y' hx' hy'
    obtain ⟨A, C, hp, hC⟩ := h.all K x' y' hx' hy'
    have hC := hC hb
    have fin : ∀ C', A = C' + q * C → 0 < C' → C + C' < X * K + x' + (Y * K + y') := fun C' e _ => by
      have e2 : C ≤ q * C := Nat.le_mul_of_pos_left _ hq1
      have := hp.sum
      omega
    rcases Nat.mod_two_eq_zero_or_one n with hn | hn
    · obtain ⟨e1, e2⟩ := hp.ev hn
      obtain ⟨C', e3, hC'⟩ := gs_diff (P := dx + q * rx) (Q := dy + q * ry) (x' := x') (y' := y') (K := K) (hN1 hn) hy' hr (by omega)
      have e4 : A = C' + q * C := by
        have e5 : q * (ry * (Y * K + y')) = q * C + q * (rx * (X * K + x')) := by rw [e2, Nat.mul_add]
        rw [Nat.add_mul, Nat.add_mul, Nat.mul_assoc, Nat.mul_assoc, e1, e5] at e3
        omega
      exact ⟨C, C', ⟨fun h => by omega, fun _ => ⟨e2, e3⟩, by rw [gs_gcd A C C' q e4]; exact hp.com, Nat.le_of_lt (fin C' e4 hC'), fun _ => fin C' e4 hC'⟩, fun _ => hC'⟩
    · obtain ⟨e1, e2⟩ := hp.od hn
      obtain ⟨C', e3, hC'⟩ := gs_diff (P := dy + q * ry) (Q := dx + q * rx) (X := Y) (Y := X) (x' := y') (y' := x') (K := K) (hN2 hn) hx' (by omega) (by omega)
      have e4 : A = C' + q * C := by
        have e5 : q * (rx * (X * K + x')) = q * C + q * (ry * (Y * K + y')) := by rw [e2, Nat.mul_add]
        rw [Nat.add_mul, Nat.add_mul, Nat.mul_assoc, Nat.mul_assoc, e1, e5] at e3
        omega
      exact ⟨C, C', ⟨fun _ => ⟨e2, e3⟩, fun h => by omega, by rw [gs_gcd A C C' q e4]; exact hp.com, Nat.le_of_lt (fin C' e4 hC'), fun _ => fin C' e4 hC'⟩, fun _ => hC'⟩
theorem GsI.few {X Y n dx dy rx ry a b : Nat} (h : GsI X Y n dx dy rx ry a b) (hb : 0 < b) (hba : b < a) (hX : X < B) : n ≤ 4294967296 := by
  obtain ⟨c1, _, c3⟩ := h.cnt
  have c3 := c3 hb
  rcases Nat.lt_or_ge 4294967296 n with h0 | h0
  · have h1 : 4294967296 * 4294967296 ≤ a * ry := Nat.mul_le_mul (by omega) (by omega)
    have h2 := h.top
    unfold B at hX
    omega
  · exact h0
end Wn
end Go.Proofs.YtkjnfobaoaaopaaGreatDoor
