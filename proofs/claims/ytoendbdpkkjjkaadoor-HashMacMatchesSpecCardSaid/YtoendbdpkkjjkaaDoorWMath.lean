/- The byte encodings of integers as plain functions on lists of bytes, and what holds of them; no program is named here. -/
import Derived.Below
namespace Go.Proofs.YtoendbdpkkjjkaaDoor.Wm

/-- The digits of a number in base 128, the least first; all but the last one plus 128. 'f' bounds the steps. -/
def digF : Nat → Nat → List UInt8
  | 0, z => [UInt8.ofNat z]
  | f + 1, z => if z < 128 then [UInt8.ofNat z] else UInt8.ofNat (z % 128 + 128) :: digF f (z / 128)
def dig (z : Nat) : List UInt8 := digF z z

theorem digF_fuel : ∀ (f g z : Nat), z ≤ f → z ≤ g → digF f z = digF g z := by
  intro f
  induction f with
  | zero =>
    intro g z hf _
    obtain rfl : z = 0 := by omega
    cases g <;> simp [digF]
  | succ f ih =>
    intro g z hf hg
    cases g with
    | zero =>
      obtain rfl : z = 0 := by omega
      simp [digF]
    | succ g =>
      simp only [digF]
      split
      · rfl
      · rw [ih g (z / 128) (by omega) (by omega)]

theorem dig_one {z : Nat} (h : z < 128) : dig z = [UInt8.ofNat z] := by
  unfold dig
  cases z with
  | zero => rfl
  | succ z => simp only [digF]; rw [if_pos h]

theorem dig_more {z : Nat} (h : 128 ≤ z) : dig z = UInt8.ofNat (z % 128 + 128) :: dig (z / 128) := by
  unfold dig
  cases z with
  | zero => omega
  | succ z =>
    simp only [digF]
    rw [if_neg (by omega), digF_fuel z ((z + 1) / 128) ((z + 1) / 128) (by omega) (Nat.le_refl _)]

theorem dig_pos (z : Nat) : 0 < (dig z).length := by
  rcases Nat.lt_or_ge z 128 with h | h
  · rw [dig_one h]; simp
  · rw [dig_more h]; simp

theorem dig_le : ∀ (k z : Nat), z < 128 ^ (k + 1) → (dig z).length ≤ k + 1 := by
  intro k
  induction k with
  | zero => intro z h; rw [dig_one (by simpa using h)]; simp
  | succ k ih =>
    intro z h
    rcases Nat.lt_or_ge z 128 with h1 | h1
    · rw [dig_one h1]; simp
    · rw [dig_more h1]
      have h2 : z / 128 < 128 ^ (k + 1) := by
        have : 128 ^ (k + 1 + 1) = 128 ^ (k + 1) * 128 := Nat.pow_succ ..
        omega
      have := ih _ h2
      simp; omega

theorem dig_ge : ∀ (k z : Nat), 128 ^ k ≤ z → k + 1 ≤ (dig z).length := by
  intro k
  induction k with
  | zero => intro z _; exact dig_pos z
  | succ k ih =>
    intro z h
    have h0 : 128 ^ (k + 1) = 128 ^ k * 128 := Nat.pow_succ ..
    have h00 : 0 < 128 ^ k := Nat.pow_pos (by omega)
    have h1 : 128 ≤ z := by omega
    rw [dig_more h1]
    have h2 : 128 ^ k ≤ z / 128 := by omega
    have := ih _ h2
    simp; omega

theorem dig_mono {x y : Nat} (h : x ≤ y) : (dig x).length ≤ (dig y).length := by
  rcases Nat.lt_or_ge ((dig y).length) ((dig x).length) with hlt | hge
  · exfalso
    have hp := dig_pos y
    obtain ⟨k, hk⟩ : ∃ k, (dig y).length = k + 1 := ⟨(dig y).length - 1, by omega⟩
    rcases Nat.lt_or_ge y (128 ^ (k + 1)) with h1 | h1
    · have := dig_le k x (by omega)
      omega
    · have := dig_ge (k + 1) y h1
      omega
  · exact hge

/-- An integer as a natural number, and back. -/
def zig (n : Int) : Nat := if n < 0 then (-2 * n - 1).toNat else (2 * n).toNat
def zag (z : Nat) : Int := if z % 2 = 1 then -((z / 2 : Nat) : Int) - 1 else ((z / 2 : Nat) : Int)
theorem zag_zig (n : Int) : zag (zig n) = n := by
  unfold zag zig
  split <;> split <;> omega
theorem zig_zag (z : Nat) : zig (zag z) = z := by
  unfold zag zig
  split <;> split <;> omega
theorem zig_lt {n : Int} (h : -9223372036854775808 ≤ n) (h' : n ≤ 9223372036854775807) : zig n < 18446744073709551616 := by
  unfold zig; split <;> omega
theorem zag_in {z : Nat} (h : z < 18446744073709551616) : -9223372036854775808 ≤ zag z ∧ zag z ≤ 9223372036854775807 := by
  unfold zag; split <;> omega
theorem zig_inj {m n : Int} (h : zig m = zig n) : m = n := by rw [← zag_zig m, h, zag_zig]
theorem zig_even {n : Nat} : zig (n : Int) = 2 * n := by unfold zig; rw [if_neg (by omega)]; omega

def enc (n : Int) : List UInt8 := dig (zig n)
theorem enc_pos (n : Int) : 0 < (enc n).length := dig_pos _
theorem enc_le {n : Int} (h : -9223372036854775808 ≤ n) (h' : n ≤ 9223372036854775807) : (enc n).length ≤ 10 :=
  dig_le 9 _ (Nat.lt_trans (zig_lt h h') (by decide))

/-- What is decoded from place i of an encoding on: the number, how many bytes, the error (0, 10, 11). -/
def gz : Nat → List UInt8 → Nat × Nat × Nat
  | _, [] => (0, 0, 10)
  | i, c :: r =>
    if (i = 9 ∧ 1 < c.toNat) ∨ (0 < i ∧ c.toNat = 0) then (0, 0, 11)
    else if c.toNat < 128 then (c.toNat, 1, 0)
    else if (gz (i + 1) r).2.2 = 0 then (c.toNat % 128 + 128 * (gz (i + 1) r).1, (gz (i + 1) r).2.1 + 1, 0)
    else (0, 0, (gz (i + 1) r).2.2)

theorem gz_err : ∀ (l : List UInt8) (i : Nat), (gz i l).2.2 = 0 ∨ (gz i l).2.2 = 10 ∨ (gz i l).2.2 = 11 := by
  intro l
  induction l with
  | nil => intro i; simp [gz]
  | cons c r ih =>
    intro i
    simp only [gz]
    split
    · simp
    · split
      · simp
      · split
        · simp
        · exact ih _

theorem gz_bad : ∀ (l : List UInt8) (i : Nat), (gz i l).2.2 ≠ 0 → (gz i l).1 = 0 ∧ (gz i l).2.1 = 0 := by
  intro l
  cases l with
  | nil => intro i _; simp [gz]
  | cons c r =>
    intro i
    simp only [gz]
    split
    · simp
    · split
      · simp
      · split
        · simp
        · simp

theorem gz_used : ∀ (l : List UInt8) (i : Nat), i ≤ 9 → (gz i l).2.2 = 0 → 1 ≤ (gz i l).2.1 ∧ (gz i l).2.1 ≤ l.length ∧ (gz i l).2.1 + i ≤ 10 := by
  intro l
  induction l with
  | nil => intro i _ h; simp [gz] at h
  | cons c r ih =>
    intro i hi h
    simp only [gz] at h ⊢
    split
    · rename_i h1; rw [if_pos h1] at h; simp at h
    · rename_i h1
      rw [if_neg h1] at h
      split
      · simp; omega
      · rename_i h2
        rw [if_neg h2] at h
        split
        · rename_i h3
          have := ih (i + 1) (by omega) h3
          simp; omega
        · rename_i h3
          rw [if_neg h3] at h
          exact absurd h h3

theorem ofNat_toNat {n : Nat} (h : n < 256) : (UInt8.ofNat n).toNat = n := by
  rw [UInt8.toNat_ofNat']; omega

/-- What is decoded is written by those bytes, and no others. -/
theorem gz_dig : ∀ (l : List UInt8) (i : Nat), i ≤ 9 → (gz i l).2.2 = 0 → l.take (gz i l).2.1 = dig (gz i l).1 ∧ (gz i l).1 * 128 ^ i < 18446744073709551616 ∧ (0 < i → 0 < (gz i l).1) := by
  intro l
  induction l with
  | nil => intro i _ h; simp [gz] at h
  | cons c r ih =>
    intro i hi h
    have hc := c.toNat_lt
    simp only [gz] at h ⊢
    split
    · rename_i h1; rw [if_pos h1] at h; simp at h
    · rename_i h1
      rw [if_neg h1] at h
      split
      · rename_i h2
        refine ⟨?_, ?_, ?_⟩
        · rw [dig_one h2]; simp
        · show c.toNat * 128 ^ i < _
          have hcase : i = 9 ∨ i ≤ 8 := by omega
          rcases hcase with rfl | h8
          · have : c.toNat ≤ 1 := by omega
            have := Nat.mul_le_mul_right (128 ^ 9) this
            have e : (128 : Nat) ^ 9 = 9223372036854775808 := by decide
            omega
          · have : (128 : Nat) ^ i ≤ 128 ^ 8 := Nat.pow_le_pow_right (by omega) h8
            have e : (128 : Nat) ^ 8 = 72057594037927936 := by decide
            have h3 : c.toNat * 128 ^ i ≤ 127 * 128 ^ 8 := Nat.mul_le_mul (by omega) this
            omega
        · intro _; show 0 < c.toNat; omega
      · rename_i h2
        rw [if_neg h2] at h
        split
        · rename_i h3
          have hi9 : i ≤ 8 := by
            rcases Nat.lt_or_ge i 9 with h9 | h9
            · omega
            · exfalso; exact h1 (.inl ⟨by omega, by omega⟩)
          obtain ⟨a, b, d⟩ := ih (i + 1) (by omega) h3
          have d' := d (by omega)
          have hz : (c.toNat % 128 + 128 * (gz (i + 1) r).1) / 128 = (gz (i + 1) r).1 := by omega
          have hm : (c.toNat % 128 + 128 * (gz (i + 1) r).1) % 128 + 128 = c.toNat := by omega
          refine ⟨?_, ?_, ?_⟩
          · show (c :: r).take ((gz (i + 1) r).2.1 + 1) = dig (c.toNat % 128 + 128 * (gz (i + 1) r).1)
            rw [dig_more (by omega), hz, hm, List.take_succ_cons, a]
            simp
          · show (c.toNat % 128 + 128 * (gz (i + 1) r).1) * 128 ^ i < _
            have e : (128 : Nat) ^ (i + 1) = 128 ^ i * 128 := Nat.pow_succ ..
            rw [e] at b
            have h4 : (c.toNat % 128 + 128 * (gz (i + 1) r).1) * 128 ^ i < (128 * (gz (i + 1) r).1 + 128) * 128 ^ i := Nat.mul_lt_mul_of_pos_right (by omega) (Nat.pow_pos (by omega))
            have h5 : (128 * (gz (i + 1) r).1 + 128) * 128 ^ i = ((gz (i + 1) r).1 * (128 ^ i * 128)) + 128 ^ i * 128 := by
              rw [Nat.add_mul, Nat.mul_comm 128 (gz (i + 1) r).1, Nat.mul_assoc, Nat.mul_comm 128 (128 ^ i)]
            -- both sides are multiples of 128 ^ (i + 1) but for the bound: the bound is one for i ≤ 8
            have h6 : (128 : Nat) ^ i * 128 ∣ 18446744073709551616 := by
              have : i = 0 ∨ i = 1 ∨ i = 2 ∨ i = 3 ∨ i = 4 ∨ i = 5 ∨ i = 6 ∨ i = 7 ∨ i = 8 := by omega
              rcases this with rfl | rfl | rfl | rfl | rfl | rfl | rfl | rfl | rfl <;> decide
            obtain ⟨q, hq⟩ := h6
            rw [hq] at b ⊢
            have hpos : 0 < (128 : Nat) ^ i * 128 := Nat.mul_pos (Nat.pow_pos (by omega)) (by omega)
            have hlt : (gz (i + 1) r).1 < q := by
              rw [Nat.mul_comm] at b
              exact Nat.lt_of_mul_lt_mul_left b
            have h7 : ((gz (i + 1) r).1 + 1) * (128 ^ i * 128) ≤ q * (128 ^ i * 128) := Nat.mul_le_mul_right _ hlt
            rw [Nat.add_mul, Nat.one_mul] at h7
            rw [Nat.mul_comm (128 ^ i * 128) q]
            omega
          · intro _; show 0 < c.toNat % 128 + 128 * (gz (i + 1) r).1; omega
        · rename_i h3
          rw [if_neg h3] at h
          exact absurd h h3

/-- The digits of a number are decoded to it, whatever follows. -/
theorem gz_of : ∀ (z i : Nat) (r : List UInt8), i ≤ 9 → z * 128 ^ i < 18446744073709551616 → (0 < i → 0 < z) → gz i (dig z ++ r) = (z, (dig z).length, 0) := by
  intro z
  induction z using Nat.strongRecOn with
  | ind z ih =>
    intro i r hi hz h0
    rcases Nat.lt_or_ge z 128 with h1 | h1
    · have hb : ¬ ((i = 9 ∧ 1 < z) ∨ (0 < i ∧ z = 0)) := by
        intro h
        rcases h with ⟨rfl, h⟩ | ⟨h, h'⟩
        · have e : (128 : Nat) ^ 9 = 9223372036854775808 := by decide
          omega
        · have := h0 h; omega
      rw [dig_one h1]
      have ht : (UInt8.ofNat z).toNat = z := ofNat_toNat (by omega)
      simp only [List.cons_append, List.nil_append, gz, ht, if_neg hb, if_pos h1, List.length_cons, List.length_nil]
    · have hi8 : i ≤ 8 := by
        rcases Nat.lt_or_ge i 9 with h9 | h9
        · omega
        · obtain rfl : i = 9 := by omega
          have e : (128 : Nat) ^ 9 = 9223372036854775808 := by decide
          omega
      have hz' : z / 128 * 128 ^ (i + 1) < 18446744073709551616 := by
        have e : (128 : Nat) ^ (i + 1) = 128 * 128 ^ i := by rw [Nat.pow_succ, Nat.mul_comm]
        rw [e, ← Nat.mul_assoc]
        exact Nat.lt_of_le_of_lt (Nat.mul_le_mul_right _ (Nat.div_mul_le_self z 128)) hz
      have hr := ih (z / 128) (by omega) (i + 1) r (by omega) hz' (by omega)
      rw [dig_more h1]
      have ht : (UInt8.ofNat (z % 128 + 128)).toNat = z % 128 + 128 := ofNat_toNat (by omega)
      have hb : ¬ ((i = 9 ∧ 1 < z % 128 + 128) ∨ (0 < i ∧ z % 128 + 128 = 0)) := by omega
      have hb2 : ¬ (z % 128 + 128 < 128) := by omega
      simp only [List.cons_append, gz, ht, if_neg hb, if_neg hb2, hr, if_pos, List.length_cons]
      have h3 : (z % 128 + 128) % 128 + 128 * (z / 128) = z := by omega
      rw [h3]

/-- A proper beginning of the digits is not decoded. -/
theorem gz_short : ∀ (z i k : Nat), i ≤ 9 → z * 128 ^ i < 18446744073709551616 → (0 < i → 0 < z) → k < (dig z).length → gz i ((dig z).take k) = (0, 0, 10) := by
  intro z
  induction z using Nat.strongRecOn with
  | ind z ih =>
    intro i k hi hz h0 hk
    cases k with
    | zero => simp [gz]
    | succ k =>
      rcases Nat.lt_or_ge z 128 with h1 | h1
      · rw [dig_one h1] at hk
        simp at hk
      · have hi8 : i ≤ 8 := by
          rcases Nat.lt_or_ge i 9 with h9 | h9
          · omega
          · obtain rfl : i = 9 := by omega
            have e : (128 : Nat) ^ 9 = 9223372036854775808 := by decide
            omega
        have hz' : z / 128 * 128 ^ (i + 1) < 18446744073709551616 := by
          have e : (128 : Nat) ^ (i + 1) = 128 * 128 ^ i := by rw [Nat.pow_succ, Nat.mul_comm]
          rw [e, ← Nat.mul_assoc]
          exact Nat.lt_of_le_of_lt (Nat.mul_le_mul_right _ (Nat.div_mul_le_self z 128)) hz
        rw [dig_more h1] at hk ⊢
        have hr := ih (z / 128) (by omega) (i + 1) k (by omega) hz' (by omega) (by simpa using hk)
        have ht : (UInt8.ofNat (z % 128 + 128)).toNat = z % 128 + 128 := ofNat_toNat (by omega)
        have hb : ¬ ((i = 9 ∧ 1 < z % 128 + 128) ∨ (0 < i ∧ z % 128 + 128 = 0)) := by omega
        have hb2 : ¬ (z % 128 + 128 < 128) := by omega
        simp only [List.take_succ_cons, gz, ht, if_neg hb, if_neg hb2, hr]
        simp

/-- What GetInt is to answer: the integer, the bytes that it takes, the error. -/
def gi (l : List UInt8) : Int × Nat × Nat := if (gz 0 l).2.2 = 0 then (zag (gz 0 l).1, (gz 0 l).2.1, 0) else (0, 0, (gz 0 l).2.2)

theorem gi_cases (l : List UInt8) : ((gi l).2.2 = 0 ∧ 1 ≤ (gi l).2.1 ∧ (gi l).2.1 ≤ 10 ∧ (gi l).2.1 ≤ l.length ∧ l.take (gi l).2.1 = enc (gi l).1 ∧ -9223372036854775808 ≤ (gi l).1 ∧ (gi l).1 ≤ 9223372036854775807) ∨ gi l = (0, 0, 10) ∨ gi l = (0, 0, 11) := by
  unfold gi
  by_cases h : (gz 0 l).2.2 = 0
  · left
    rw [if_pos h]
    obtain ⟨a, b, c⟩ := gz_used l 0 (by omega) h
    obtain ⟨d, e, _⟩ := gz_dig l 0 (by omega) h
    have hz : (gz 0 l).1 < 18446744073709551616 := by simpa using e
    have := zag_in hz
    refine ⟨rfl, a, by simpa using c, b, ?_, this.1, this.2⟩
    show l.take (gz 0 l).2.1 = dig (zig (zag (gz 0 l).1))
    rw [zig_zag]; exact d
  · right
    rw [if_neg h]
    rcases gz_err l 0 with h1 | h1 | h1
    · exact absurd h1 h
    · left; rw [h1]
    · right; rw [h1]

theorem gi_enc {n : Int} (h : -9223372036854775808 ≤ n) (h' : n ≤ 9223372036854775807) (r : List UInt8) : gi (enc n ++ r) = (n, (enc n).length, 0) := by
  unfold gi enc
  have hz := zig_lt h h'
  rw [gz_of (zig n) 0 r (by omega) (by simpa using hz) (by omega)]
  simp [zag_zig]
theorem gi_short {n : Int} (h : -9223372036854775808 ≤ n) (h' : n ≤ 9223372036854775807) {k : Nat} (hk : k < (enc n).length) : gi ((enc n).take k) = (0, 0, 10) := by
  unfold gi
  have hz := zig_lt h h'
  rw [show (enc n).take k = (dig (zig n)).take k from rfl, gz_short (zig n) 0 k (by omega) (by simpa using hz) (by omega) hk]
  simp

/-- Of two different integers no encoding begins the other's. -/
theorem enc_begin {m n : Int} (hm : -9223372036854775808 ≤ m) (hm' : m ≤ 9223372036854775807) (hn : -9223372036854775808 ≤ n) (hn' : n ≤ 9223372036854775807)
    (h : (enc m).take (min (enc m).length (enc n).length) = (enc n).take (min (enc m).length (enc n).length)) : m = n := by
  rcases Nat.le_total (enc m).length (enc n).length with hl | hl
  · rw [Nat.min_eq_left hl, List.take_length] at h
    have e : enc n = enc m ++ (enc n).drop (enc m).length := by
      have := (List.take_append_drop (enc m).length (enc n)).symm
      rw [← h] at this; exact this
    have h1 := gi_enc hm hm' ((enc n).drop (enc m).length)
    rw [← e] at h1
    have h2 := gi_enc hn hn' []
    rw [List.append_nil] at h2
    rw [h2] at h1
    exact (Prod.mk.inj h1).1.symm
  · rw [Nat.min_eq_right hl, List.take_length] at h
    have e : enc m = enc n ++ (enc m).drop (enc n).length := by
      have := (List.take_append_drop (enc n).length (enc m)).symm
      rw [h] at this; exact this
    have h1 := gi_enc hn hn' ((enc m).drop (enc n).length)
    rw [← e] at h1
    have h2 := gi_enc hm hm' []
    rw [List.append_nil] at h2
    rw [h2] at h1
    exact (Prod.mk.inj h1).1

end Go.Proofs.YtoendbdpkkjjkaaDoor.Wm
