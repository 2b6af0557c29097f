import Derived.Test.YtggjgikpiljoiaaDoorNMath
import Derived.Below
import Derived.Test.YtggjgikpiljoiaaDoorProg
import Derived.WalkKit
import Derived.WalkSpells
import Derived.WalkLawsBesides
import Derived.Lib.Hide
import Derived.Lib.AppendStr
import Derived.Deep.AppendLies
import Derived.Deep.Draws
import Derived.Maps.AppendAt
import Derived.Laws.CopyOwn
import Derived.Deep.MidRow
import Derived.Deep.RegionHeld
import Derived.Lib.SlBytesConst
import Derived.Laws.BytesArg
import Derived.Great.BuildSlice
import Derived.Lib.ConvBytes
import Derived.Laws.Concat
namespace Go.Proofs.YtggjgikpiljoiaaDoor.Hm
end Go.Proofs.YtggjgikpiljoiaaDoor.Hm
/- The byte encodings of integers as plain functions on lists of bytes, and what holds of them; no program is named here. -/
namespace Go.Proofs.YtggjgikpiljoiaaDoor.Wm

/-- The digits of a number in base 128, the least first; all but the last one plus 128. 'f' bounds the steps. -/
def digF : Nat → Nat → List UInt8
  | 0, z => [UInt8.ofNat z]
  | f + 1, z => if z < 128 then [UInt8.ofNat z] else UInt8.ofNat (z % 128 + 128) :: digF f (z / 128)
def dig (z : Nat) : List UInt8 := digF z z

theorem digF_fuel : ∀ (f g z : Nat), z ≤ f → z ≤ g → digF f z = digF g z := by
  intro f
  induction f with
  | zero =>
    intro g z hf _
    obtain rfl : z = 0 := by omega
    cases g <;> simp [digF]
  | succ f ih =>
    intro g z hf hg
    cases g with
    | zero =>
      obtain rfl : z = 0 := by omega
      simp [digF]
    | succ g =>
      simp only [digF]
      split
      · rfl
      · rw [ih g (z / 128) (by omega) (by omega)]

theorem dig_one {z : Nat} (h : z < 128) : dig z = [UInt8.ofNat z] := by
  unfold dig
  cases z with
  | zero => rfl
  | succ z => simp only [digF]; rw [if_pos h]

theorem dig_more {z : Nat} (h : 128 ≤ z) : dig z = UInt8.ofNat (z % 128 + 128) :: dig (z / 128) := by
  unfold dig
  cases z with
  | zero => omega
  | succ z =>
    simp only [digF]
    rw [if_neg (by omega), digF_fuel z ((z + 1) / 128) ((z + 1) / 128) (by omega) (Nat.le_refl _)]

theorem dig_pos (z : Nat) : 0 < (dig z).length := by
  rcases Nat.lt_or_ge z 128 with h | h
  · rw [dig_one h]; simp
  · rw [dig_more h]; simp

theorem dig_le : ∀ (k z : Nat), z < 128 ^ (k + 1) → (dig z).length ≤ k + 1 := by
  intro k
  induction k with
  | zero => intro z h; rw [dig_one (by simpa using h)]; simp
  | succ k ih =>
    intro z h
    rcases Nat.lt_or_ge z 128 with h1 | h1
    · rw [dig_one h1]; simp
    · rw [dig_more h1]
      have h2 : z / 128 < 128 ^ (k + 1) := by
        have : 128 ^ (k + 1 + 1) = 128 ^ (k + 1) * 128 := Nat.pow_succ ..
        omega
      have := ih _ h2
      simp; omega

theorem dig_ge : ∀ (k z : Nat), 128 ^ k ≤ z → k + 1 ≤ (dig z).length := by
  intro k
  induction k with
  | zero => intro z _; exact dig_pos z
  | succ k ih =>
    intro z h
    have h0 : 128 ^ (k + 1) = 128 ^ k * 128 := Nat.pow_succ ..
    have h00 : 0 < 128 ^ k := Nat.pow_pos (by omega)
    have h1 : 128 ≤ z := by omega
    rw [dig_more h1]
    have h2 : 128 ^ k ≤ z / 128 := by omega
    have := ih _ h2
    simp; omega

theorem dig_mono {x y : Nat} (h : x ≤ y) : (dig x).length ≤ (dig y).length := by
  rcases Nat.lt_or_ge ((dig y).length) ((dig x).length) with hlt | hge
  · exfalso
    have hp := dig_pos y
    obtain ⟨k, hk⟩ : ∃ k, (dig y).length = k + 1 := ⟨(dig y).length - 1, by omega⟩
    rcases Nat.lt_or_ge y (128 ^ (k + 1)) with h1 | h1
    · have := dig_le k x (by omega)
      omega
    · have := dig_ge (k + 1) y h1
      omega
  · exact hge

/-- An integer as a natural number, and back. -/
def zig (n : Int) : Nat := if n < 0 then (-2 * n - 1).toNat else (2 * n).toNat
def zag (z : Nat) : Int := if z % 2 = 1 then -((z / 2 : Nat) : Int) - 1 else ((z / 2 : Nat) : Int)
theorem zag_zig (n : Int) : zag (zig n) = n := by
  unfold zag zig
  split <;> split <;> omega
theorem zig_zag (z : Nat) : zig (zag z) = z := by
  unfold zag zig
  split <;> split <;> omega
theorem zig_lt {n : Int} (h : -9223372036854775808 ≤ n) (h' : n ≤ 9223372036854775807) : zig n < 18446744073709551616 := by
  unfold zig; split <;> omega
theorem zag_in {z : Nat} (h : z < 18446744073709551616) : -9223372036854775808 ≤ zag z ∧ zag z ≤ 9223372036854775807 := by
  unfold zag; split <;> omega
theorem zig_inj {m n : Int} (h : zig m = zig n) : m = n := by rw [← zag_zig m, h, zag_zig]
theorem zig_even {n : Nat} : zig (n : Int) = 2 * n := by unfold zig; rw [if_neg (by omega)]; omega

def enc (n : Int) : List UInt8 := dig (zig n)
theorem enc_pos (n : Int) : 0 < (enc n).length := dig_pos _
theorem enc_le {n : Int} (h : -9223372036854775808 ≤ n) (h' : n ≤ 9223372036854775807) : (enc n).length ≤ 10 :=
  dig_le 9 _ (Nat.lt_trans (zig_lt h h') (by decide))

/-- What is decoded from place i of an encoding on: the number, how many bytes, the error (0, 10, 11). -/
def gz : Nat → List UInt8 → Nat × Nat × Nat
  | _, [] => (0, 0, 10)
  | i, c :: r =>
    if (i = 9 ∧ 1 < c.toNat) ∨ (0 < i ∧ c.toNat = 0) then (0, 0, 11)
    else if c.toNat < 128 then (c.toNat, 1, 0)
    else if (gz (i + 1) r).2.2 = 0 then (c.toNat % 128 + 128 * (gz (i + 1) r).1, (gz (i + 1) r).2.1 + 1, 0)
    else (0, 0, (gz (i + 1) r).2.2)

theorem gz_err : ∀ (l : List UInt8) (i : Nat), (gz i l).2.2 = 0 ∨ (gz i l).2.2 = 10 ∨ (gz i l).2.2 = 11 := by
  intro l
  induction l with
  | nil => intro i; simp [gz]
  | cons c r ih =>
    intro i
    simp only [gz]
    split
    · simp
    · split
      · simp
      · split
        · simp
        · exact ih _

theorem gz_bad : ∀ (l : List UInt8) (i : Nat), (gz i l).2.2 ≠ 0 → (gz i l).1 = 0 ∧ (gz i l).2.1 = 0 := by
  intro l
  cases l with
  | nil => intro i _; simp [gz]
  | cons c r =>
    intro i
    simp only [gz]
    split
    · simp
    · split
      · simp
      · split
        · simp
        · simp

theorem gz_used : ∀ (l : List UInt8) (i : Nat), i ≤ 9 → (gz i l).2.2 = 0 → 1 ≤ (gz i l).2.1 ∧ (gz i l).2.1 ≤ l.length ∧ (gz i l).2.1 + i ≤ 10 := by
  intro l
  induction l with
  | nil => intro i _ h; simp [gz] at h
  | cons c r ih =>
    intro i hi h
    simp only [gz] at h ⊢
    split
    · rename_i h1; rw [if_pos h1] at h; simp at h
    · rename_i h1
      rw [if_neg h1] at h
      split
      · simp; omega
      · rename_i h2
        rw [if_neg h2] at h
        split
        · rename_i h3
          have := ih (i + 1) (by omega) h3
          simp; omega
        · rename_i h3
          rw [if_neg h3] at h
          exact absurd h h3

theorem ofNat_toNat {n : Nat} (h : n < 256) : (UInt8.ofNat n).toNat = n := by
  rw [UInt8.toNat_ofNat']; omega

/-- What is decoded is written by those bytes, and no others. -/
theorem gz_dig : ∀ (l : List UInt8) (i : Nat), i ≤ 9 → (gz i l).2.2 = 0 → l.take (gz i l).2.1 = dig (gz i l).1 ∧ (gz i l).1 * 128 ^ i < 18446744073709551616 ∧ (0 < i → 0 < (gz i l).1) := by
  intro l
  induction l with
  | nil => intro i _ h; simp [gz] at h
  | cons c r ih =>
    intro i hi h
    have hc := c.toNat_lt
    simp only [gz] at h ⊢
    split
    · rename_i h1; rw [if_pos h1] at h; simp at h
    · rename_i h1
      rw [if_neg h1] at h
      split
      · rename_i h2
        refine ⟨?_, ?_, ?_⟩
        · rw [dig_one h2]; simp
        · show c.toNat * 128 ^ i < _
          have hcase : i = 9 ∨ i ≤ 8 := by omega
          rcases hcase with rfl | h8
          · have : c.toNat ≤ 1 := by omega
            have := Nat.mul_le_mul_right (128 ^ 9) this
            have e : (128 : Nat) ^ 9 = 9223372036854775808 := by decide
            omega
          · have : (128 : Nat) ^ i ≤ 128 ^ 8 := Nat.pow_le_pow_right (by omega) h8
            have e : (128 : Nat) ^ 8 = 72057594037927936 := by decide
            have h3 : c.toNat * 128 ^ i ≤ 127 * 128 ^ 8 := Nat.mul_le_mul (by omega) this
            omega
        · intro _; show 0 < c.toNat; omega
      · rename_i h2
        rw [if_neg h2] at h
        split
        · rename_i h3
          have hi9 : i ≤ 8 := by
            rcases Nat.lt_or_ge i 9 with h9 | h9
            · omega
            · exfalso; exact h1 (.inl ⟨by omega, by omega⟩)
          obtain ⟨a, b, d⟩ := ih (i + 1) (by omega) h3
          have d' := d (by omega)
          have hz : (c.toNat % 128 + 128 * (gz (i + 1) r).1) / 128 = (gz (i + 1) r).1 := by omega
          have hm : (c.toNat % 128 + 128 * (gz (i + 1) r).1) % 128 + 128 = c.toNat := by omega
          refine ⟨?_, ?_, ?_⟩
          · show (c :: r).take ((gz (i + 1) r).2.1 + 1) = dig (c.toNat % 128 + 128 * (gz (i + 1) r).1)
            rw [dig_more (by omega), hz, hm, List.take_succ_cons, a]
            simp
          · show (c.toNat % 128 + 128 * (gz (i + 1) r).1) * 128 ^ i < _
            have e : (128 : Nat) ^ (i + 1) = 128 ^ i * 128 := Nat.pow_succ ..
            rw [e] at b
            have h4 : (c.toNat % 128 + 128 * (gz (i + 1) r).1) * 128 ^ i < (128 * (gz (i + 1) r).1 + 128) * 128 ^ i := Nat.mul_lt_mul_of_pos_right (by omega) (Nat.pow_pos (by omega))
            have h5 : (128 * (gz (i + 1) r).1 + 128) * 128 ^ i = ((gz (i + 1) r).1 * (128 ^ i * 128)) + 128 ^ i * 128 := by
              rw [Nat.add_mul, Nat.mul_comm 128 (gz (i + 1) r).1, Nat.mul_assoc, Nat.mul_comm 128 (128 ^ i)]
            -- both sides are multiples of 128 ^ (i + 1) but for the bound: the bound is one for i ≤ 8
            have h6 : (128 : Nat) ^ i * 128 ∣ 18446744073709551616 := by
              have : i = 0 ∨ i = 1 ∨ i = 2 ∨ i = 3 ∨ i = 4 ∨ i = 5 ∨ i = 6 ∨ i = 7 ∨ i = 8 := by omega
              rcases this with rfl | rfl | rfl | rfl | rfl | rfl | rfl | rfl | rfl <;> decide
            obtain ⟨q, hq⟩ := h6
            rw [hq] at b ⊢
            have hpos : 0 < (128 : Nat) ^ i * 128 := Nat.mul_pos (Nat.pow_pos (by omega)) (by omega)
            have hlt : (gz (i + 1) r).1 < q := by
              rw [Nat.mul_comm] at b
              exact Nat.lt_of_mul_lt_mul_left b
            have h7 : ((gz (i + 1) r).1 + 1) * (128 ^ i * 128) ≤ q * (128 ^ i * 128) := Nat.mul_le_mul_right _ hlt
            rw [Nat.add_mul, Nat.one_mul] at h7
            rw [Nat.mul_comm (128 ^ i * 128) q]
            omega
          · intro _; show 0 < c.toNat % 128 + 128 * (gz (i + 1) r).1; omega
        · rename_i h3
          rw [if_neg h3] at h
          exact absurd h h3

/-- The digits of a number are decoded to it, whatever follows. -/
theorem gz_of : ∀ (z i : Nat) (r : List UInt8), i ≤ 9 → z * 128 ^ i < 18446744073709551616 → (0 < i → 0 < z) → gz i (dig z ++ r) = (z, (dig z).length, 0) := by
  intro z
  induction z using Nat.strongRecOn with
  | ind z ih =>
    intro i r hi hz h0
    rcases Nat.lt_or_ge z 128 with h1 | h1
    · have hb : ¬ ((i = 9 ∧ 1 < z) ∨ (0 < i ∧ z = 0)) := by
        intro h
        rcases h with ⟨rfl, h⟩ | ⟨h, h'⟩
        · have e : (128 : Nat) ^ 9 = 9223372036854775808 := by decide
          omega
        · have := h0 h; omega
      rw [dig_one h1]
      have ht : (UInt8.ofNat z).toNat = z := ofNat_toNat (by omega)
      simp only [List.cons_append, List.nil_append, gz, ht, if_neg hb, if_pos h1, List.length_cons, List.length_nil]
    · have hi8 : i ≤ 8 := by
        rcases Nat.lt_or_ge i 9 with h9 | h9
        · omega
        · obtain rfl : i = 9 := by omega
          have e : (128 : Nat) ^ 9 = 9223372036854775808 := by decide
          omega
      have hz' : z / 128 * 128 ^ (i + 1) < 18446744073709551616 := by
        have e : (128 : Nat) ^ (i + 1) = 128 * 128 ^ i := by rw [Nat.pow_succ, Nat.mul_comm]
        rw [e, ← Nat.mul_assoc]
        exact Nat.lt_of_le_of_lt (Nat.mul_le_mul_right _ (Nat.div_mul_le_self z 128)) hz
      have hr := ih (z / 128) (by omega) (i + 1) r (by omega) hz' (by omega)
      rw [dig_more h1]
      have ht : (UInt8.ofNat (z % 128 + 128)).toNat = z % 128 + 128 := ofNat_toNat (by omega)
      have hb : ¬ ((i = 9 ∧ 1 < z % 128 + 128) ∨ (0 < i ∧ z % 128 + 128 = 0)) := by omega
      have hb2 : ¬ (z % 128 + 128 < 128) := by omega
      simp only [List.cons_append, gz, ht, if_neg hb, if_neg hb2, hr, if_pos, List.length_cons]
      have h3 : (z % 128 + 128) % 128 + 128 * (z / 128) = z := by omega
      rw [h3]

/-- A proper beginning of the digits is not decoded. -/
theorem gz_short : ∀ (z i k : Nat), i ≤ 9 → z * 128 ^ i < 18446744073709551616 → (0 < i → 0 < z) → k < (dig z).length → gz i ((dig z).take k) = (0, 0, 10) := by
  intro z
  induction z using Nat.strongRecOn with
  | ind z ih =>
    intro i k hi hz h0 hk
    cases k with
    | zero => simp [gz]
    | succ k =>
      rcases Nat.lt_or_ge z 128 with h1 | h1
      · rw [dig_one h1] at hk
        simp at hk
      · have hi8 : i ≤ 8 := by
          rcases Nat.lt_or_ge i 9 with h9 | h9
          · omega
          · obtain rfl : i = 9 := by omega
            have e : (128 : Nat) ^ 9 = 9223372036854775808 := by decide
            omega
        have hz' : z / 128 * 128 ^ (i + 1) < 18446744073709551616 := by
          have e : (128 : Nat) ^ (i + 1) = 128 * 128 ^ i := by rw [Nat.pow_succ, Nat.mul_comm]
          rw [e, ← Nat.mul_assoc]
          exact Nat.lt_of_le_of_lt (Nat.mul_le_mul_right _ (Nat.div_mul_le_self z 128)) hz
        rw [dig_more h1] at hk ⊢
        have hr := ih (z / 128) (by omega) (i + 1) k (by omega) hz' (by omega) (by simpa using hk)
        have ht : (UInt8.ofNat (z % 128 + 128)).toNat = z % 128 + 128 := ofNat_toNat (by omega)
        have hb : ¬ ((i = 9 ∧ 1 < z % 128 + 128) ∨ (0 < i ∧ z % 128 + 128 = 0)) := by omega
        have hb2 : ¬ (z % 128 + 128 < 128) := by omega
        simp only [List.take_succ_cons, gz, ht, if_neg hb, if_neg hb2, hr]
        simp

/-- What GetInt is to answer: the integer, the bytes that it takes, the error. -/
def gi (l : List UInt8) : Int × Nat × Nat := if (gz 0 l).2.2 = 0 then (zag (gz 0 l).1, (gz 0 l).2.1, 0) else (0, 0, (gz 0 l).2.2)

theorem gi_cases (l : List UInt8) : ((gi l).2.2 = 0 ∧ 1 ≤ (gi l).2.1 ∧ (gi l).2.1 ≤ 10 ∧ (gi l).2.1 ≤ l.length ∧ l.take (gi l).2.1 = enc (gi l).1 ∧ -9223372036854775808 ≤ (gi l).1 ∧ (gi l).1 ≤ 9223372036854775807) ∨ gi l = (0, 0, 10) ∨ gi l = (0, 0, 11) := by
  unfold gi
  by_cases h : (gz 0 l).2.2 = 0
  · left
    rw [if_pos h]
    obtain ⟨a, b, c⟩ := gz_used l 0 (by omega) h
    obtain ⟨d, e, _⟩ := gz_dig l 0 (by omega) h
    have hz : (gz 0 l).1 < 18446744073709551616 := by simpa using e
    have := zag_in hz
    refine ⟨rfl, a, by simpa using c, b, ?_, this.1, this.2⟩
    show l.take (gz 0 l).2.1 = dig (zig (zag (gz 0 l).1))
    rw [zig_zag]; exact d
  · right
    rw [if_neg h]
    rcases gz_err l 0 with h1 | h1 | h1
    · exact absurd h1 h
    · left; rw [h1]
    · right; rw [h1]

theorem gi_enc {n : Int} (h : -9223372036854775808 ≤ n) (h' : n ≤ 9223372036854775807) (r : List UInt8) : gi (enc n ++ r) = (n, (enc n).length, 0) := by
  unfold gi enc
  have hz := zig_lt h h'
  rw [gz_of (zig n) 0 r (by omega) (by simpa using hz) (by omega)]
  simp [zag_zig]
theorem gi_short {n : Int} (h : -9223372036854775808 ≤ n) (h' : n ≤ 9223372036854775807) {k : Nat} (hk : k < (enc n).length) : gi ((enc n).take k) = (0, 0, 10) := by
  unfold gi
  have hz := zig_lt h h'
  rw [show (enc n).take k = (dig (zig n)).take k from rfl, gz_short (zig n) 0 k (by omega) (by simpa using hz) (by omega) hk]
  simp

/-- Of two different integers no encoding begins the other's. -/
theorem enc_begin {m n : Int} (hm : -9223372036854775808 ≤ m) (hm' : m ≤ 9223372036854775807) (hn : -9223372036854775808 ≤ n) (hn' : n ≤ 9223372036854775807)
    (h : (enc m).take (min (enc m).length (enc n).length) = (enc n).take (min (enc m).length (enc n).length)) : m = n := by
  rcases Nat.le_total (enc m).length (enc n).length with hl | hl
  · rw [Nat.min_eq_left hl, List.take_length] at h
    have e : enc n = enc m ++ (enc n).drop (enc m).length := by
      have := (List.take_append_drop (enc m).length (enc n)).symm
      rw [← h] at this; exact this
    have h1 := gi_enc hm hm' ((enc n).drop (enc m).length)
    rw [← e] at h1
    have h2 := gi_enc hn hn' []
    rw [List.append_nil] at h2
    rw [h2] at h1
    exact (Prod.mk.inj h1).1.symm
  · rw [Nat.min_eq_right hl, List.take_length] at h
    have e : enc m = enc n ++ (enc m).drop (enc n).length := by
      have := (List.take_append_drop (enc n).length (enc m)).symm
      rw [h] at this; exact this
    have h1 := gi_enc hn hn' ((enc m).drop (enc n).length)
    rw [← e] at h1
    have h2 := gi_enc hm hm' []
    rw [List.append_nil] at h2
    rw [h2] at h1
    exact (Prod.mk.inj h1).1

end Go.Proofs.YtggjgikpiljoiaaDoor.Wm

/- Words for memory: a slice that reads as a list of cells; rows of bytes. -/
namespace Go.Proofs.YtggjgikpiljoiaaDoor
open Go.RowKit

/-- The cells of a list of bytes. -/
def bc (l : List UInt8) : List Value := l.map fun b => Value.int .u8 b.toNat
theorem bc_len (l : List UInt8) : (bc l).length = l.length := by simp [bc]
theorem bc_app (l r : List UInt8) : bc (l ++ r) = bc l ++ bc r := by simp [bc]
theorem bc_drop (l : List UInt8) (k : Nat) : bc (l.drop k) = (bc l).drop k := by simp [bc, List.map_drop]
theorem bc_take (l : List UInt8) (k : Nat) : bc (l.take k) = (bc l).take k := by simp [bc, List.map_take]
theorem bc_one (l : List UInt8) : ∀ u ∈ bc l, u.oneCell' = true := by
  intro u hu
  simp only [bc, List.mem_map] at hu
  obtain ⟨b, _, rfl⟩ := hu
  rfl
theorem bc_at {l : List UInt8} {k : Nat} (h : k < l.length) : (bc l)[k]? = some (.int .u8 l[k].toNat) := by simp [bc, h]

/-- A slice at A whose first cells are xs. -/
def Rd (w : World) (A : Option Addr) (xs : List Value) : Prop :=
  xs ≠ [] → ∃ b off, A = some ⟨b, off, none⟩ ∧ ∀ (k : Nat) u, xs[k]? = some u → w.cell? ⟨b, off + k, none⟩ = some u

section
variable {w w' : World} {A : Option Addr} {xs : List Value}
theorem Rd.nil (w : World) (A : Option Addr) : Rd w A [] := fun h => absurd rfl h
theorem Rd.at_ (h : Rd w A xs) {k : Nat} {u : Value} (hk : xs[k]? = some u) : ∃ b off, A = some ⟨b, off, none⟩ ∧ w.cell? ⟨b, off + k, none⟩ = some u := by
  have hne : xs ≠ [] := by rintro rfl; simp at hk
  obtain ⟨b, off, hA, hc⟩ := h hne
  exact ⟨b, off, hA, hc k u hk⟩
theorem Rd.below (h : Rd w A xs) (hb : Below w.heap.size w w') : Rd w' A xs := fun hne => by
  obtain ⟨b, off, hA, hc⟩ := h hne
  refine ⟨b, off, hA, fun k u hu => ?_⟩
  have h1 := hc k u hu
  have hlt : b < w.heap.size := World.block_lt_of_cell? w _ h1
  rw [hb.cell (p := ⟨b, off + k, none⟩) hlt]; exact h1
theorem Rd.take (h : Rd w A xs) (n : Nat) : Rd w A (xs.take n) := fun hne => by
  have hx : xs ≠ [] := by rintro rfl; simp at hne
  obtain ⟨b, off, hA, hc⟩ := h hx
  refine ⟨b, off, hA, fun k u hu => hc k u ?_⟩
  rw [List.getElem?_take] at hu
  split at hu
  · exact hu
  · cases hu
theorem Rd.cut (h : Rd w A xs) {k cap : Nat} (hc : xs.length ≤ cap) : Rd w (if cap = k then A else A.map (·.add k)) (xs.drop k) := fun hne => by
  have hlt : k < xs.length := by
    rcases Nat.lt_or_ge k xs.length with h1 | h1
    · exact h1
    · exact absurd (List.drop_eq_nil_of_le h1) hne
  have hx : xs ≠ [] := by rintro rfl; simp at hlt
  obtain ⟨b, off, hA, hcell⟩ := h hx
  subst hA
  rw [if_neg (by omega)]
  refine ⟨b, off + k, ?_, fun j u hu => ?_⟩
  · simp only [Option.map_some]
    congr 1
    unfold Addr.add
    split <;> simp_all
  · rw [List.getElem?_drop] at hu
    have := hcell (k + j) u hu
    rw [Nat.add_assoc]; exact this
theorem Rd.of_row {base : Nat} {e : TypeId} {size n c : Nat} (h : w.ownsRow base e size (.slice A n c) n xs) : Rd w A xs := fun hne => by
  rcases h.2 with ⟨hv, h0⟩ | ⟨g, cap, cur, hv, _, hg, _, _, _, _⟩
  · have := h.1
    subst h0
    exact absurd (List.eq_nil_of_length_eq_zero (by simpa using this)) hne
  · have hA : A = some ⟨g, 0, none⟩ := by injection hv
    subst hA
    refine ⟨g, 0, rfl, fun k u hu => ?_⟩
    have := h.cells (g := g) rfl k u hu
    have hadd : (⟨g, 0, none⟩ : Addr).add k = ⟨g, k, none⟩ := by unfold Addr.add; split <;> simp_all
    rw [hadd] at this
    simpa using this
/-- A new block holds its cells. -/
theorem Rd.of_new (w : World) (cs : List Value) (t : TypeId) : Rd (w.alloc (.cells cs.toArray t)) (some ⟨w.heap.size, 0, none⟩) cs := fun _ => by
  refine ⟨w.heap.size, 0, rfl, fun k u hu => ?_⟩
  rw [cell_of_row (w.alloc (.cells cs.toArray t)) w.heap.size (0 + k) cs.toArray t (0, 0) (heap_alloc_new w _)]
  simpa using hu
theorem Rd.news (h : Rd w A xs) (hne : xs ≠ []) : ∃ a, A = some a ∧ ∀ j u, xs[j]? = some u → w.cell? (a.add j) = some u := by
  obtain ⟨b, off, hA, hc⟩ := h hne
  refine ⟨⟨b, off, none⟩, hA, fun j u hu => ?_⟩
  have hadd : (⟨b, off, none⟩ : Addr).add j = ⟨b, off + j, none⟩ := by unfold Addr.add; split <;> simp_all
  rw [hadd]; exact hc j u hu
end

/-- An own row of bytes, and where its block lies: in the old one's, or among those made since. -/
def OwnB (w : World) (base : Nat) (v : Value) (l : List UInt8) : Prop := w.ownsRow base 5 1 v l.length (bc l)

theorem u8_info : (Tryd.prog.info? 5).map (fun i => (i.zero, i.size, i.bytes)) = some (some (.int .u8 0), 1, 1) := by kernel_rfl

theorem OwnB.nil (w : World) (base : Nat) : OwnB w base (.slice none 0 0) [] := World.ownsRow_nil _ _ _ _
theorem OwnB.rd {w : World} {base : Nat} {A : Option Addr} {c : Nat} {l : List UInt8} (h : OwnB w base (.slice A l.length c) l) : Rd w A (bc l) := Rd.of_row h
/-- What an own row's value looks like. -/
theorem OwnB.form {w : World} {base : Nat} {v : Value} {l : List UInt8} (h : OwnB w base v l) :
    ∃ A c, v = .slice A l.length c ∧ (∀ a, A = some a → base ≤ a.block ∧ a.block < w.heap.size) ∧ l.length ≤ c := by
  rcases h.2 with ⟨rfl, h0⟩ | ⟨g, cap, cur, rfl, hb, hg, hle, _⟩
  · exact ⟨none, 0, by rw [h0], by simp, by omega⟩
  · exact ⟨_, cap, rfl, fun a ha => by injection ha with ha; subst ha; exact ⟨hb, (Array.getElem?_eq_some_iff.1 hg).1⟩, hle⟩
theorem OwnB.kept {w w' : World} {base : Nat} {v : Value} {l : List UInt8} (h : OwnB w base v l) (hb : Below w.heap.size w w') : OwnB w' base v l := by
  refine ⟨h.1, ?_⟩
  rcases h.2 with hn | ⟨g, cap, cur, rfl, hbg, hg, rest⟩
  · exact .inl hn
  · exact .inr ⟨g, cap, cur, rfl, hbg, (hb.block g (Array.getElem?_eq_some_iff.1 hg).1).trans hg, rest⟩

/-- 'append(b, x)' onto an own row of bytes. -/
theorem wpList_push {w : World} {ops : Array Oper} {rest : List Oper} {o : Oper} {a : Act} {Q : Exit → Act → World → Prop} (hgd : o.guard = none) (s x : Operand)
    (ho : o.op = .call { callee := .builtin .append, args := #[s, x], argTypes := #[39, 39] })
    (base : Nat) (v : Value) (l : List UInt8) (hs : a.eval s = v) (hown : OwnB w base v l) (u : Int) (b : UInt8) (hu : u = b.toNat) (hb : base ≤ w.heap.size) (hl : l.length ≤ 70368744177664)
    (hx : a.eval x = .slice (some ⟨w.heap.size, 0, none⟩) 1 1)
    (h : ∀ v' w', OwnB w' base v' (l ++ [b]) → Below base w w' → wpList Tryd.prog ops Q rest (a.put o.dst v') w') :
    wpList Tryd.prog ops Q (o :: rest) a (w.alloc (.cells #[.int .u8 u] 5)) := by
  obtain ⟨i0, hi, hz0, hz1, hz2⟩ := info_parts u8_info
  subst hu
  refine wpList_append_own _ hgd s x 39 ho base 5 i0 (.int .u8 0) 1 1 Tryd.underlying39 hi hz0 hz1 hz2 rfl (by decide) v l.length (bc l) hs (World.ownsRow.alloc hown _)
    ⟨w.heap.size, 0, none⟩ 1 1 [.int .u8 b.toNat] hx rfl (cell_one_new _ _ _) ?_ ?_ ?_ ?_ ?_
  · intro u hu; simp at hu; subst hu; rfl
  · unfold maxLen; omega
  · omega
  · simp; omega
  · intro v' w' h1 h2 _
    refine h v' w' ?_ ?_
    · unfold OwnB
      rw [List.length_append, bc_app]
      exact h1
    · exact (((Below.refl base w).alloc hb _).grown h2 (by simp; omega) (fun k hk => (World.ownsRow.lt hown k hk).1))
end Go.Proofs.YtggjgikpiljoiaaDoor

/- Words for memory: blocks that are known whole; loads, stores and results of arrays and structs in them. -/
namespace Go.Proofs.YtggjgikpiljoiaaDoor
open Go.RowKit Hm

/-- Block g holds just the cells cs, none frozen. -/
def Blk (w : World) (g : Nat) (t : TypeId) (cs : List Value) : Prop := w.heap[g]? = some (.cells cs.toArray t (0, 0))
/-- Nothing but block g has turned. -/
structure Only (g : Nat) (w w' : World) : Prop where
  os : w'.os = w.os
  tape : w'.tape = w.tape
  output : w'.output = w.output
  size : w'.heap.size = w.heap.size
  block : ∀ k, k ≠ g → w'.heap[k]? = w.heap[k]?

section
variable {w w' : World} {g k B : Nat} {t : TypeId} {cs : List Value}
theorem Only.setRow (w : World) (g : Nat) (c : Array Value) : Only g w (w.setRow g c) := ⟨rfl, rfl, rfl, by simp [World.setRow], fun k hk => setRow_other w g k c hk⟩
theorem Only.below (h : Only g w w') (hB : B ≤ g) : Below B w w' := ⟨h.os, h.tape, h.output, Nat.le_of_eq h.size.symm, fun k hk => h.block k (by omega)⟩
theorem Only.blk (h : Only g w w') (hb : Blk w k t cs) (hk : k ≠ g) : Blk w' k t cs := (h.block k hk).trans hb
theorem Blk.lt (h : Blk w g t cs) : g < w.heap.size := by
  rcases Nat.lt_or_ge g w.heap.size with hlt | hge
  · exact hlt
  · unfold Blk at h; rw [Array.getElem?_eq_none hge] at h; cases h
theorem Blk.cell (h : Blk w g t cs) (i : Nat) : w.cell? ⟨g, i, none⟩ = cs[i]? := by
  rw [cell_of_row w g i _ t (0, 0) h]; simp
theorem Blk.frozen (h : Blk w g t cs) (i : Nat) : w.frozen? ⟨g, i, none⟩ = false := by
  unfold Blk at h
  simp [World.frozen?, h]
theorem Blk.new (w : World) (t : TypeId) (cs : List Value) : Blk (w.alloc (.cells cs.toArray t)) w.heap.size t cs := heap_alloc_new w _
theorem Blk.drew (h : Blk w g t cs) : Blk w.drew g t cs := h
theorem Blk.drewN (h : Blk w g t cs) (n : Nat) : Blk (w.drewN n) g t cs := h
theorem Blk.alloc (h : Blk w g t cs) (o : Obj) : Blk (w.alloc o) g t cs := (Below.heap_alloc w o g h.lt).trans h
theorem Blk.far (h : Blk w g t cs) {p : Addr} (hp : g ≠ p.block) (u : Value) : Blk (w.setCell p u) g t cs := (Below.heap_setCell w p u g hp).trans h
theorem Blk.set_ (h : Blk w g t cs) (i : Nat) (u : Value) : Blk (w.setCell ⟨g, i, none⟩ u) g t (cs.set i u) := by
  unfold Blk at h ⊢
  simp [World.setCell, Array.getElem?_modify, h]
theorem Blk.below (h : Blk w g t cs) (hb : Below B w w') (hg : g < B) : Blk w' g t cs := (hb.block g hg).trans h
theorem Blk.next (h : Blk w g t cs) (hb : Below w.heap.size w w') : Blk w' g t cs := h.below hb h.lt
theorem Blk.range (h : Blk w g t cs) (o n : Nat) : w.rangeAt g o ((cs.drop o).take n) := fun j v hv => by
  rw [h.cell (o + j)]
  rw [List.getElem?_take] at hv
  split at hv
  · rwa [List.getElem?_drop] at hv
  · cases hv
theorem drewN_below (h : Below B w w') (n : Nat) : Below B w (w'.drewN n) := ⟨h.os, h.tape, h.output, h.size, h.block⟩
end

section
variable {P : Program}
theorem run_store_part (w : World) (ty : TypeId) (g o : Nat) (t : TypeId) (cur cells : List Value) (hb : Blk w g t cur) (hfit : o + cells.length ≤ cur.length) (hi : (P.info? ty).map (·.size) = some cells.length)
    (h1 : ∀ v ∈ cells, v.oneCell' = true) : (Instr.storeAt ty (.pointer (some ⟨g, o, none⟩)) (.agg cells.toArray)).run P w = .ok () (w.setRow g (splice cur o cells).toArray) := by
  have h := run_storeCells_at P g o t cells 0 cur.toArray w hb (by simpa using hfit) h1
  cases hq : P.info? ty with
  | none => simp [hq] at hi
  | some i =>
    have hs : i.size = cells.length := by simpa [hq] using hi
    have e : (splice cur o cells).toArray = (cur.toArray.toList.take (o + 0) ++ cells ++ cur.toArray.toList.drop (o + 0 + cells.length)).toArray := by simp [splice]
    rw [e, ← h]
    simp [Instr.storeAt, Instr.sureAddr, storeVar, sizeOf, typeInfo, hq, Value.cells, hs]

theorem wp_store_part {w : World} {op : Oper} {a : Act} {K : Act → World → Prop} {Q : Exit → Act → World → Prop} (ty : TypeId) (x y : Operand) (ho : op.op = .store ty x y)
    (g o : Nat) (t : TypeId) (cur cells : List Value) (hx : a.eval x = .pointer (some ⟨g, o, none⟩)) (hy : a.eval y = .agg cells.toArray) (hb : Blk w g t cur) (hfit : o + cells.length ≤ cur.length)
    (hi : (P.info? ty).map (·.size) = some cells.length) (h1 : ∀ v ∈ cells, v.oneCell' = true)
    (h : ∀ w', Blk w' g t (splice cur o cells) → Only g w w' → K (a.put op.dst undef) w') : op.wp P a w K Q := by
  have hrun := run_store_part (P := P) w ty g o t cur cells hb hfit hi h1
  unfold Oper.wp execOp
  simp only [ho, hx, hy, Sem.run_bind, hrun, Result.andThen_ok]
  exact h _ (setRow_heap w g _ _ t _ hb) (Only.setRow w g _)
theorem wpList_store_part {w : World} {ops : Array Oper} {rest : List Oper} {op : Oper} {a : Act} {Q : Exit → Act → World → Prop} (hgd : op.guard = none) (ty : TypeId) (x y : Operand) (ho : op.op = .store ty x y)
    (g o : Nat) (t : TypeId) (cur cells : List Value) (hx : a.eval x = .pointer (some ⟨g, o, none⟩)) (hy : a.eval y = .agg cells.toArray) (hb : Blk w g t cur) (hfit : o + cells.length ≤ cur.length)
    (hi : (P.info? ty).map (·.size) = some cells.length) (h1 : ∀ v ∈ cells, v.oneCell' = true)
    (h : ∀ w', Hid (Blk w' g t (splice cur o cells)) → Only g w w' → wpList P ops Q rest (a.put op.dst undef) w') : wpList P ops Q (op :: rest) a w :=
  wpList_plain hgd fun _ hK => wp_store_part ty x y ho g o t cur cells hx hy hb hfit hi h1 fun w' e1 e2 => hK _ _ (h w' e1 e2)

/-- A whole variable is stored. -/
theorem splice_all {α : Type} (cur cells : List α) (h : cells.length = cur.length) : splice cur 0 cells = cells := by
  unfold splice
  rw [List.drop_eq_nil_of_le (by omega)]; simp
theorem wpList_store_all {w : World} {ops : Array Oper} {rest : List Oper} {op : Oper} {a : Act} {Q : Exit → Act → World → Prop} (hgd : op.guard = none) (ty : TypeId) (x y : Operand) (ho : op.op = .store ty x y)
    (g : Nat) (t : TypeId) (cur cells : List Value) (hx : a.eval x = .pointer (some ⟨g, 0, none⟩)) (hy : a.eval y = .agg cells.toArray) (hb : Blk w g t cur) (hfit : cells.length = cur.length)
    (hi : (P.info? ty).map (·.size) = some cells.length) (h1 : ∀ v ∈ cells, v.oneCell' = true)
    (h : ∀ w', Hid (Blk w' g t cells) → Only g w w' → wpList P ops Q rest (a.put op.dst undef) w') : wpList P ops Q (op :: rest) a w :=
  wpList_store_part hgd ty x y ho g 0 t cur cells hx hy hb (by omega) hi h1 fun w' e1 e2 => h w' (by have := e1.out; rwa [splice_all _ _ hfit] at this) e2

theorem run_load_part (w : World) (ty : TypeId) (g o n : Nat) (t : TypeId) (cur : List Value) (d : TypeDesc) (hb : Blk w g t cur) (hfit : o + n ≤ cur.length) (hu : P.underlying ty = some d) (hd : d.isRow = true)
    (hi : (P.info? ty).map (·.size) = some n) : (Instr.loadAt ty (.pointer (some ⟨g, o, none⟩))).run P w = .ok (.agg ((cur.drop o).take n).toArray) w :=
  run_loadAt_mid w g o ty _ d (hb.range o n) hu hd (by rw [hi, List.length_take, List.length_drop, Nat.min_eq_left (by omega)])
theorem wpList_load_part {w : World} {ops : Array Oper} {rest : List Oper} {op : Oper} {a : Act} {Q : Exit → Act → World → Prop} (hgd : op.guard = none) (ty : TypeId) (x : Operand) (ho : op.op = .load ty x)
    (g o : Nat) (t : TypeId) (cur cs : List Value) (d : TypeDesc) (hx : a.eval x = .pointer (some ⟨g, o, none⟩)) (hb : Blk w g t cur) (hcs : (cur.drop o).take cs.length = cs) (hu : P.underlying ty = some d) (hd : d.isRow = true)
    (hi : (P.info? ty).map (·.size) = some cs.length)
    (h : wpList P ops Q rest (a.put op.dst (.agg cs.toArray)) w) : wpList P ops Q (op :: rest) a w :=
  wpList_load_mid hgd ty x ho g o hx cs d (by have := hb.range o cs.length; rwa [hcs] at this) hu hd hi h
theorem wpList_load_all {w : World} {ops : Array Oper} {rest : List Oper} {op : Oper} {a : Act} {Q : Exit → Act → World → Prop} (hgd : op.guard = none) (ty : TypeId) (x : Operand) (ho : op.op = .load ty x)
    (g : Nat) (t : TypeId) (cs : List Value) (d : TypeDesc) (hx : a.eval x = .pointer (some ⟨g, 0, none⟩)) (hb : Blk w g t cs) (hu : P.underlying ty = some d) (hd : d.isRow = true)
    (hi : (P.info? ty).map (·.size) = some cs.length)
    (h : wpList P ops Q rest (a.put op.dst (.agg cs.toArray)) w) : wpList P ops Q (op :: rest) a w :=
  wpList_load_part hgd ty x ho g 0 t cs cs d hx hb (by simp) hu hd hi h

theorem results_blk {fn : Func} {p : Tmp} {ty : TypeId} (h : fn.results = #[.cell p ty]) (tmps : Array Value) (w : World) (g : Nat) (t : TypeId) (cs : List Value) (d : TypeDesc)
    (hp : tmps.getD p undef = .pointer (some ⟨g, 0, none⟩)) (hg : Blk w g t cs) (hu : P.underlying ty = some d) (hd : d.isRow = true) (hi : (P.info? ty).map (·.size) = some cs.length) :
    (results fn tmps).run P w = .ok (.agg cs.toArray) w :=
  results_cell_row h tmps w g t cs.toArray (0, 0) d hp hg hu (by cases d <;> first | rfl | cases hd) (by simpa using hi)
end

/-- A new variable: its zero value. -/
theorem run_alloc_zero {P : Program} (w : World) (t : TypeId) (Z : List Value) (h : (P.info? t).map (·.zero) = some (some (.agg Z.toArray))) :
    (Instr.alloc t true (.tuple #[])).run P w = .ok (.pointer (some ⟨w.heap.size, 0, none⟩)) (w.alloc (.cells Z.toArray t)) := by
  cases hq : P.info? t with
  | none => simp [hq] at h
  | some i =>
    have hz : i.zero = some (.agg Z.toArray) := by simpa [hq] using h
    have hzv : ∀ W, (zeroValue t).run P W = .ok (.agg Z.toArray) W := fun W => by simp [zeroValue, typeInfo, hq, hz]
    simp only [Instr.alloc, Sem.run_bind, hzv, Result.andThen_ok]
    simp [newVar, newRow, Value.cells]
theorem wpList_alloc_zero {P : Program} {w : World} {ops : Array Oper} {rest : List Oper} {op : Oper} {a : Act} {Q : Exit → Act → World → Prop} (hgd : op.guard = none) (t : TypeId) (ho : op.op = .alloc t) (Z : List Value)
    (hi : (P.info? t).map (·.zero) = some (some (.agg Z.toArray)))
    (h : wpList P ops Q rest (a.put op.dst (.pointer (some ⟨w.heap.size, 0, none⟩))) (w.alloc (.cells Z.toArray t))) : wpList P ops Q (op :: rest) a w :=
  wpList_plain hgd fun K hK => by
    have hrun := run_alloc_zero (P := P) w t Z hi
    unfold Oper.wp execOp
    simp only [ho, Sem.run_bind, hrun, Result.andThen_ok]
    exact hK _ _ h
/-- Zero bytes, zero words, a zero stream. -/
def zb (n : Nat) : List Value := bc (List.replicate n 0)
theorem zb_len (n : Nat) : (zb n).length = n := by simp [zb, bc_len]

/-- The cells of words. -/
def wc (l : List UInt32) : List Value := l.map fun x => Value.int .u32 x.toNat
theorem wc_len (l : List UInt32) : (wc l).length = l.length := by simp [wc]
theorem wc_one (l : List UInt32) : ∀ u ∈ wc l, u.oneCell' = true := by
  intro u hu
  simp only [wc, List.mem_map] at hu
  obtain ⟨b, _, rfl⟩ := hu
  rfl
theorem wc_at {l : List UInt32} {k : Nat} (h : k < l.length) : (wc l)[k]? = some (.int .u32 l[k].toNat) := by simp [wc, h]

theorem a32_size : (Tryd.prog.info? 116).map (·.size) = some 32 := by kernel_rfl
theorem a32_under : Tryd.prog.underlying 116 = some (.array 32 5) := by kernel_rfl
def zw (n : Nat) : List Value := wc (List.replicate n 0)
theorem zw_len (n : Nat) : (zw n).length = n := by simp [zw, wc_len]
def zs : List Value := zw 8 ++ (zb 64 ++ [.int .u64 0])
theorem zs_len : zs.length = 73 := by simp [zs, zw_len, zb_len]
theorem a32_zero : (Tryd.prog.info? 116).map (·.zero) = some (some (.agg (zb 32).toArray)) := by kernel_rfl
/-- The end of an array of bytes, from place k on. -/
theorem run_slice_from (t : TypeId) (n : Nat) (hu : Tryd.prog.underlying t = some (.array n 5)) (W : World) (g o : Nat) (kl : IntKind) (l : Int) (k : Nat) (hl : l = k) (hk : k < n) :
    (Instr.sliceAt t (.pointer (some ⟨g, o, none⟩)) (some (.int kl l)) none none).run Tryd.prog W = .ok (.slice (some ⟨g, o + k, none⟩) (n - k) (n - k)) W := by
  have e : (⟨g, o, none⟩ : Addr).add k = ⟨g, o + k, none⟩ := by unfold Addr.add; split <;> simp_all
  subst hl
  simp [Instr.sliceAt, Instr.sureAddr, run_underlying hu, Instr.sliceBounds, run_sliceBound, (by omega : (k : Int) ≤ n), e]
  omega

theorem run_arrayAt (t : TypeId) (n : Nat) (e : TypeId) (hu : Tryd.prog.underlying t = some (.array n e)) (w : World) (A : Option Addr) (m c : Nat) (hm : n ≤ m) : (Instr.arrayAt t (.slice A m c)).run Tryd.prog w = .ok (.pointer A) w := by
  simp [Instr.arrayAt, run_underlying hu, Nat.not_lt.2 hm]
end Go.Proofs.YtggjgikpiljoiaaDoor

/- Laws: a region that draws its order, taken by hand: what only reads first, then the calls and the store that are forced. -/
namespace Go.Proofs.YtggjgikpiljoiaaDoor
open Go.RowKit Hm

section
variable {P : Program} {md : Region.Mode} {ops : Array Oper} {Q : Exit → Act → World → Prop} {S : World → Prop} {i fuel : Nat} {oi : Oper} {listed : Array Bool} {a : Act} {w : World}
/-- An operation that yields its value in every world that meets S is taken first. -/
theorem reg_take (d : Option Tmp) (hi : ops[i]? = some oi) (hd : oi.dst = d) (hgd : oi.guard = none) (hs : Region.noSelect ops = true) (hf : Region.free md ops listed i = true) (hr : (Region.ready md ops listed).contains i = true)
    (v : Value) (hQ : ∀ c a w, Q (.panic c) (a.put d v) w → Q (.panic c) a w) (hy : ∀ W, S W → (execOp a.eval oi).run P W = .ok (.value v) W) (hS : S w)
    (h : wpAnyH P md ops Q S fuel (listed.setIfInBounds i true) (a.put d v) w) : wpAnyH P md ops Q S (fuel + 1) listed a w := by
  subst hd
  exact wpAnyH_take hi hs hf hr hQ (.inl ⟨by simp [Region.wanted, hgd], hy⟩) hS h
/-- The one operation that may come up. -/
theorem reg_one (hi : ops[i]? = some oi) (hgd : oi.guard = none) (hr : Region.ready md ops listed = [i])
    (h : oi.wp P a w (fun a' w' => S w' ∧ wpAnyH P md ops Q S fuel (listed.setIfInBounds i true) a' w') Q) : wpAnyH P md ops Q S (fuel + 1) listed a w :=
  wpAnyH_all hr (by simp) fun j hj => by
    obtain rfl : j = i := by simpa using hj
    unfold wpOp
    rw [hi]
    simp only
    rw [if_pos (by simp [Region.wanted, hgd])]
    exact .inl h
theorem callFunc_enter {F : FuncId} {fn : Func} (hf : P.funcs[F]? = some fn) (hn : (fn.name == "runtime.NumGoroutine") = false) (hb : fn.body.isNone = false) (vs : Array Value) : (callFunc F vs).run P w = .ok (.enter F vs) w := by
  have h1 : ¬ fn.name = "runtime.NumGoroutine" := by simpa using hn
  have h2 : ¬ fn.body = none := by intro e; rw [e] at hb; cases hb
  simp [callFunc, hf, h1, h2]
theorem wp_call_fn {K : Act → World → Prop} {F : FuncId} {xs : Array Operand} {ts : Array TypeId} (ho : oi.op = .call { callee := .value (.func F), args := xs, argTypes := ts }) {fn : Func} (hf : P.funcs[F]? = some fn) (hn : (fn.name == "runtime.NumGoroutine") = false) (hb : fn.body.isNone = false) (vs : Array Value) (hvs : xs.toList.map a.eval = vs.toList)
    {R : Ending → World → Prop} (hc : Calls P F vs w R) (h : ∀ e w', R e w' → ∃ v, e = .returned v ∧ K (a.put oi.dst v) w') : oi.wp P a w K Q := by
  obtain rfl : xs.map a.eval = vs := by apply Array.toList_inj.1; simpa using hvs
  have hrun : (execOp a.eval oi).run P w = .ok (.enter F (xs.map a.eval)) w := by
    simp [execOp, ho, resolve, invoke, Deferred.ofValue, Act.eval, callFunc_enter hf hn hb]
  unfold Oper.wp
  rw [hrun]
  refine Calls.mono hc fun e w' hR => ?_
  obtain ⟨v, rfl, hk⟩ := h e w' hR
  exact hk
theorem reg_call (d : Option Tmp) {F : FuncId} {xs : Array Operand} {ts : Array TypeId} (hi : ops[i]? = some oi) (hd : oi.dst = d) (hgd : oi.guard = none) (hr : Region.ready md ops listed = [i]) (ho : oi.op = .call { callee := .value (.func F), args := xs, argTypes := ts })
    {fn : Func} (hf : P.funcs[F]? = some fn) (hn : (fn.name == "runtime.NumGoroutine") = false) (hb : fn.body.isNone = false) (vs : Array Value) (hvs : xs.toList.map a.eval = vs.toList) {R : Ending → World → Prop} (hc : Calls P F vs w R)
    (h : ∀ e w', R e w' → ∃ v, e = .returned v ∧ S w' ∧ wpAnyH P md ops Q S fuel (listed.setIfInBounds i true) (a.put d v) w') : wpAnyH P md ops Q S (fuel + 1) listed a w := by
  subst hd
  exact reg_one hi hgd hr (wp_call_fn ho hf hn hb vs hvs hc h)
theorem reg_value (d : Option Tmp) (hi : ops[i]? = some oi) (hd : oi.dst = d) (hgd : oi.guard = none) (hr : Region.ready md ops listed = [i]) (v : Value) (hrun : (execOp a.eval oi).run P w = .ok (.value v) w) (hS : S w)
    (h : wpAnyH P md ops Q S fuel (listed.setIfInBounds i true) (a.put d v) w) : wpAnyH P md ops Q S (fuel + 1) listed a w := by
  subst hd
  exact reg_one hi hgd hr (by unfold Oper.wp; rw [hrun]; exact ⟨hS, h⟩)
theorem reg_store_all (hi : ops[i]? = some oi) (hd : oi.dst = none) (hgd : oi.guard = none) (hr : Region.ready md ops listed = [i]) (ty : TypeId) (x y : Operand) (ho : oi.op = .store ty x y)
    (g : Nat) (t : TypeId) (cur cells : List Value) (hx : a.eval x = .pointer (some ⟨g, 0, none⟩)) (hy : a.eval y = .agg cells.toArray) (hb : Blk w g t cur) (hfit : cells.length = cur.length)
    (hsz : (P.info? ty).map (·.size) = some cells.length) (h1 : ∀ v ∈ cells, v.oneCell' = true)
    (h : ∀ w', Blk w' g t cells → Only g w w' → S w' ∧ wpAnyH P md ops Q S fuel (listed.setIfInBounds i true) (a.put none undef) w') : wpAnyH P md ops Q S (fuel + 1) listed a w := by
  refine reg_one hi hgd hr (wp_store_part ty x y ho g 0 t cur cells hx hy hb (by omega) hsz h1 fun w' e1 e2 => ?_)
  rw [splice_all _ _ hfit] at e1
  rw [hd]
  exact h w' e1 e2
theorem exec_load (ty : TypeId) (x : Operand) (ho : oi.op = .load ty x) (p v : Value) (hx : a.eval x = p) (hl : (Instr.loadAt ty p).run P w = .ok v w) : (execOp a.eval oi).run P w = .ok (.value v) w := by
  subst hx
  simp [execOp, ho, hl]
theorem exec_field (ty : TypeId) (x : Operand) (n : Nat) (ho : oi.op = .field ty x n) (p v : Value) (hx : a.eval x = p) (hl : (Instr.field ty p n).run P w = .ok v w) : (execOp a.eval oi).run P w = .ok (.value v) w := by
  subst hx
  simp [execOp, ho, hl]
theorem exec_fieldAddr (ty : TypeId) (x : Operand) (n : Nat) (ho : oi.op = .fieldAddr ty x n) (p v : Value) (hx : a.eval x = p) (hl : (Instr.fieldAt ty p n).run P w = .ok v w) : (execOp a.eval oi).run P w = .ok (.value v) w := by
  subst hx
  simp [execOp, ho, hl]
theorem exec_move (x : Operand) (ho : oi.op = .move x) (v : Value) (hx : a.eval x = v) : (execOp a.eval oi).run P w = .ok (.value v) w := by
  subst hx
  simp [execOp, ho]
/-! The same without a held S: 'wpAny'. -/
theorem any_take (d : Option Tmp) (hi : ops[i]? = some oi) (hd : oi.dst = d) (hgd : oi.guard = none) (hs : Region.noSelect ops = true) (hf : Region.free md ops listed i = true) (hr : (Region.ready md ops listed).contains i = true)
    (v : Value) (hQ : ∀ c a w, Q (.panic c) (a.put d v) w → Q (.panic c) a w) (hy : ∀ W, (execOp a.eval oi).run P W = .ok (.value v) W)
    (h : wpAny P md ops Q fuel (listed.setIfInBounds i true) (a.put d v) w) : wpAny P md ops Q (fuel + 1) listed a w := by
  subst hd
  exact wpAny_take hi hs hf hr hQ (.inl ⟨by simp [Region.wanted, hgd], hy⟩) h
theorem op_wp {K : Act → World → Prop} (hi : ops[i]? = some oi) (hgd : oi.guard = none) (h : oi.wp P a w K Q) : wpOp P ops Q i K a w := by
  unfold wpOp
  rw [hi]
  simp only
  rw [if_pos (by simp [Region.wanted, hgd])]
  exact .inl h
theorem op_value {K : Act → World → Prop} (d : Option Tmp) (hi : ops[i]? = some oi) (hd : oi.dst = d) (hgd : oi.guard = none) (v : Value) (hrun : (execOp a.eval oi).run P w = .ok (.value v) w) (h : K (a.put d v) w) : wpOp P ops Q i K a w := by
  subst hd
  exact op_wp hi hgd (by unfold Oper.wp; rw [hrun]; exact h)
theorem op_call {K : Act → World → Prop} (d : Option Tmp) {F : FuncId} {xs : Array Operand} {ts : Array TypeId} (hi : ops[i]? = some oi) (hd : oi.dst = d) (hgd : oi.guard = none) (ho : oi.op = .call { callee := .value (.func F), args := xs, argTypes := ts })
    {fn : Func} (hf : P.funcs[F]? = some fn) (hn : (fn.name == "runtime.NumGoroutine") = false) (hb : fn.body.isNone = false) (vs : Array Value) (hvs : xs.toList.map a.eval = vs.toList) {R : Ending → World → Prop} (hc : Calls P F vs w R)
    (h : ∀ e w', R e w' → ∃ v, e = .returned v ∧ K (a.put d v) w') : wpOp P ops Q i K a w := by
  subst hd
  exact op_wp hi hgd (wp_call_fn ho hf hn hb vs hvs hc h)
theorem op_store_all {K : Act → World → Prop} (hi : ops[i]? = some oi) (hd : oi.dst = none) (hgd : oi.guard = none) (ty : TypeId) (x y : Operand) (ho : oi.op = .store ty x y)
    (g : Nat) (t : TypeId) (cur cells : List Value) (hx : a.eval x = .pointer (some ⟨g, 0, none⟩)) (hy : a.eval y = .agg cells.toArray) (hb : Blk w g t cur) (hfit : cells.length = cur.length)
    (hsz : (P.info? ty).map (·.size) = some cells.length) (h1 : ∀ v ∈ cells, v.oneCell' = true)
    (h : ∀ w', Blk w' g t cells → Only g w w' → K (a.put none undef) w') : wpOp P ops Q i K a w := by
  refine op_wp hi hgd (wp_store_part ty x y ho g 0 t cur cells hx hy hb (by omega) hsz h1 fun w' e1 e2 => ?_)
  rw [splice_all _ _ hfit] at e1
  rw [hd]
  exact h w' e1 e2
theorem any_one (hr : Region.ready md ops listed = [i]) (h : wpOp P ops Q i (wpAny P md ops Q fuel (listed.setIfInBounds i true)) a w) : wpAny P md ops Q (fuel + 1) listed a w :=
  wpAny_all hr (by simp) fun j hj => by
    obtain rfl : j = i := by simpa using hj
    exact h
theorem any_two {k : Nat} (hr : Region.ready md ops listed = [i, k]) (h : wpOp P ops Q i (wpAny P md ops Q fuel (listed.setIfInBounds i true)) a w) (h' : wpOp P ops Q k (wpAny P md ops Q fuel (listed.setIfInBounds k true)) a w) : wpAny P md ops Q (fuel + 1) listed a w :=
  wpAny_all hr (by simp) fun j hj => by
    simp only [List.mem_cons, List.not_mem_nil, or_false] at hj
    rcases hj with rfl | rfl
    · exact h
    · exact h'
theorem regH_one (hr : Region.ready md ops listed = [i]) (h : wpOp P ops Q i (fun a' w' => S w' ∧ wpAnyH P md ops Q S fuel (listed.setIfInBounds i true) a' w') a w) : wpAnyH P md ops Q S (fuel + 1) listed a w :=
  wpAnyH_all hr (by simp) fun j hj => by
    obtain rfl : j = i := by simpa using hj
    exact h
theorem reg_two {k : Nat} (hr : Region.ready md ops listed = [i, k]) (h : wpOp P ops Q i (fun a' w' => S w' ∧ wpAnyH P md ops Q S fuel (listed.setIfInBounds i true) a' w') a w)
    (h' : wpOp P ops Q k (fun a' w' => S w' ∧ wpAnyH P md ops Q S fuel (listed.setIfInBounds k true) a' w') a w) : wpAnyH P md ops Q S (fuel + 1) listed a w :=
  wpAnyH_all hr (by simp) fun j hj => by
    simp only [List.mem_cons, List.not_mem_nil, or_false] at hj
    rcases hj with rfl | rfl
    · exact h
    · exact h'
theorem op_alloc {K : Act → World → Prop} (d : Option Tmp) (hi : ops[i]? = some oi) (hd : oi.dst = d) (hgd : oi.guard = none) (t : TypeId) (ho : oi.op = .alloc t) (Z : List Value) (hz : (P.info? t).map (·.zero) = some (some (.agg Z.toArray)))
    (h : K (a.put d (.pointer (some ⟨w.heap.size, 0, none⟩))) (w.alloc (.cells Z.toArray t))) : wpOp P ops Q i K a w := by
  subst hd
  have hrun := run_alloc_zero (P := P) w t Z hz
  refine op_wp hi hgd ?_
  unfold Oper.wp execOp
  simp only [ho, Sem.run_bind, hrun, Result.andThen_ok]
  exact h
end
end Go.Proofs.YtggjgikpiljoiaaDoor

/- What the laws need besides: variables that hold arrays; sanity's contract. -/
namespace Go.Proofs.YtggjgikpiljoiaaDoor
open Go.RowKit Hm Wm

section
variable {P : Program}
/-- A variable is made and filled at once. -/
theorem wpList_var {w : World} {ops : Array Oper} {rest : List Oper} {o1 o2 : Oper} {a : Act} {Q : Exit → Act → World → Prop} (h1 : o1.guard = none) (h2 : o2.guard = none) (t : TypeId) (d : Tmp) (hd : o1.dst = some d) (hn : o2.dst = none) (ho1 : o1.op = .alloc t)
    (y : Operand) (ho2 : o2.op = .store t (.tmp d) y) (Z cells : List Value) (hz : (P.info? t).map (·.zero) = some (some (.agg Z.toArray))) (hx : (a.put (some d) (.pointer (some ⟨w.heap.size, 0, none⟩))).eval (.tmp d) = .pointer (some ⟨w.heap.size, 0, none⟩))
    (hy : (a.put (some d) (.pointer (some ⟨w.heap.size, 0, none⟩))).eval y = .agg cells.toArray) (hl : cells.length = Z.length) (hs : (P.info? t).map (·.size) = some cells.length) (hone : ∀ v ∈ cells, v.oneCell' = true)
    (h : ∀ w', Hid (Blk w' w.heap.size t cells) → Hid (Below w.heap.size w w') → wpList P ops Q rest ((a.put (some d) (.pointer (some ⟨w.heap.size, 0, none⟩))).put none undef) w') : wpList P ops Q (o1 :: o2 :: rest) a w := by
  refine wpList_alloc_zero h1 t ho1 Z hz ?_
  rw [hd]
  refine wpList_store_all h2 t (.tmp d) y ho2 w.heap.size t Z cells hx hy (Blk.new w t Z) hl hs hone ?_
  intro w' hb ho
  rw [hn]
  exact h w' hb (Lib.hid (((Below.refl w.heap.size w).alloc (Nat.le_refl _) _).trans (ho.below (Nat.le_refl _))))
/-- A whole variable is loaded where a guard says yes. -/
theorem wpList_want {ops : Array Oper} {rest : List Oper} {o : Oper} {a : Act} {w : World} {Q : Exit → Act → World → Prop} (hw : Region.wanted o (yielded ops a.tmps) = true)
    (h : ∀ K : Act → World → Prop, (∀ a w, wpList P ops Q rest a w → K a w) → o.wp P a w K Q) : wpList P ops Q (o :: rest) a w :=
  wpList_step fun K hK => by simp only [hw, if_true]; exact h K hK
theorem wpList_loadG {w : World} {ops : Array Oper} {rest : List Oper} {op : Oper} {a : Act} {Q : Exit → Act → World → Prop} (hw : Region.wanted op (yielded ops a.tmps) = true) (ty : TypeId) (x : Operand) (ho : op.op = .load ty x)
    (g : Nat) (t : TypeId) (cs : List Value) (d : TypeDesc) (hx : a.eval x = .pointer (some ⟨g, 0, none⟩)) (hb : Blk w g t cs) (hu : P.underlying ty = some d) (hd : d.isRow = true)
    (hi : (P.info? ty).map (·.size) = some cs.length)
    (h : wpList P ops Q rest (a.put op.dst (.agg cs.toArray)) w) : wpList P ops Q (op :: rest) a w :=
  wpList_want hw fun _ hK => wp_load_mid ty x ho g 0 hx cs d (by have := hb.range 0 cs.length; simpa using this) hu hd hi (hK _ _ h)
end

theorem rd_fr (w : World) (C : Array Value) (cs : List Value) (t : TypeId) (fr : Nat × Nat) (h : C = cs.toArray) : Rd (w.alloc (.cells C t fr)) (some ⟨w.heap.size, 0, none⟩) cs := fun _ => by
  subst h
  refine ⟨w.heap.size, 0, rfl, fun k u hu => ?_⟩
  rw [cell_of_row _ w.heap.size (0 + k) _ t fr (heap_alloc_new w _)]
  simpa using hu

end Go.Proofs.YtggjgikpiljoiaaDoor

namespace Go.Proofs.YtggjgikpiljoiaaDoor
open Go.RowKit Hm Wm
theorem madeCells_zero (n : Nat) : madeCells #[.int .u8 0] n = (bc (List.replicate n (0 : UInt8))).toArray := by
  apply Array.ext
  · simp [madeCells, bc]
  · intro i h1 h2
    have e : i % 1 = 0 := Nat.mod_one i
    simp [madeCells, bc, e]

end Go.Proofs.YtggjgikpiljoiaaDoor

/- Contracts of the reference's Bytes32 and Text, and of the law's hex. -/
namespace Go.Proofs.YtggjgikpiljoiaaDoor
open Go.RowKit Hm

/-- A string of bytes. -/
def sb (l : List UInt8) : ByteArray := ⟨l.toArray⟩
theorem sb_size (l : List UInt8) : (sb l).size = l.length := by simp [sb, ByteArray.size]
theorem sb_list (l : List UInt8) : (sb l).data.toList = l := by simp [sb]
theorem sb_of (s : ByteArray) : sb s.data.toList = s := by simp [sb]

/-- Bytes turned into a string. -/
theorem run_str {w : World} {A : Option Addr} {l : List UInt8} (h : Rd w A (bc l)) (c : Nat) : (convert 39 9 (.slice A l.length c)).run Tryd.prog w = .ok (.string (sb l)) w := by
  rw [run_convert_bytes_string w 39 9 5 A l.length c Tryd.underlying39 Tryd.underlying5 Tryd.underlying9]
  cases A with
  | none =>
    have hn : l = [] := by
      rcases l with _ | ⟨x, r⟩
      · rfl
      · obtain ⟨b, off, hA, _⟩ := h (by simp [bc])
        cases hA
    subst hn
    simp [Conv.bytesToString]
    rfl
  | some a =>
    have hl : (loadCells a l.length).run Tryd.prog w = .ok ((l.map fun b => (b.toNat : Int)).map (Value.int .u8)).toArray w := by
      have e : (l.map fun b => (b.toNat : Int)).map (Value.int .u8) = bc l := by simp [bc]
      rw [e, ← bc_len l]
      apply run_loadCells_list
      intro j v hj
      have hne : bc l ≠ [] := by intro e0; rw [e0] at hj; simp at hj
      obtain ⟨a', ha, hc⟩ := h.news hne
      injection ha with ha
      subst ha
      exact hc j v hj
    rw [run_bytesToString w a l.length c _ hl, foldl_push_bytes]
    have e2 : (l.map fun b => (b.toNat : Int)).map (fun n => UInt8.ofNat n.toNat) = l := by
      rw [List.map_map]
      conv => rhs; rw [← List.map_id l]
      apply List.map_congr_left
      intro b _
      show UInt8.ofNat ((b.toNat : Int).toNat) = b
      rw [Int.toNat_natCast]; simp
    rw [e2]
    simp [ByteArray.empty, ByteArray.emptyWithCapacity, sb]
    rfl

section
variable {Q : Exit → Act → World → Prop} {i : Nat} {oi : Oper} {ops : Array Oper} {a : Act} {w : World} {K : Act → World → Prop}
theorem exec_assign {P : Program} (x : Operand) (ho : oi.op = .assign x) (v : Value) (hx : a.eval x = v) : (execOp a.eval oi).run P w = .ok (.value v) w := by
  subst hx
  simp [execOp, ho]
theorem run_build2 (w : World) (b c : UInt8) : (Instr.buildSlice 39 2 #[(0, .int .u8 b.toNat), (1, .int .u8 c.toNat)]).run Tryd.prog w = .ok (.slice (some ⟨w.heap.size, 0, none⟩) 2 2) (w.alloc (.cells (bc [b, c]).toArray 5)) := by
  obtain ⟨i0, hi, hz0, hz1, hz2⟩ := info_parts u8_info
  refine run_buildSlice w _ _ 2 _ _ i0 _ Tryd.underlying39 hi hz0 (by rw [hz1]; omega) (by rw [hz1]; omega) ?_
  rw [hz1]
  rw [show (Array.map (fun x => (Value.int IntKind.u8 0).cells[x % (Value.int IntKind.u8 0).cells.size]!) (Array.range (2 * 1))) = #[.int .u8 0, .int .u8 0] from by kernel_rfl]
  rfl
theorem op_build2 (d : Option Tmp) (hi : ops[i]? = some oi) (hd : oi.dst = d) (hgd : oi.guard = none) (x y : Operand) (ho : oi.op = .buildSlice 39 2 #[(0, x), (1, y)]) (b c : UInt8) (hx : a.eval x = .int .u8 b.toNat) (hy : a.eval y = .int .u8 c.toNat)
    (h : K (a.put d (.slice (some ⟨w.heap.size, 0, none⟩) 2 2)) (w.alloc (.cells (bc [b, c]).toArray 5))) : wpOp Tryd.prog ops Q i K a w := by
  subst hd
  refine op_wp hi hgd ?_
  unfold Oper.wp execOp
  simp only [ho, List.map_toArray, List.map_cons, List.map_nil, hx, hy, Sem.run_bind, run_build2, Result.andThen_ok]
  exact h
/-- A row of bytes that was just made is appended. -/
theorem op_push2 (d : Option Tmp) (hi : ops[i]? = some oi) (hd : oi.dst = d) (hgd : oi.guard = none) (s x : Operand)
    (ho : oi.op = .call { callee := .builtin .append, args := #[s, x], argTypes := #[39, 39] })
    (base : Nat) (v : Value) (l : List UInt8) (hs : a.eval s = v) (hown : OwnB w base v l) (b c : UInt8) (hb : base ≤ w.heap.size) (hl : l.length ≤ 70368744177664)
    (hx : a.eval x = .slice (some ⟨w.heap.size, 0, none⟩) 2 2)
    (h : ∀ v' w', OwnB w' base v' (l ++ [b, c]) → Below base w w' → K (a.put d v') w') :
    wpOp Tryd.prog ops Q i K a (w.alloc (.cells (bc [b, c]).toArray 5)) := by
  obtain ⟨i0, hi0, hz0, hz1, hz2⟩ := info_parts u8_info
  subst hd
  refine op_wp hi hgd ?_
  have hnews : ∀ j u, (bc [b, c])[j]? = some u → (w.alloc (.cells (bc [b, c]).toArray 5)).cell? ((⟨w.heap.size, 0, none⟩ : Addr).add j) = some u := by
    intro j u hu
    rw [Addr.add_mid, Nat.zero_add, (Blk.new w 5 (bc [b, c])).cell j]
    exact hu
  obtain ⟨v', w', hrun, h2, h3, _⟩ := run_append_own_at (P := Tryd.prog) (w.alloc (.cells (bc [b, c]).toArray 5)) base 39 oi.type 5 i0 (.int .u8 0) 1 1 Tryd.underlying39 hi0 hz0 hz1 hz2 rfl (by decide) v l.length (bc l) (World.ownsRow.alloc hown _)
    ⟨w.heap.size, 0, none⟩ 2 2 (bc [b, c]) rfl hnews (bc_one _) (by unfold maxLen; omega) (by omega) (by simp; omega)
  unfold Oper.wp execOp
  simp only [ho, resolve, invoke, builtin, Sem.run_bind, Sem.run_pure, Result.andThen_ok, List.map_toArray, List.map_cons, List.map_nil, hs, hx, hrun]
  refine h v' w' ?_ ?_
  · unfold OwnB
    rw [List.length_append, bc_app]
    exact h2
  · exact (((Below.refl base w).alloc hb _).grown h3 (by simp; omega) (fun k hk => (World.ownsRow.lt hown k hk).1))
end

/-- The hexadecimal digit of a number less than 16. -/
def hd (n : Nat) : UInt8 := if n < 10 then UInt8.ofNat (48 + n) else UInt8.ofNat (87 + n)
def hexB (l : List UInt8) : List UInt8 := l.flatMap fun x => [hd (x.toNat / 16), hd (x.toNat % 16)]
def digs : ByteArray := { data := #[48, 49, 50, 51, 52, 53, 54, 55, 56, 57, 97, 98, 99, 100, 101, 102] }
theorem digs_at : ∀ n : Fin 16, digs[n.val]'(by have := n.isLt; exact this) = hd n.val := by decide
theorem run_digit (w : World) (k : IntKind) (n : Nat) (h : n < 16) : (Instr.index 9 (.string { data := #[48, 49, 50, 51, 52, 53, 54, 55, 56, 57, 97, 98, 99, 100, 101, 102] }) (.int k n)).run Tryd.prog w = .ok (.int .u8 (hd n).toNat) w := by
  rw [run_index_string w 9 _ k n Tryd.underlying9]
  rw [dif_pos ⟨by omega, by show (n : Int) < 16; omega⟩]
  have e : ({ data := #[48, 49, 50, 51, 52, 53, 54, 55, 56, 57, 97, 98, 99, 100, 101, 102] } : ByteArray)[((n : Int)).toNat]'(by show (n : Int).toNat < 16; omega) = hd n := by
    have := digs_at ⟨n, h⟩
    simpa [digs] using this
  rw [e]
section
variable {P : Program} {oi : Oper} {a : Act} {w : World}
theorem exec_index (ty : TypeId) (x y : Operand) (ho : oi.op = .index ty x y) (p q v : Value) (hx : a.eval x = p) (hy : a.eval y = q) (hl : (Instr.index ty p q).run P w = .ok v w) : (execOp a.eval oi).run P w = .ok (.value v) w := by
  subst hx; subst hy
  simp [execOp, ho, hl]
theorem exec_bin (op : BinOp) (ty rt : TypeId) (x y : Operand) (ho : oi.op = .binOp op ty x y rt) (p q v : Value) (hx : a.eval x = p) (hy : a.eval y = q) (hg : (eqGuard op ty x y p q).run P w = .ok () w) (hl : (binOp op ty p q).run P w = .ok v w) : (execOp a.eval oi).run P w = .ok (.value v) w := by
  subst hx; subst hy
  simp [execOp, ho, hg, hl]
end
theorem run_quo16 (w : World) (x : UInt8) : (binOp .quo 5 (.int .u8 x.toNat) (.int .u8 16)).run Tryd.prog w = .ok (.int .u8 (x.toNat / 16 : Nat)) w := by
  have h := x.toNat_lt
  simp [binOp, go_sem]
  simp [IntKind.wrap, IntKind.bits, IntKind.signed]; omega
theorem run_rem16 (w : World) (x : UInt8) : (binOp .rem 5 (.int .u8 x.toNat) (.int .u8 16)).run Tryd.prog w = .ok (.int .u8 (x.toNat % 16 : Nat)) w := by
  have h := x.toNat_lt
  simp [binOp, go_sem]
  exact Int.tmod_eq_emod_of_nonneg (by omega)
theorem hexB_take (l : List UInt8) (k : Nat) (x : UInt8) (h : l[k]? = some x) : hexB (l.take k) ++ [hd (x.toNat / 16), hd (x.toNat % 16)] = hexB (l.take (k + 1)) := by
  obtain ⟨h1, h2⟩ := List.getElem?_eq_some_iff.1 h
  unfold hexB
  rw [List.take_succ_eq_append_getElem h1, List.flatMap_append, h2]; simp
theorem hexB_len (l : List UInt8) : (hexB l).length = 2 * l.length := by
  unfold hexB
  induction l with
  | nil => rfl
  | cons a r ih => rw [List.flatMap_cons, List.length_append, ih]; simp; omega

end Go.Proofs.YtggjgikpiljoiaaDoor

/- Laws: a region that draws its order, some of its operations guarded, taken by hand. -/
namespace Go.Proofs.YtggjgikpiljoiaaDoor
open Go.RowKit Hm Wm

section
variable {P : Program} {md : Region.Mode} {ops : Array Oper} {Q : Exit → Act → World → Prop} {S : World → Prop} {i fuel : Nat} {oi : Oper} {listed : Array Bool} {a : Act} {w : World}
theorem reg_takeG (d : Option Tmp) (hi : ops[i]? = some oi) (hd : oi.dst = d) (hw : Region.wanted oi (yielded ops a.tmps) = true) (hs : Region.noSelect ops = true) (hf : Region.free md ops listed i = true) (hr : (Region.ready md ops listed).contains i = true)
    (v : Value) (hQ : ∀ c a w, Q (.panic c) (a.put d v) w → Q (.panic c) a w) (hy : ∀ W, S W → (execOp a.eval oi).run P W = .ok (.value v) W) (hS : S w)
    (h : wpAnyH P md ops Q S fuel (listed.setIfInBounds i true) (a.put d v) w) : wpAnyH P md ops Q S (fuel + 1) listed a w := by
  subst hd
  exact wpAnyH_take hi hs hf hr hQ (.inl ⟨hw, hy⟩) hS h
theorem reg_oneG (hi : ops[i]? = some oi) (hw : Region.wanted oi (yielded ops a.tmps) = true) (hr : Region.ready md ops listed = [i])
    (h : oi.wp P a w (fun a' w' => S w' ∧ wpAnyH P md ops Q S fuel (listed.setIfInBounds i true) a' w') Q) : wpAnyH P md ops Q S (fuel + 1) listed a w :=
  wpAnyH_all hr (by simp) fun j hj => by
    obtain rfl : j = i := by simpa using hj
    unfold wpOp
    rw [hi]
    simp only
    rw [if_pos hw]
    exact .inl h
theorem reg_callG (d : Option Tmp) {F : FuncId} {xs : Array Operand} {ts : Array TypeId} (hi : ops[i]? = some oi) (hd : oi.dst = d) (hw : Region.wanted oi (yielded ops a.tmps) = true) (hr : Region.ready md ops listed = [i]) (ho : oi.op = .call { callee := .value (.func F), args := xs, argTypes := ts })
    {fn : Func} (hf : P.funcs[F]? = some fn) (hn : (fn.name == "runtime.NumGoroutine") = false) (hb : fn.body.isNone = false) (vs : Array Value) (hvs : xs.toList.map a.eval = vs.toList) {R : Ending → World → Prop} (hc : Calls P F vs w R)
    (h : ∀ e w', R e w' → ∃ v, e = .returned v ∧ S w' ∧ wpAnyH P md ops Q S fuel (listed.setIfInBounds i true) (a.put d v) w') : wpAnyH P md ops Q S (fuel + 1) listed a w := by
  subst hd
  exact reg_oneG hi hw hr (wp_call_fn ho hf hn hb vs hvs hc h)
theorem reg_valueG (d : Option Tmp) (hi : ops[i]? = some oi) (hd : oi.dst = d) (hw : Region.wanted oi (yielded ops a.tmps) = true) (hr : Region.ready md ops listed = [i]) (v : Value) (hrun : (execOp a.eval oi).run P w = .ok (.value v) w) (hS : S w)
    (h : wpAnyH P md ops Q S fuel (listed.setIfInBounds i true) (a.put d v) w) : wpAnyH P md ops Q S (fuel + 1) listed a w := by
  subst hd
  exact reg_oneG hi hw hr (by unfold Oper.wp; rw [hrun]; exact ⟨hS, h⟩)
/-- One that makes memory: its value in a world with one block more. -/
theorem reg_makeG (d : Option Tmp) (hi : ops[i]? = some oi) (hd : oi.dst = d) (hw : Region.wanted oi (yielded ops a.tmps) = true) (hr : Region.ready md ops listed = [i]) (v : Value) (w' : World) (hrun : (execOp a.eval oi).run P w = .ok (.value v) w') (hS : S w')
    (h : wpAnyH P md ops Q S fuel (listed.setIfInBounds i true) (a.put d v) w') : wpAnyH P md ops Q S (fuel + 1) listed a w := by
  subst hd
  exact reg_oneG hi hw hr (by unfold Oper.wp; rw [hrun]; exact ⟨hS, h⟩)
theorem any_takeG (d : Option Tmp) (hi : ops[i]? = some oi) (hd : oi.dst = d) (hw : Region.wanted oi (yielded ops a.tmps) = true) (hs : Region.noSelect ops = true) (hf : Region.free md ops listed i = true) (hr : (Region.ready md ops listed).contains i = true)
    (v : Value) (hQ : ∀ c a w, Q (.panic c) (a.put d v) w → Q (.panic c) a w) (hy : ∀ W, (execOp a.eval oi).run P W = .ok (.value v) W)
    (h : wpAny P md ops Q fuel (listed.setIfInBounds i true) (a.put d v) w) : wpAny P md ops Q (fuel + 1) listed a w := by
  subst hd
  exact wpAny_take hi hs hf hr hQ (.inl ⟨hw, hy⟩) h
theorem exec_indexAddr (ty : TypeId) (x y : Operand) (ho : oi.op = .indexAddr ty x y) (p q v : Value) (hx : a.eval x = p) (hy : a.eval y = q) (hl : (Instr.indexAt ty p q).run P w = .ok v w) : (execOp a.eval oi).run P w = .ok (.value v) w := by
  subst hx; subst hy
  simp [execOp, ho, hl]
theorem exec_min (x y : Operand) (ts : Array TypeId) (ho : oi.op = .call { callee := .builtin .min, args := #[x, y], argTypes := ts }) (k : IntKind) (m n z : Int) (hx : a.eval x = .int k m) (hy : a.eval y = .int k n) (hz : min m n = z) : (execOp a.eval oi).run P w = .ok (.value (.int k z)) w := by
  have e : (if n < m then n else m) = z := by split <;> omega
  simp [execOp, ho, resolve, invoke, builtin, hx, hy, run_min_int2, e]
theorem exec_max (x y : Operand) (ts : Array TypeId) (ho : oi.op = .call { callee := .builtin .max, args := #[x, y], argTypes := ts }) (k : IntKind) (m n z : Int) (hx : a.eval x = .int k m) (hy : a.eval y = .int k n) (hz : max m n = z) : (execOp a.eval oi).run P w = .ok (.value (.int k z)) w := by
  have e : (if n > m then n else m) = z := by split <;> omega
  simp [execOp, ho, resolve, invoke, builtin, hx, hy, run_max_int2, e]
theorem exec_slice_hi (ty : TypeId) (x y : Operand) (ho : oi.op = .slice ty x none (some y) none) (p q v : Value) (hx : a.eval x = p) (hy : a.eval y = q) (hl : (Instr.sliceAt ty p none (some q) none).run P w = .ok v w) : (execOp a.eval oi).run P w = .ok (.value v) w := by
  subst hx; subst hy
  simp [execOp, ho, hl]
theorem exec_pick (c x y : Operand) (ho : oi.op = .pick c x y) (v : Value) (hc : a.eval c = .bool true) (hx : a.eval x = v) : (execOp a.eval oi).run P w = .ok (.value v) w := by
  subst hx
  simp [execOp, ho, hc, asBool]
theorem exec_convert (s t : TypeId) (x : Operand) (ho : oi.op = .convert s t x) (p v : Value) (hx : a.eval x = p) {w' : World} (hl : (convert s t p).run P w = .ok v w') : (execOp a.eval oi).run P w = .ok (.value v) w' := by
  subst hx
  simp [execOp, ho, hl]
theorem exec_makeSlice (t : TypeId) (l c : Operand) (ho : oi.op = .makeSlice t l c) (p q v : Value) (hx : a.eval l = p) (hy : a.eval c = q) {w' : World} (hl : (Instr.makeSlice t p q).run P w = .ok v w') : (execOp a.eval oi).run P w = .ok (.value v) w' := by
  subst hx; subst hy
  simp [execOp, ho, hl]
end
section
variable {oi : Oper} {a : Act} {w : World}
end
/-- A string turned into bytes. -/
theorem run_bytes (w : World) (s : ByteArray) : ∃ A c w', (convert 9 39 (.string s)).run Tryd.prog w = .ok (.slice A s.data.toList.length c) w' ∧ Rd w' A (bc s.data.toList) ∧ s.data.toList.length ≤ c ∧ Below w.heap.size w w' := by
  have hl : s.data.toList.length = s.size := Array.length_toList
  refine ⟨some ⟨w.heap.size, 0, none⟩, grownCap w s.size 0 5, Lib.bytesWorld w 5 s, ?_, ?_, ?_, ?_⟩
  · rw [hl]
    exact Lib.run_convert_string_bytes w 9 39 5 s Tryd.underlying9 Tryd.underlying39 Tryd.underlying5
  · intro _
    refine ⟨w.heap.size, 0, rfl, fun k u hu => ?_⟩
    have hk : k < s.data.toList.length := by
      rcases Nat.lt_or_ge k s.data.toList.length with h | h
      · exact h
      · rw [List.getElem?_eq_none (by rw [bc_len]; exact h)] at hu; cases hu
    have e : s.data.toList.getD k 0 = s.data.toList[k] := by rw [List.getD_eq_getElem?_getD, List.getElem?_eq_getElem hk]; rfl
    rw [Nat.zero_add, Lib.bytesWorld_cell w 5 s k (by omega), ← hu, bc_at hk, e]
  · rw [hl]; exact grownCap_ge w s.size 0 5
  · exact ⟨rfl, rfl, rfl, by rw [Lib.bytesWorld_size]; omega, fun j hj => Lib.bytesWorld_at_old w _ s j hj⟩
theorem wpList_bytes {w : World} {ops : Array Oper} {rest : List Oper} {o : Oper} {a : Act} {Q : Exit → Act → World → Prop} (hw : Region.wanted o (yielded ops a.tmps) = true) (x : Operand) (ho : o.op = .convert 9 39 x) (s : ByteArray) (hx : a.eval x = .string s)
    (h : ∀ A c w', Rd w' A (bc s.data.toList) → s.data.toList.length ≤ c → Below w.heap.size w w' → wpList Tryd.prog ops Q rest (a.put o.dst (.slice A s.data.toList.length c)) w') : wpList Tryd.prog ops Q (o :: rest) a w := by
  obtain ⟨A, c, w', hr, h1, h2, h3⟩ := run_bytes w s
  refine wpList_want hw fun K hK => ?_
  unfold Oper.wp execOp
  simp only [ho, hx, Sem.run_bind, hr, Result.andThen_ok]
  exact hK _ _ (h A c w' h1 h2 h3)
/-- A row of zero bytes. -/
theorem run_zeros (w : World) (n : Nat) (h : n ≤ 1000000) : (Instr.makeSlice 39 (.int .i64 n) (.int .i64 n)).run Tryd.prog w = .ok (.slice (some ⟨w.heap.size, 0, none⟩) n n) (w.alloc (.cells (bc (List.replicate n 0)).toArray 5)) := by
  obtain ⟨i0, hi, hz0, hz1, hz2⟩ := info_parts u8_info
  have := run_make (P := Tryd.prog) w 39 5 i0 _ Tryd.underlying39 hi hz0 .i64 .i64 n n (by omega) (by omega) (by rw [hz2]; omega) (by omega)
  rw [hz1, Nat.mul_one, Int.toNat_natCast, show (Value.int IntKind.u8 0).cells = #[.int .u8 0] from rfl, madeCells_zero] at this
  exact this
theorem run_concat (w : World) (s t : ByteArray) (h : s.size + t.size ≤ 1000000) : (binOp .add 9 (.string s) (.string t)).run Tryd.prog w = .ok (.string (sb (s.data.toList ++ t.data.toList))) w := by
  have h1 : s.data.toList.length = s.size := Array.length_toList
  have h2 : t.data.toList.length = t.size := Array.length_toList
  have e := run_string_add_lists (P := Tryd.prog) w s.data.toList t.data.toList (by omega) (by omega)
  rw [binOp_string_add]
  exact e
theorem run_str_hi (w : World) (l : List UInt8) (n : Nat) (h : n ≤ l.length) : (Instr.sliceAt 9 (.string (sb l)) none (some (.int .i64 n)) none).run Tryd.prog w = .ok (.string (sb (l.take n))) w := by
  have hs : (sb l).size = l.length := sb_size l
  have e : (sb l).extract 0 n = sb (l.take n) := by
    apply ByteArray.ext
    rw [ByteArray.data_extract]
    simp [sb]
  simp [go_sem, run_sliceAt_string, Tryd.underlying9, hs]
  rw [if_pos h, e]
theorem run_eql_str (w : World) (l r : List UInt8) : (binOp .eql 9 (.string (sb l)) (.string (sb r))).run Tryd.prog w = .ok (.bool (decide (l = r))) w := by
  rw [binOp_string_eql]
  have h1 : (sb l).toList = l := by simp [sb]
  have h2 : (sb r).toList = r := by simp [sb]
  rw [h1, h2, Sem.run_pure]
  congr 2
  rw [Bool.eq_iff_iff]; simp
end Go.Proofs.YtggjgikpiljoiaaDoor

namespace Go.Proofs.YtggjgikpiljoiaaDoor
open Go.RowKit Hm Wm
section
variable {P : Program} {md : Region.Mode} {ops : Array Oper} {Q : Exit → Act → World → Prop} {S : World → Prop} {i k fuel : Nat} {oi ok : Oper} {listed : Array Bool} {a : Act} {w : World}
/-- Two operations may come next. -/
theorem reg_twoG (hi : ops[i]? = some oi) (hk : ops[k]? = some ok) (hw : Region.wanted oi (yielded ops a.tmps) = true) (hw2 : Region.wanted ok (yielded ops a.tmps) = true) (hr : Region.ready md ops listed = [i, k])
    (h1 : oi.wp P a w (fun a' w' => S w' ∧ wpAnyH P md ops Q S fuel (listed.setIfInBounds i true) a' w') Q)
    (h2 : ok.wp P a w (fun a' w' => S w' ∧ wpAnyH P md ops Q S fuel (listed.setIfInBounds k true) a' w') Q) : wpAnyH P md ops Q S (fuel + 1) listed a w :=
  wpAnyH_all hr (by simp) fun j hj => by
    simp only [List.mem_cons, List.not_mem_nil, or_false] at hj
    rcases hj with rfl | rfl
    · unfold wpOp
      rw [hi]
      simp only
      rw [if_pos hw]
      exact .inl h1
    · unfold wpOp
      rw [hk]
      simp only
      rw [if_pos hw2]
      exact .inl h2
theorem opG_call {K : Act → World → Prop} (d : Option Tmp) {F : FuncId} {xs : Array Operand} {ts : Array TypeId} (hd : oi.dst = d) (ho : oi.op = .call { callee := .value (.func F), args := xs, argTypes := ts })
    {fn : Func} (hf : P.funcs[F]? = some fn) (hn : (fn.name == "runtime.NumGoroutine") = false) (hb : fn.body.isNone = false) (vs : Array Value) (hvs : xs.toList.map a.eval = vs.toList) {R : Ending → World → Prop} (hc : Calls P F vs w R)
    (h : ∀ e w', R e w' → ∃ v, e = .returned v ∧ K (a.put d v) w') : oi.wp P a w K Q := by
  subst hd
  exact wp_call_fn ho hf hn hb vs hvs hc h
theorem opG_alloc {K : Act → World → Prop} (d : Option Tmp) (hd : oi.dst = d) (t : TypeId) (ho : oi.op = .alloc t) (Z : List Value) (hz : (P.info? t).map (·.zero) = some (some (.agg Z.toArray)))
    (h : K (a.put d (.pointer (some ⟨w.heap.size, 0, none⟩))) (w.alloc (.cells Z.toArray t))) : oi.wp P a w K Q := by
  subst hd
  have hrun := run_alloc_zero (P := P) w t Z hz
  unfold Oper.wp execOp
  simp only [ho, Sem.run_bind, hrun, Result.andThen_ok]
  exact h
theorem reg_allocG (d : Option Tmp) (hi : ops[i]? = some oi) (hd : oi.dst = d) (hw : Region.wanted oi (yielded ops a.tmps) = true) (hr : Region.ready md ops listed = [i]) (t : TypeId) (ho : oi.op = .alloc t) (Z : List Value) (hz : (P.info? t).map (·.zero) = some (some (.agg Z.toArray)))
    (h : S (w.alloc (.cells Z.toArray t)) ∧ wpAnyH P md ops Q S fuel (listed.setIfInBounds i true) (a.put d (.pointer (some ⟨w.heap.size, 0, none⟩))) (w.alloc (.cells Z.toArray t))) : wpAnyH P md ops Q S (fuel + 1) listed a w :=
  reg_oneG hi hw hr (opG_alloc d hd t ho Z hz h)
end
theorem exec_extract {P : Program} {oi : Oper} {a : Act} {w : World} (x : Operand) (j : Nat) (ho : oi.op = .extract x j) (vs : Array Value) (v : Value) (hx : a.eval x = .tuple vs) (hv : vs[j]? = some v) : (execOp a.eval oi).run P w = .ok (.value v) w := by
  simp [execOp, ho, hx, Instr.extract, hv]
theorem exec_eqI {P : Program} {oi : Oper} {a : Act} {w : World} (t : TypeId) (x y : Operand) (rt : TypeId) (ho : oi.op = .binOp .eql t x y rt) (k : IntKind) (m n : Int) (hx : a.eval x = .int k m) (hy : a.eval y = .int k n) : (execOp a.eval oi).run P w = .ok (.value (.bool (m == n))) w :=
  exec_bin .eql t rt x y ho _ _ _ hx hy (by simp [go_sem]) (by simp [go_sem])
theorem exec_neqI {P : Program} {oi : Oper} {a : Act} {w : World} (t : TypeId) (x y : Operand) (rt : TypeId) (ho : oi.op = .binOp .neq t x y rt) (k : IntKind) (m n : Int) (hx : a.eval x = .int k m) (hy : a.eval y = .int k n) : (execOp a.eval oi).run P w = .ok (.value (.bool (m != n))) w :=
  exec_bin .neq t rt x y ho _ _ _ hx hy (by simp [go_sem]) (by simp [go_sem])
theorem exec_pickF {P : Program} {oi : Oper} {a : Act} {w : World} (c x y : Operand) (ho : oi.op = .pick c x y) (v : Value) (hc : a.eval c = .bool false) (hy : a.eval y = v) : (execOp a.eval oi).run P w = .ok (.value v) w := by
  subst hy
  simp [execOp, ho, hc, asBool]
theorem wpList_run {w : World} {ops : Array Oper} {rest : List Oper} {o : Oper} {a : Act} {Q : Exit → Act → World → Prop} (d : Tmp) (hd : o.dst = some d) (hgd : o.guard = none) (v : Value) (hrun : (execOp a.eval o).run Tryd.prog w = .ok (.value v) w) (h : wpList Tryd.prog ops Q rest (a.put (some d) v) w) : wpList Tryd.prog ops Q (o :: rest) a w := by
  refine wpList_plain hgd fun K hK => ?_
  unfold Oper.wp
  rw [hrun]
  refine hK _ _ ?_
  rw [hd]; exact h
theorem exec_lenD {P : Program} {oi : Oper} {a : Act} {w : World} (t : TypeId) (x : Operand) (ho : oi.op = .call { callee := .builtin .len, args := #[x], argTypes := #[t] }) (hu : P.underlying t = some (.slice (P.elem t))) (A : Option Addr) (n c : Nat) (hx : a.eval x = .slice A n c) : (execOp a.eval oi).run P w = .ok (.value (.int .i64 n)) w := by
  unfold execOp
  simp only [ho, resolve, invoke, builtin, Sem.run_bind, Sem.run_pure, Result.andThen_ok, List.map_toArray, List.map_cons, List.map_nil, hx, run_len_slice w t _ A n c hu]
  rfl
theorem exec_subI {P : Program} {oi : Oper} {a : Act} {w : World} (t : TypeId) (x y : Operand) (rt : TypeId) (ho : oi.op = .binOp .sub t x y rt) (m n z : Int) (hx : a.eval x = .int .i64 m) (hy : a.eval y = .int .i64 n) (hz : IntKind.i64.wrap (m - n) = z) : (execOp a.eval oi).run P w = .ok (.value (.int .i64 z)) w :=
  exec_bin .sub t rt x y ho _ _ _ hx hy (by simp [go_sem]) (by rw [← hz]; simp [go_sem])
theorem exec_addI {P : Program} {oi : Oper} {a : Act} {w : World} (t : TypeId) (x y : Operand) (rt : TypeId) (ho : oi.op = .binOp .add t x y rt) (m n z : Int) (hx : a.eval x = .int .i64 m) (hy : a.eval y = .int .i64 n) (hz : IntKind.i64.wrap (m + n) = z) : (execOp a.eval oi).run P w = .ok (.value (.int .i64 z)) w :=
  exec_bin .add t rt x y ho _ _ _ hx hy (by simp [go_sem]) (by rw [← hz]; simp [go_sem])

theorem put_ne {a : Act} {d j : Tmp} {u : Value} (h : (d == j) = false) : (a.put (some d) u).eval (.tmp j) = a.eval (.tmp j) := by
  have h' : d ≠ j := by simpa using h
  simp [Act.put, Act.eval, Array.getElem?_setIfInBounds_ne h']
theorem put_eq {a : Act} {d : Tmp} {u : Value} (h : decide (d < a.tmps.size) = true) : (a.put (some d) u).eval (.tmp d) = u := by
  have h' : d < a.tmps.size := of_decide_eq_true h
  simp [Act.put, Act.eval, h']
theorem exec_not {P : Program} {oi : Oper} {a : Act} {w : World} (t : TypeId) (x : Operand) (ho : oi.op = .unOp .not t x) (b : Bool) (hx : a.eval x = .bool b) : (execOp a.eval oi).run P w = .ok (.value (.bool (!b))) w := by
  unfold execOp
  simp only [ho, hx]
  simp [go_sem]
theorem own_below {w w' : World} {base : Nat} {e : TypeId} {size : Nat} {v : Value} {n : Nat} {xs : List Value} (h : w.ownsRow base e size v n xs) (hb : Below w.heap.size w w') : w'.ownsRow base e size v n xs := by
  refine ⟨h.1, ?_⟩
  rcases h.2 with hn | ⟨g, cap, cur, rfl, hbg, hg, rest⟩
  · exact .inl hn
  · exact .inr ⟨g, cap, cur, rfl, hbg, (hb.block g (Array.getElem?_eq_some_iff.1 hg).1).trans hg, rest⟩
theorem own_only {w w' : World} {base g0 : Nat} {e : TypeId} {size : Nat} {v : Value} {n : Nat} {xs : List Value} (h : w.ownsRow base e size v n xs) (ho : Only g0 w w') (hg0 : g0 < base) : w'.ownsRow base e size v n xs := by
  refine ⟨h.1, ?_⟩
  rcases h.2 with hn | ⟨g, cap, cur, rfl, hbg, hg, rest⟩
  · exact .inl hn
  · exact .inr ⟨g, cap, cur, rfl, hbg, (ho.block g (by omega)).trans hg, rest⟩
theorem own_lower {w : World} {b1 b2 : Nat} {e : TypeId} {size : Nat} {v : Value} {n : Nat} {xs : List Value} (h : w.ownsRow b2 e size v n xs) (hb : b1 ≤ b2) : w.ownsRow b1 e size v n xs := by
  refine ⟨h.1, ?_⟩
  rcases h.2 with hn | ⟨g, cap, cur, rfl, hbg, hg, rest⟩
  · exact .inl hn
  · exact .inr ⟨g, cap, cur, rfl, Nat.le_trans hb hbg, hg, rest⟩
end Go.Proofs.YtggjgikpiljoiaaDoor

