/- The byte encodings of integers as plain functions on lists of bytes, and what holds of them; no program is named here. -/
import Derived.Below
import Derived.Test.YtfbemmeonkceiaaDoorProg
import Derived.WalkKit
import Derived.WalkSpells
import Derived.WalkLawsBesides
import Derived.Lib.Hide
import Derived.Lib.AppendStr
import Derived.Deep.AppendLies
import Derived.Deep.Draws
import Derived.Maps.AppendAt
import Derived.Laws.CopyOwn
import Derived.Laws.DeepNot64
import Derived.Laws.Bits64
import Derived.Outline
import Derived.Laws.DeepBits32
import Derived.Deep.QuietTactic
import Derived.BigQuiet
import Derived.IntWalk
import Derived.Laws.MakeOwn
import Derived.Laws.NewBlocks
import Derived.Deep.MidRow
namespace Go.Proofs.YtfbemmeonkceiaaDoor.Wm

/-- The digits of a number in base 128, the least first; all but the last one plus 128. 'f' bounds the steps. -/
def digF : Nat → Nat → List UInt8
  | 0, z => [UInt8.ofNat z]
  | f + 1, z => if z < 128 then [UInt8.ofNat z] else UInt8.ofNat (z % 128 + 128) :: digF f (z / 128)
def dig (z : Nat) : List UInt8 := digF z z

theorem digF_fuel : ∀ (f g z : Nat), z ≤ f → z ≤ g → digF f z = digF g z := by
  intro f
  induction f with
  | zero =>
    intro g z hf _
    obtain rfl : z = 0 := by omega
    cases g <;> simp [digF]
  | succ f ih =>
    intro g z hf hg
    cases g with
    | zero =>
      obtain rfl : z = 0 := by omega
      simp [digF]
    | succ g =>
      simp only [digF]
      split
      · rfl
      · rw [ih g (z / 128) (by omega) (by omega)]

theorem dig_one {z : Nat} (h : z < 128) : dig z = [UInt8.ofNat z] := by
  unfold dig
  cases z with
  | zero => rfl
  | succ z => simp only [digF]; rw [if_pos h]

theorem dig_more {z : Nat} (h : 128 ≤ z) : dig z = UInt8.ofNat (z % 128 + 128) :: dig (z / 128) := by
  unfold dig
  cases z with
  | zero => omega
  | succ z =>
    simp only [digF]
    rw [if_neg (by omega), digF_fuel z ((z + 1) / 128) ((z + 1) / 128) (by omega) (Nat.le_refl _)]

theorem dig_pos (z : Nat) : 0 < (dig z).length := by
  rcases Nat.lt_or_ge z 128 with h | h
  · rw [dig_one h]; simp
  · rw [dig_more h]; simp

theorem dig_le : ∀ (k z : Nat), z < 128 ^ (k + 1) → (dig z).length ≤ k + 1 := by
  intro k
  induction k with
  | zero => intro z h; rw [dig_one (by simpa using h)]; simp
  | succ k ih =>
    intro z h
    rcases Nat.lt_or_ge z 128 with h1 | h1
    · rw [dig_one h1]; simp
    · rw [dig_more h1]
      have h2 : z / 128 < 128 ^ (k + 1) := by
        have : 128 ^ (k + 1 + 1) = 128 ^ (k + 1) * 128 := Nat.pow_succ ..
        omega
      have := ih _ h2
      simp; omega

theorem dig_ge : ∀ (k z : Nat), 128 ^ k ≤ z → k + 1 ≤ (dig z).length := by
  intro k
  induction k with
  | zero => intro z _; exact dig_pos z
  | succ k ih =>
    intro z h
    have h0 : 128 ^ (k + 1) = 128 ^ k * 128 := Nat.pow_succ ..
    have h00 : 0 < 128 ^ k := Nat.pow_pos (by omega)
    have h1 : 128 ≤ z := by omega
    rw [dig_more h1]
    have h2 : 128 ^ k ≤ z / 128 := by omega
    have := ih _ h2
    simp; omega

theorem dig_mono {x y : Nat} (h : x ≤ y) : (dig x).length ≤ (dig y).length := by
  rcases Nat.lt_or_ge ((dig y).length) ((dig x).length) with hlt | hge
  · exfalso
    have hp := dig_pos y
    obtain ⟨k, hk⟩ : ∃ k, (dig y).length = k + 1 := ⟨(dig y).length - 1, by omega⟩
    rcases Nat.lt_or_ge y (128 ^ (k + 1)) with h1 | h1
    · have := dig_le k x (by omega)
      omega
    · have := dig_ge (k + 1) y h1
      omega
  · exact hge

/-- An integer as a natural number, and back. -/
def zig (n : Int) : Nat := if n < 0 then (-2 * n - 1).toNat else (2 * n).toNat
def zag (z : Nat) : Int := if z % 2 = 1 then -((z / 2 : Nat) : Int) - 1 else ((z / 2 : Nat) : Int)
theorem zag_zig (n : Int) : zag (zig n) = n := by
  unfold zag zig
  split <;> split <;> omega
theorem zig_zag (z : Nat) : zig (zag z) = z := by
  unfold zag zig
  split <;> split <;> omega
theorem zig_lt {n : Int} (h : -9223372036854775808 ≤ n) (h' : n ≤ 9223372036854775807) : zig n < 18446744073709551616 := by
  unfold zig; split <;> omega
theorem zag_in {z : Nat} (h : z < 18446744073709551616) : -9223372036854775808 ≤ zag z ∧ zag z ≤ 9223372036854775807 := by
  unfold zag; split <;> omega
theorem zig_inj {m n : Int} (h : zig m = zig n) : m = n := by rw [← zag_zig m, h, zag_zig]
theorem zig_even {n : Nat} : zig (n : Int) = 2 * n := by unfold zig; rw [if_neg (by omega)]; omega

def enc (n : Int) : List UInt8 := dig (zig n)
theorem enc_pos (n : Int) : 0 < (enc n).length := dig_pos _
theorem enc_le {n : Int} (h : -9223372036854775808 ≤ n) (h' : n ≤ 9223372036854775807) : (enc n).length ≤ 10 :=
  dig_le 9 _ (Nat.lt_trans (zig_lt h h') (by decide))

/-- What is decoded from place i of an encoding on: the number, how many bytes, the error (0, 10, 11). -/
def gz : Nat → List UInt8 → Nat × Nat × Nat
  | _, [] => (0, 0, 10)
  | i, c :: r =>
    if (i = 9 ∧ 1 < c.toNat) ∨ (0 < i ∧ c.toNat = 0) then (0, 0, 11)
    else if c.toNat < 128 then (c.toNat, 1, 0)
    else if (gz (i + 1) r).2.2 = 0 then (c.toNat % 128 + 128 * (gz (i + 1) r).1, (gz (i + 1) r).2.1 + 1, 0)
    else (0, 0, (gz (i + 1) r).2.2)

theorem gz_err : ∀ (l : List UInt8) (i : Nat), (gz i l).2.2 = 0 ∨ (gz i l).2.2 = 10 ∨ (gz i l).2.2 = 11 := by
  intro l
  induction l with
  | nil => intro i; simp [gz]
  | cons c r ih =>
    intro i
    simp only [gz]
    split
    · simp
    · split
      · simp
      · split
        · simp
        · exact ih _

theorem gz_bad : ∀ (l : List UInt8) (i : Nat), (gz i l).2.2 ≠ 0 → (gz i l).1 = 0 ∧ (gz i l).2.1 = 0 := by
  intro l
  cases l with
  | nil => intro i _; simp [gz]
  | cons c r =>
    intro i
    simp only [gz]
    split
    · simp
    · split
      · simp
      · split
        · simp
        · simp

theorem gz_used : ∀ (l : List UInt8) (i : Nat), i ≤ 9 → (gz i l).2.2 = 0 → 1 ≤ (gz i l).2.1 ∧ (gz i l).2.1 ≤ l.length ∧ (gz i l).2.1 + i ≤ 10 := by
  intro l
  induction l with
  | nil => intro i _ h; simp [gz] at h
  | cons c r ih =>
    intro i hi h
    simp only [gz] at h ⊢
    split
    · rename_i h1; rw [if_pos h1] at h; simp at h
    · rename_i h1
      rw [if_neg h1] at h
      split
      · simp; omega
      · rename_i h2
        rw [if_neg h2] at h
        split
        · rename_i h3
          have := ih (i + 1) (by omega) h3
          simp; omega
        · rename_i h3
          rw [if_neg h3] at h
          exact absurd h h3

theorem ofNat_toNat {n : Nat} (h : n < 256) : (UInt8.ofNat n).toNat = n := by
  rw [UInt8.toNat_ofNat']; omega

/-- What is decoded is written by those bytes, and no others. -/
theorem gz_dig : ∀ (l : List UInt8) (i : Nat), i ≤ 9 → (gz i l).2.2 = 0 → l.take (gz i l).2.1 = dig (gz i l).1 ∧ (gz i l).1 * 128 ^ i < 18446744073709551616 ∧ (0 < i → 0 < (gz i l).1) := by
  intro l
  induction l with
  | nil => intro i _ h; simp [gz] at h
  | cons c r ih =>
    intro i hi h
    have hc := c.toNat_lt
    simp only [gz] at h ⊢
    split
    · rename_i h1; rw [if_pos h1] at h; simp at h
    · rename_i h1
      rw [if_neg h1] at h
      split
      · rename_i h2
        refine ⟨?_, ?_, ?_⟩
        · rw [dig_one h2]; simp
        · show c.toNat * 128 ^ i < _
          have hcase : i = 9 ∨ i ≤ 8 := by omega
          rcases hcase with rfl | h8
          · have : c.toNat ≤ 1 := by omega
            have := Nat.mul_le_mul_right (128 ^ 9) this
            have e : (128 : Nat) ^ 9 = 9223372036854775808 := by decide
            omega
          · have : (128 : Nat) ^ i ≤ 128 ^ 8 := Nat.pow_le_pow_right (by omega) h8
            have e : (128 : Nat) ^ 8 = 72057594037927936 := by decide
            have h3 : c.toNat * 128 ^ i ≤ 127 * 128 ^ 8 := Nat.mul_le_mul (by omega) this
            omega
        · intro _; show 0 < c.toNat; omega
      · rename_i h2
        rw [if_neg h2] at h
        split
        · rename_i h3
          have hi9 : i ≤ 8 := by
            rcases Nat.lt_or_ge i 9 with h9 | h9
            · omega
            · exfalso; exact h1 (.inl ⟨by omega, by omega⟩)
          obtain ⟨a, b, d⟩ := ih (i + 1) (by omega) h3
          have d' := d (by omega)
          have hz : (c.toNat % 128 + 128 * (gz (i + 1) r).1) / 128 = (gz (i + 1) r).1 := by omega
          have hm : (c.toNat % 128 + 128 * (gz (i + 1) r).1) % 128 + 128 = c.toNat := by omega
          refine ⟨?_, ?_, ?_⟩
          · show (c :: r).take ((gz (i + 1) r).2.1 + 1) = dig (c.toNat % 128 + 128 * (gz (i + 1) r).1)
            rw [dig_more (by omega), hz, hm, List.take_succ_cons, a]
            simp
          · show (c.toNat % 128 + 128 * (gz (i + 1) r).1) * 128 ^ i < _
            have e : (128 : Nat) ^ (i + 1) = 128 ^ i * 128 := Nat.pow_succ ..
            rw [e] at b
            have h4 : (c.toNat % 128 + 128 * (gz (i + 1) r).1) * 128 ^ i < (128 * (gz (i + 1) r).1 + 128) * 128 ^ i := Nat.mul_lt_mul_of_pos_right (by omega) (Nat.pow_pos (by omega))
            have h5 : (128 * (gz (i + 1) r).1 + 128) * 128 ^ i = ((gz (i + 1) r).1 * (128 ^ i * 128)) + 128 ^ i * 128 := by
              rw [Nat.add_mul, Nat.mul_comm 128 (gz (i + 1) r).1, Nat.mul_assoc, Nat.mul_comm 128 (128 ^ i)]
            -- both sides are multiples of 128 ^ (i + 1) but for the bound: the bound is one for i ≤ 8
            have h6 : (128 : Nat) ^ i * 128 ∣ 18446744073709551616 := by
              have : i = 0 ∨ i = 1 ∨ i = 2 ∨ i = 3 ∨ i = 4 ∨ i = 5 ∨ i = 6 ∨ i = 7 ∨ i = 8 := by omega
              rcases this with rfl | rfl | rfl | rfl | rfl | rfl | rfl | rfl | rfl <;> decide
            obtain ⟨q, hq⟩ := h6
            rw [hq] at b ⊢
            have hpos : 0 < (128 : Nat) ^ i * 128 := Nat.mul_pos (Nat.pow_pos (by omega)) (by omega)
            have hlt : (gz (i + 1) r).1 < q := by
              rw [Nat.mul_comm] at b
              exact Nat.lt_of_mul_lt_mul_left b
            have h7 : ((gz (i + 1) r).1 + 1) * (128 ^ i * 128) ≤ q * (128 ^ i * 128) := Nat.mul_le_mul_right _ hlt
            rw [Nat.add_mul, Nat.one_mul] at h7
            rw [Nat.mul_comm (128 ^ i * 128) q]
            omega
          · intro _; show 0 < c.toNat % 128 + 128 * (gz (i + 1) r).1; omega
        · rename_i h3
          rw [if_neg h3] at h
          exact absurd h h3

/-- The digits of a number are decoded to it, whatever follows. -/
theorem gz_of : ∀ (z i : Nat) (r : List UInt8), i ≤ 9 → z * 128 ^ i < 18446744073709551616 → (0 < i → 0 < z) → gz i (dig z ++ r) = (z, (dig z).length, 0) := by
  intro z
  induction z using Nat.strongRecOn with
  | ind z ih =>
    intro i r hi hz h0
    rcases Nat.lt_or_ge z 128 with h1 | h1
    · have hb : ¬ ((i = 9 ∧ 1 < z) ∨ (0 < i ∧ z = 0)) := by
        intro h
        rcases h with ⟨rfl, h⟩ | ⟨h, h'⟩
        · have e : (128 : Nat) ^ 9 = 9223372036854775808 := by decide
          omega
        · have := h0 h; omega
      rw [dig_one h1]
      have ht : (UInt8.ofNat z).toNat = z := ofNat_toNat (by omega)
      simp only [List.cons_append, List.nil_append, gz, ht, if_neg hb, if_pos h1, List.length_cons, List.length_nil]
    · have hi8 : i ≤ 8 := by
        rcases Nat.lt_or_ge i 9 with h9 | h9
        · omega
        · obtain rfl : i = 9 := by omega
          have e : (128 : Nat) ^ 9 = 9223372036854775808 := by decide
          omega
      have hz' : z / 128 * 128 ^ (i + 1) < 18446744073709551616 := by
        have e : (128 : Nat) ^ (i + 1) = 128 * 128 ^ i := by rw [Nat.pow_succ, Nat.mul_comm]
        rw [e, ← Nat.mul_assoc]
        exact Nat.lt_of_le_of_lt (Nat.mul_le_mul_right _ (Nat.div_mul_le_self z 128)) hz
      have hr := ih (z / 128) (by omega) (i + 1) r (by omega) hz' (by omega)
      rw [dig_more h1]
      have ht : (UInt8.ofNat (z % 128 + 128)).toNat = z % 128 + 128 := ofNat_toNat (by omega)
      have hb : ¬ ((i = 9 ∧ 1 < z % 128 + 128) ∨ (0 < i ∧ z % 128 + 128 = 0)) := by omega
      have hb2 : ¬ (z % 128 + 128 < 128) := by omega
      simp only [List.cons_append, gz, ht, if_neg hb, if_neg hb2, hr, if_pos, List.length_cons]
      have h3 : (z % 128 + 128) % 128 + 128 * (z / 128) = z := by omega
      rw [h3]

/-- A proper beginning of the digits is not decoded. -/
theorem gz_short : ∀ (z i k : Nat), i ≤ 9 → z * 128 ^ i < 18446744073709551616 → (0 < i → 0 < z) → k < (dig z).length → gz i ((dig z).take k) = (0, 0, 10) := by
  intro z
  induction z using Nat.strongRecOn with
  | ind z ih =>
    intro i k hi hz h0 hk
    cases k with
    | zero => simp [gz]
    | succ k =>
      rcases Nat.lt_or_ge z 128 with h1 | h1
      · rw [dig_one h1] at hk
        simp at hk
      · have hi8 : i ≤ 8 := by
          rcases Nat.lt_or_ge i 9 with h9 | h9
          · omega
          · obtain rfl : i = 9 := by omega
            have e : (128 : Nat) ^ 9 = 9223372036854775808 := by decide
            omega
        have hz' : z / 128 * 128 ^ (i + 1) < 18446744073709551616 := by
          have e : (128 : Nat) ^ (i + 1) = 128 * 128 ^ i := by rw [Nat.pow_succ, Nat.mul_comm]
          rw [e, ← Nat.mul_assoc]
          exact Nat.lt_of_le_of_lt (Nat.mul_le_mul_right _ (Nat.div_mul_le_self z 128)) hz
        rw [dig_more h1] at hk ⊢
        have hr := ih (z / 128) (by omega) (i + 1) k (by omega) hz' (by omega) (by simpa using hk)
        have ht : (UInt8.ofNat (z % 128 + 128)).toNat = z % 128 + 128 := ofNat_toNat (by omega)
        have hb : ¬ ((i = 9 ∧ 1 < z % 128 + 128) ∨ (0 < i ∧ z % 128 + 128 = 0)) := by omega
        have hb2 : ¬ (z % 128 + 128 < 128) := by omega
        simp only [List.take_succ_cons, gz, ht, if_neg hb, if_neg hb2, hr]
        simp

/-- What GetInt is to answer: the integer, the bytes that it takes, the error. -/
def gi (l : List UInt8) : Int × Nat × Nat := if (gz 0 l).2.2 = 0 then (zag (gz 0 l).1, (gz 0 l).2.1, 0) else (0, 0, (gz 0 l).2.2)

theorem gi_cases (l : List UInt8) : ((gi l).2.2 = 0 ∧ 1 ≤ (gi l).2.1 ∧ (gi l).2.1 ≤ 10 ∧ (gi l).2.1 ≤ l.length ∧ l.take (gi l).2.1 = enc (gi l).1 ∧ -9223372036854775808 ≤ (gi l).1 ∧ (gi l).1 ≤ 9223372036854775807) ∨ gi l = (0, 0, 10) ∨ gi l = (0, 0, 11) := by
  unfold gi
  by_cases h : (gz 0 l).2.2 = 0
  · left
    rw [if_pos h]
    obtain ⟨a, b, c⟩ := gz_used l 0 (by omega) h
    obtain ⟨d, e, _⟩ := gz_dig l 0 (by omega) h
    have hz : (gz 0 l).1 < 18446744073709551616 := by simpa using e
    have := zag_in hz
    refine ⟨rfl, a, by simpa using c, b, ?_, this.1, this.2⟩
    show l.take (gz 0 l).2.1 = dig (zig (zag (gz 0 l).1))
    rw [zig_zag]; exact d
  · right
    rw [if_neg h]
    rcases gz_err l 0 with h1 | h1 | h1
    · exact absurd h1 h
    · left; rw [h1]
    · right; rw [h1]

theorem gi_enc {n : Int} (h : -9223372036854775808 ≤ n) (h' : n ≤ 9223372036854775807) (r : List UInt8) : gi (enc n ++ r) = (n, (enc n).length, 0) := by
  unfold gi enc
  have hz := zig_lt h h'
  rw [gz_of (zig n) 0 r (by omega) (by simpa using hz) (by omega)]
  simp [zag_zig]
theorem gi_short {n : Int} (h : -9223372036854775808 ≤ n) (h' : n ≤ 9223372036854775807) {k : Nat} (hk : k < (enc n).length) : gi ((enc n).take k) = (0, 0, 10) := by
  unfold gi
  have hz := zig_lt h h'
  rw [show (enc n).take k = (dig (zig n)).take k from rfl, gz_short (zig n) 0 k (by omega) (by simpa using hz) (by omega) hk]
  simp

/-- Of two different integers no encoding begins the other's. -/
theorem enc_begin {m n : Int} (hm : -9223372036854775808 ≤ m) (hm' : m ≤ 9223372036854775807) (hn : -9223372036854775808 ≤ n) (hn' : n ≤ 9223372036854775807)
    (h : (enc m).take (min (enc m).length (enc n).length) = (enc n).take (min (enc m).length (enc n).length)) : m = n := by
  rcases Nat.le_total (enc m).length (enc n).length with hl | hl
  · rw [Nat.min_eq_left hl, List.take_length] at h
    have e : enc n = enc m ++ (enc n).drop (enc m).length := by
      have := (List.take_append_drop (enc m).length (enc n)).symm
      rw [← h] at this; exact this
    have h1 := gi_enc hm hm' ((enc n).drop (enc m).length)
    rw [← e] at h1
    have h2 := gi_enc hn hn' []
    rw [List.append_nil] at h2
    rw [h2] at h1
    exact (Prod.mk.inj h1).1.symm
  · rw [Nat.min_eq_right hl, List.take_length] at h
    have e : enc m = enc n ++ (enc m).drop (enc n).length := by
      have := (List.take_append_drop (enc n).length (enc m)).symm
      rw [h] at this; exact this
    have h1 := gi_enc hn hn' ((enc m).drop (enc n).length)
    rw [← e] at h1
    have h2 := gi_enc hm hm' []
    rw [List.append_nil] at h2
    rw [h2] at h1
    exact (Prod.mk.inj h1).1

end Go.Proofs.YtfbemmeonkceiaaDoor.Wm

/- Words for memory: a slice that reads as a list of cells; rows of bytes. -/
namespace Go.Proofs.YtfbemmeonkceiaaDoor
open Go.RowKit

/-- The cells of a list of bytes. -/
def bc (l : List UInt8) : List Value := l.map fun b => Value.int .u8 b.toNat
theorem bc_len (l : List UInt8) : (bc l).length = l.length := by simp [bc]
theorem bc_app (l r : List UInt8) : bc (l ++ r) = bc l ++ bc r := by simp [bc]
theorem bc_drop (l : List UInt8) (k : Nat) : bc (l.drop k) = (bc l).drop k := by simp [bc, List.map_drop]
theorem bc_take (l : List UInt8) (k : Nat) : bc (l.take k) = (bc l).take k := by simp [bc, List.map_take]
theorem bc_one (l : List UInt8) : ∀ u ∈ bc l, u.oneCell' = true := by
  intro u hu
  simp only [bc, List.mem_map] at hu
  obtain ⟨b, _, rfl⟩ := hu
  rfl
theorem bc_at {l : List UInt8} {k : Nat} (h : k < l.length) : (bc l)[k]? = some (.int .u8 l[k].toNat) := by simp [bc, h]

/-- A slice at A whose first cells are xs. -/
def Rd (w : World) (A : Option Addr) (xs : List Value) : Prop :=
  xs ≠ [] → ∃ b off, A = some ⟨b, off, none⟩ ∧ ∀ (k : Nat) u, xs[k]? = some u → w.cell? ⟨b, off + k, none⟩ = some u

section
variable {w w' : World} {A : Option Addr} {xs : List Value}
theorem Rd.nil (w : World) (A : Option Addr) : Rd w A [] := fun h => absurd rfl h
theorem Rd.at_ (h : Rd w A xs) {k : Nat} {u : Value} (hk : xs[k]? = some u) : ∃ b off, A = some ⟨b, off, none⟩ ∧ w.cell? ⟨b, off + k, none⟩ = some u := by
  have hne : xs ≠ [] := by rintro rfl; simp at hk
  obtain ⟨b, off, hA, hc⟩ := h hne
  exact ⟨b, off, hA, hc k u hk⟩
theorem Rd.below (h : Rd w A xs) (hb : Below w.heap.size w w') : Rd w' A xs := fun hne => by
  obtain ⟨b, off, hA, hc⟩ := h hne
  refine ⟨b, off, hA, fun k u hu => ?_⟩
  have h1 := hc k u hu
  have hlt : b < w.heap.size := World.block_lt_of_cell? w _ h1
  rw [hb.cell (p := ⟨b, off + k, none⟩) hlt]; exact h1
theorem Rd.take (h : Rd w A xs) (n : Nat) : Rd w A (xs.take n) := fun hne => by
  have hx : xs ≠ [] := by rintro rfl; simp at hne
  obtain ⟨b, off, hA, hc⟩ := h hx
  refine ⟨b, off, hA, fun k u hu => hc k u ?_⟩
  rw [List.getElem?_take] at hu
  split at hu
  · exact hu
  · cases hu
theorem Rd.cut (h : Rd w A xs) {k cap : Nat} (hc : xs.length ≤ cap) : Rd w (if cap = k then A else A.map (·.add k)) (xs.drop k) := fun hne => by
  have hlt : k < xs.length := by
    rcases Nat.lt_or_ge k xs.length with h1 | h1
    · exact h1
    · exact absurd (List.drop_eq_nil_of_le h1) hne
  have hx : xs ≠ [] := by rintro rfl; simp at hlt
  obtain ⟨b, off, hA, hcell⟩ := h hx
  subst hA
  rw [if_neg (by omega)]
  refine ⟨b, off + k, ?_, fun j u hu => ?_⟩
  · simp only [Option.map_some]
    congr 1
    unfold Addr.add
    split <;> simp_all
  · rw [List.getElem?_drop] at hu
    have := hcell (k + j) u hu
    rw [Nat.add_assoc]; exact this
theorem Rd.of_row {base : Nat} {e : TypeId} {size n c : Nat} (h : w.ownsRow base e size (.slice A n c) n xs) : Rd w A xs := fun hne => by
  rcases h.2 with ⟨hv, h0⟩ | ⟨g, cap, cur, hv, _, hg, _, _, _, _⟩
  · have := h.1
    subst h0
    exact absurd (List.eq_nil_of_length_eq_zero (by simpa using this)) hne
  · have hA : A = some ⟨g, 0, none⟩ := by injection hv
    subst hA
    refine ⟨g, 0, rfl, fun k u hu => ?_⟩
    have := h.cells (g := g) rfl k u hu
    have hadd : (⟨g, 0, none⟩ : Addr).add k = ⟨g, k, none⟩ := by unfold Addr.add; split <;> simp_all
    rw [hadd] at this
    simpa using this
/-- A new block holds its cells. -/
theorem Rd.of_new (w : World) (cs : List Value) (t : TypeId) : Rd (w.alloc (.cells cs.toArray t)) (some ⟨w.heap.size, 0, none⟩) cs := fun _ => by
  refine ⟨w.heap.size, 0, rfl, fun k u hu => ?_⟩
  rw [cell_of_row (w.alloc (.cells cs.toArray t)) w.heap.size (0 + k) cs.toArray t (0, 0) (heap_alloc_new w _)]
  simpa using hu
theorem Rd.news (h : Rd w A xs) (hne : xs ≠ []) : ∃ a, A = some a ∧ ∀ j u, xs[j]? = some u → w.cell? (a.add j) = some u := by
  obtain ⟨b, off, hA, hc⟩ := h hne
  refine ⟨⟨b, off, none⟩, hA, fun j u hu => ?_⟩
  have hadd : (⟨b, off, none⟩ : Addr).add j = ⟨b, off + j, none⟩ := by unfold Addr.add; split <;> simp_all
  rw [hadd]; exact hc j u hu
end

/-- An own row of bytes, and where its block lies: in the old one's, or among those made since. -/
def OwnB (w : World) (base : Nat) (v : Value) (l : List UInt8) : Prop := w.ownsRow base 5 1 v l.length (bc l)

theorem u8_info : (Tryd.prog.info? 5).map (fun i => (i.zero, i.size, i.bytes)) = some (some (.int .u8 0), 1, 1) := by kernel_rfl

theorem OwnB.nil (w : World) (base : Nat) : OwnB w base (.slice none 0 0) [] := World.ownsRow_nil _ _ _ _
theorem OwnB.rd {w : World} {base : Nat} {A : Option Addr} {c : Nat} {l : List UInt8} (h : OwnB w base (.slice A l.length c) l) : Rd w A (bc l) := Rd.of_row h
/-- What an own row's value looks like. -/
theorem OwnB.form {w : World} {base : Nat} {v : Value} {l : List UInt8} (h : OwnB w base v l) :
    ∃ A c, v = .slice A l.length c ∧ (∀ a, A = some a → base ≤ a.block ∧ a.block < w.heap.size) ∧ l.length ≤ c := by
  rcases h.2 with ⟨rfl, h0⟩ | ⟨g, cap, cur, rfl, hb, hg, hle, _⟩
  · exact ⟨none, 0, by rw [h0], by simp, by omega⟩
  · exact ⟨_, cap, rfl, fun a ha => by injection ha with ha; subst ha; exact ⟨hb, (Array.getElem?_eq_some_iff.1 hg).1⟩, hle⟩
theorem OwnB.kept {w w' : World} {base : Nat} {v : Value} {l : List UInt8} (h : OwnB w base v l) (hb : Below w.heap.size w w') : OwnB w' base v l := by
  refine ⟨h.1, ?_⟩
  rcases h.2 with hn | ⟨g, cap, cur, rfl, hbg, hg, rest⟩
  · exact .inl hn
  · exact .inr ⟨g, cap, cur, rfl, hbg, (hb.block g (Array.getElem?_eq_some_iff.1 hg).1).trans hg, rest⟩

/-- 'append(b, x)' onto an own row of bytes. -/
theorem wpList_push {w : World} {ops : Array Oper} {rest : List Oper} {o : Oper} {a : Act} {Q : Exit → Act → World → Prop} (hgd : o.guard = none) (s x : Operand)
    (ho : o.op = .call { callee := .builtin .append, args := #[s, x], argTypes := #[75, 75] })
    (base : Nat) (v : Value) (l : List UInt8) (hs : a.eval s = v) (hown : OwnB w base v l) (u : Int) (b : UInt8) (hu : u = b.toNat) (hb : base ≤ w.heap.size) (hl : l.length ≤ 70368744177664)
    (hx : a.eval x = .slice (some ⟨w.heap.size, 0, none⟩) 1 1)
    (h : ∀ v' w', OwnB w' base v' (l ++ [b]) → Below base w w' → wpList Tryd.prog ops Q rest (a.put o.dst v') w') :
    wpList Tryd.prog ops Q (o :: rest) a (w.alloc (.cells #[.int .u8 u] 5)) := by
  obtain ⟨i0, hi, hz0, hz1, hz2⟩ := info_parts u8_info
  subst hu
  refine wpList_append_own _ hgd s x 75 ho base 5 i0 (.int .u8 0) 1 1 Tryd.underlying75 hi hz0 hz1 hz2 rfl (by decide) v l.length (bc l) hs (World.ownsRow.alloc hown _)
    ⟨w.heap.size, 0, none⟩ 1 1 [.int .u8 b.toNat] hx rfl (cell_one_new _ _ _) ?_ ?_ ?_ ?_ ?_
  · intro u hu; simp at hu; subst hu; rfl
  · unfold maxLen; omega
  · omega
  · simp; omega
  · intro v' w' h1 h2 _
    refine h v' w' ?_ ?_
    · unfold OwnB
      rw [List.length_append, bc_app]
      exact h1
    · exact (((Below.refl base w).alloc hb _).grown h2 (by simp; omega) (fun k hk => (World.ownsRow.lt hown k hk).1))
end Go.Proofs.YtfbemmeonkceiaaDoor

/- SHA-256, keyed hashes and expanded seeds as plain functions on lists of bytes; no program is named here. -/
namespace Go.Proofs.YtfbemmeonkceiaaDoor.Hm

structure H8 where
  (a b c d e f g h : UInt32)

def rotr (x : UInt32) (n : Nat) : UInt32 := UInt32.ofNat (x.toNat / 2 ^ n ||| x.toNat * 2 ^ (32 - n) % 4294967296)

def rnd (s : H8) (k w : UInt32) : H8 :=
  let x := s.h + (rotr s.e 6 ^^^ rotr s.e 11 ^^^ rotr s.e 25) + ((s.e &&& s.f) ^^^ (~~~s.e &&& s.g)) + k + w
  let y := (rotr s.a 2 ^^^ rotr s.a 13 ^^^ rotr s.a 22) + ((s.a &&& s.b) ^^^ (s.a &&& s.c) ^^^ (s.b &&& s.c))
  ⟨x + y, s.a, s.b, s.c, s.d + x, s.e, s.f, s.g⟩

def ini : H8 := ⟨0x6a09e667, 0xbb67ae85, 0x3c6ef372, 0xa54ff53a, 0x510e527f, 0x9b05688c, 0x1f83d9ab, 0x5be0cd19⟩
def K : List UInt32 := [
  1116352408, 1899447441, 3049323471, 3921009573, 961987163, 1508970993, 2453635748, 2870763221,
  3624381080, 310598401, 607225278, 1426881987, 1925078388, 2162078206, 2614888103, 3248222580,
  3835390401, 4022224774, 264347078, 604807628, 770255983, 1249150122, 1555081692, 1996064986,
  2554220882, 2821834349, 2952996808, 3210313671, 3336571891, 3584528711, 113926993, 338241895,
  666307205, 773529912, 1294757372, 1396182291, 1695183700, 1986661051, 2177026350, 2456956037,
  2730485921, 2820302411, 3259730800, 3345764771, 3516065817, 3600352804, 4094571909, 275423344,
  430227734, 506948616, 659060556, 883997877, 958139571, 1322822218, 1537002063, 1747873779,
  1955562222, 2024104815, 2227730452, 2361852424, 2428436474, 2756734187, 3204031479, 3329325298]

def nextW (l : List UInt32) (t : Nat) : UInt32 :=
  l.getD (t - 16) 0 + (rotr (l.getD (t - 15) 0) 7 ^^^ rotr (l.getD (t - 15) 0) 18 ^^^ UInt32.ofNat ((l.getD (t - 15) 0).toNat / 2 ^ 3)) + l.getD (t - 7) 0 +
    (rotr (l.getD (t - 2) 0) 17 ^^^ rotr (l.getD (t - 2) 0) 19 ^^^ UInt32.ofNat ((l.getD (t - 2) 0).toNat / 2 ^ 10))
def be4 (a b c d : UInt8) : UInt32 := UInt32.ofNat (a.toNat * 16777216 + b.toNat * 65536 + c.toNat * 256 + d.toNat)
def word (l : List UInt8) (t : Nat) : UInt32 := be4 (l.getD (4 * t) 0) (l.getD (4 * t + 1) 0) (l.getD (4 * t + 2) 0) (l.getD (4 * t + 3) 0)
/-- The first t words of a block's schedule. -/
def sch (l : List UInt8) : Nat → List UInt32
  | 0 => []
  | t + 1 => sch l t ++ [if t < 16 then word l t else nextW (sch l t) t]
def rounds (ws : List UInt32) (s : H8) : Nat → H8
  | 0 => s
  | t + 1 => rnd (rounds ws s t) (K.getD t 0) (ws.getD t 0)
def addH (s v : H8) : H8 := ⟨s.a + v.a, s.b + v.b, s.c + v.c, s.d + v.d, s.e + v.e, s.f + v.f, s.g + v.g, s.h + v.h⟩
def compress (s : H8) (l : List UInt8) : H8 := addH s (rounds (sch l 64) s 64)

/-- The hash value after the first n blocks. -/
def run (s : H8) (m : List UInt8) : Nat → H8
  | 0 => s
  | n + 1 => compress (run s m n) ((m.drop (64 * n)).take 64)
def be8 (n : Nat) : List UInt8 := [UInt8.ofNat (n / 72057594037927936), UInt8.ofNat (n / 281474976710656), UInt8.ofNat (n / 1099511627776), UInt8.ofNat (n / 4294967296),
  UInt8.ofNat (n / 16777216), UInt8.ofNat (n / 65536), UInt8.ofNat (n / 256), UInt8.ofNat n]
def pad (n : Nat) : List UInt8 := 128 :: List.replicate ((119 - n % 64) % 64) 0 ++ be8 (8 * n % 18446744073709551616)
def w4 (x : UInt32) : List UInt8 := [UInt8.ofNat (x.toNat / 16777216), UInt8.ofNat (x.toNat / 65536), UInt8.ofNat (x.toNat / 256), UInt8.ofNat x.toNat]
def H8.toL (s : H8) : List UInt32 := [s.a, s.b, s.c, s.d, s.e, s.f, s.g, s.h]
def H8.bytes (s : H8) : List UInt8 := s.toL.flatMap w4
def full (m : List UInt8) : List UInt8 := m ++ pad m.length
def sum (m : List UInt8) : List UInt8 := (run ini (full m) ((full m).length / 64)).bytes

theorem H8.toL_len (s : H8) : s.toL.length = 8 := rfl
theorem H8.bytes_len (s : H8) : s.bytes.length = 32 := rfl
theorem sum_len (m : List UInt8) : (sum m).length = 32 := rfl
theorem be8_len (n : Nat) : (be8 n).length = 8 := rfl
theorem pad_len (n : Nat) : (pad n).length = 9 + (119 - n % 64) % 64 := by
  unfold pad; rw [List.length_append, List.length_cons, List.length_replicate, be8_len]; omega
theorem full_mod (m : List UInt8) : (full m).length % 64 = 0 := by
  unfold full; rw [List.length_append, pad_len]; omega
theorem full_ge (m : List UInt8) : m.length + 9 ≤ (full m).length ∧ (full m).length ≤ m.length + 72 := by
  unfold full; rw [List.length_append, pad_len]; omega
theorem sch_len (l : List UInt8) : ∀ t, (sch l t).length = t := by
  intro t
  induction t with
  | zero => rfl
  | succ t ih => simp only [sch, List.length_append, ih, List.length_cons, List.length_nil]
theorem sch_get (l : List UInt8) (t k : Nat) (h : t < k) : (sch l k)[t]? = some (if t < 16 then word l t else nextW (sch l t) t) := by
  induction k with
  | zero => omega
  | succ k ih =>
    simp only [sch]
    rcases Nat.lt_or_ge t k with h1 | h1
    · rw [List.getElem?_append_left (by rw [sch_len]; exact h1)]; exact ih h1
    · obtain rfl : t = k := by omega
      rw [List.getElem?_append_right (by rw [sch_len]; exact Nat.le_refl _), sch_len]; simp
theorem K_len : K.length = 64 := rfl

theorem run_prefix (s : H8) (m c : List UInt8) : ∀ n, 64 * n ≤ m.length → run s (m ++ c) n = run s m n := by
  intro n
  induction n with
  | zero => intro _; rfl
  | succ n ih =>
    intro h
    simp only [run]
    rw [ih (by omega), List.drop_append_of_le_length (by omega), List.take_append_of_le_length (by rw [List.length_drop]; omega)]

/-- What the parts of a stream hold: the hash value, the block that is being filled, whose beginning alone counts. -/
structure StOf (v : H8) (r m : List UInt8) : Prop where
  len : r.length = 64
  val : v = run ini m (m.length / 64)
  rest : r.take (m.length % 64) = m.drop (64 * (m.length / 64))

theorem StOf.begin_ (r : List UInt8) (h : r.length = 64) : StOf ini r [] := ⟨h, rfl, by simp⟩

theorem splice_take (r c : List UInt8) (k : Nat) (h : k + c.length ≤ r.length) : (Go.splice r k c).take (k + c.length) = r.take k ++ c := by
  unfold Go.splice
  rw [← List.append_assoc]
  rw [List.take_append_of_le_length (by simp; omega)]
  exact List.take_of_length_le (by simp; omega)

theorem StOf.more {v : H8} {r m : List UInt8} (h : StOf v r m) (c : List UInt8) (hc : m.length % 64 + c.length < 64) : StOf v (Go.splice r (m.length % 64) c) (m ++ c) := by
  have hl := h.len
  have e1 : (m ++ c).length / 64 = m.length / 64 := by rw [List.length_append]; omega
  have e2 : (m ++ c).length % 64 = m.length % 64 + c.length := by rw [List.length_append]; omega
  refine ⟨?_, ?_, ?_⟩
  · rw [Go.length_splice _ _ _ (by omega)]; exact hl
  · rw [e1, run_prefix _ _ _ _ (by omega)]; exact h.val
  · rw [e1, e2, splice_take _ _ _ (by omega), h.rest, List.drop_append_of_le_length (by omega)]

theorem StOf.fill {v : H8} {r m : List UInt8} (h : StOf v r m) (c : List UInt8) (hc : m.length % 64 + c.length = 64) :
    StOf (compress v (Go.splice r (m.length % 64) c)) (Go.splice r (m.length % 64) c) (m ++ c) := by
  have hl := h.len
  have e1 : (m ++ c).length / 64 = m.length / 64 + 1 := by rw [List.length_append]; omega
  have e2 : (m ++ c).length % 64 = 0 := by rw [List.length_append]; omega
  have e3 : Go.splice r (m.length % 64) c = ((m ++ c).drop (64 * (m.length / 64))).take 64 := by
    have := splice_take r c (m.length % 64) (by omega)
    rw [List.take_of_length_le (by rw [Go.length_splice _ _ _ (by omega)]; omega), h.rest] at this
    rw [this, List.drop_append_of_le_length (by omega), List.take_of_length_le]
    rw [List.length_append, List.length_drop]; omega
  refine ⟨?_, ?_, ?_⟩
  · rw [Go.length_splice _ _ _ (by omega)]; exact hl
  · rw [e1]
    simp only [run]
    rw [run_prefix _ _ _ _ (by omega), ← h.val, ← e3]
  · rw [e1, e2, List.drop_eq_nil_of_le (by rw [List.length_append]; omega)]; simp

/-- The hash value of a stream to which the padding was added. -/
theorem StOf.sum {v : H8} {r m : List UInt8} (h : StOf v r (m ++ pad m.length)) : v.bytes = Hm.sum m := by
  unfold Hm.sum full
  rw [h.val]

/-- The block of a key, keyed hashes. -/
def keyBlock (key : List UInt8) : List UInt8 := if key.length ≤ 64 then key ++ List.replicate (64 - key.length) 0 else sum key ++ List.replicate 32 0
theorem keyBlock_len (key : List UInt8) : (keyBlock key).length = 64 := by
  unfold keyBlock
  split
  · simp; omega
  · simp [sum_len]
def xored (b : List UInt8) (x : UInt8) : List UInt8 := b.map (· ^^^ x)
theorem xored_len (b : List UInt8) (x : UInt8) : (xored b x).length = b.length := by simp [xored]
def hmac (key msg : List UInt8) : List UInt8 := sum (xored (keyBlock key) 0x5c ++ sum (xored (keyBlock key) 0x36 ++ msg))
theorem hmac_len (key msg : List UInt8) : (hmac key msg).length = 32 := sum_len _

theorem ex_abc : sum [97, 98, 99] = [186, 120, 22, 191, 143, 1, 207, 234, 65, 65, 64, 222, 93, 174, 34, 35, 176, 3, 97, 163, 150, 23, 122, 156, 180, 16, 255, 97, 242, 0, 21, 173] := by decide +kernel
theorem ex_one : (sum [1]).take 16 = [75, 245, 18, 47, 52, 69, 84, 197, 59, 222, 46, 187, 140, 210, 183, 227] := by decide +kernel
theorem ex_mac : hmac [74, 101, 102, 101] [119, 104, 97, 116, 32, 100, 111, 32, 121, 97, 32, 119, 97, 110, 116, 32, 102, 111, 114, 32, 110, 111, 116, 104, 105, 110, 103, 63] =
    [91, 220, 193, 70, 191, 96, 117, 78, 106, 4, 36, 38, 8, 149, 117, 199, 90, 0, 63, 8, 157, 39, 57, 131, 157, 236, 88, 185, 100, 236, 56, 67] := by decide +kernel
end Go.Proofs.YtfbemmeonkceiaaDoor.Hm

/- Contracts of wire's fold, appendInt and Int (for stages that use no decoder). -/
namespace Go.Proofs.YtfbemmeonkceiaaDoor
open Go.RowKit Wm

theorem ret_int {k : IntKind} {a b : Int} (h : a = b) : Ending.returned (.int k a) = .returned (.int k b) := by rw [h]

theorem u64_not (a : Nat) (ha : a < 18446744073709551616) : bits .xor .u64 IntKind.u64.max (a : Int) = 18446744073709551615 - (a : Int) := by
  show IntKind.u64.wrap ((BitVec.ofInt 64 IntKind.u64.max ^^^ BitVec.ofInt 64 (a : Int)).toNat : Int) = _
  have h1 : BitVec.ofInt 64 IntKind.u64.max = BitVec.allOnes 64 := by decide
  rw [h1, BitVec.allOnes_xor, BitVec.toNat_not, ofInt_u64 a (by omega), IntKind.wrap_u64]
  omega

theorem fold_neg {n : Int} (h : -9223372036854775808 ≤ n) (hn : n < 0) : bits .xor .u64 IntKind.u64.max (IntKind.u64.wrap (IntKind.u64.wrap n * 2)) = (zig n : Nat) := by
  have e : IntKind.u64.wrap (IntKind.u64.wrap n * 2) = ((18446744073709551616 + 2 * n).toNat : Int) := by
    rw [IntKind.wrap_u64, IntKind.wrap_u64]; omega
  rw [e, u64_not _ (by omega)]
  unfold zig
  rw [if_pos hn]
  omega

set_option maxHeartbeats 400000 in
theorem fold_any (n : Int) (w : World) (h : -9223372036854775808 ≤ n) (h' : n ≤ 9223372036854775807) :
    Calls Tryd.prog 105 #[.int .i64 n] w fun e w' => e = .returned (.int .u64 (zig n : Nat)) ∧ w = w' := by
  by_cases hn : n < 0
  · have hh : -9223372036854775808 ≤ n := h
    go_enter Tryd.func105, Tryd.ntmps105
    go_wp2
    go_ret
    exact ⟨ret_int (fold_neg hh hn), rfl⟩
  · go_enter Tryd.func105, Tryd.ntmps105
    go_wp2
    go_ret
    exact ⟨ret_int (by unfold zig; rw [if_neg (by omega)]; omega), rfl⟩

set_option maxRecDepth 100000 in
set_option maxHeartbeats 400000 in
theorem appendInt_any (base : Nat) (v : Value) (l : List UInt8) (n : Int) (w : World) (h : -9223372036854775808 ≤ n) (h' : n ≤ 9223372036854775807)
    (hown : OwnB w base v l) (hb : base ≤ w.heap.size) (hl : l.length ≤ 1099511627776) :
    Calls Tryd.prog 102 #[v, .int .i64 n] w fun e w' => ∃ v', e = .returned v' ∧ OwnB w' base v' (l ++ enc n) ∧ Below base w w' := by
  go_enter Tryd.func102, Tryd.ntmps102
  go_wp2_with (go_at_call 105; refine (fold_any _ _ h h').mono ?_; rintro e w' ⟨rfl, rfl⟩)
  go_loopw [0, 5] (fun v z wr => ∃ (p : List UInt8) (Z : Nat), z = .int .u64 (Z : Int) ∧ Hid (Z < 18446744073709551616) ∧ Hid (p.length + (dig Z).length ≤ 10) ∧ Hid (p ++ dig Z = enc n) ∧ OwnB wr base v (l ++ p) ∧ base ≤ wr.heap.size ∧ Below base w wr)
    (fun _ z _ => (intOf z).toNat)
  case atStart => exact ⟨[], zig n, rfl, zig_lt h h', (by simp; exact enc_le h h'), rfl, by simpa using hown, hb, Below.refl _ _⟩
  case round =>
    obtain ⟨p, Z, rfl, HZ, HP, HD, ho, hbr, hbel⟩ := hrel
    have HL := Lib.hid hl
    clear hown hb h h' hl
    by_cases hz : 128 ≤ Z
    · go_wp2_with (at_builtin; refine wpList_push rfl (.tmp 12) (.tmp 17) rfl base _ _ rfl ho _ (UInt8.ofNat (Z % 128 + 128)) ?c1 hbr ?c2 rfl ?_; rotate_left 2; intro v1 w1 ho1 hb1)
      case c1 => rw [ofNat_toNat (by omega)]; omega
      case c2 => have h1 := HL.out; have h2 := HP.out; have h3 := dig_pos Z; simp; omega
      go_roundw
      case rel =>
        refine ⟨p ++ [UInt8.ofNat (Z % 128 + 128)], Z / 128, by go_num, ?_, ?_, ?_, by rw [← List.append_assoc]; exact ho1, Nat.le_trans hbr hb1.size, hbel.trans hb1⟩
        · have h1 := HZ.out; show Z / 128 < _; omega
        · have h2 := HP.out
          rw [dig_more hz] at h2
          show _ + _ ≤ 10
          simp at h2 ⊢; omega
        · show _ ++ _ = _
          rw [← HD.out, dig_more hz, List.append_assoc]; rfl
      case measure => simp [intOf]; omega
    · go_wp2_with (at_builtin; refine wpList_push rfl (.tmp 19) (.tmp 22) rfl base _ _ rfl ho _ (UInt8.ofNat Z) ?d1 hbr ?d2 rfl ?_; rotate_left 2; intro v1 w1 ho1 hb1)
      case d1 => rw [ofNat_toNat (by omega)]
      case d2 => have h1 := HL.out; have h2 := HP.out; have h3 := dig_pos Z; simp; omega
      go_ret
      refine ⟨v1, rfl, ?_, hbel.trans hb1⟩
      rw [← HD.out, dig_one (by omega), ← List.append_assoc]
      exact ho1

end Go.Proofs.YtfbemmeonkceiaaDoor

/- Contracts of wire's appendBytes and Bytes. -/
namespace Go.Proofs.YtfbemmeonkceiaaDoor
open Go.RowKit Wm

def encB (x : List UInt8) : List UInt8 := enc x.length ++ x
theorem encB_len (x : List UInt8) : (encB x).length = (enc x.length).length + x.length := by simp [encB]

/-- 'append(b, s...)', s a string. -/
theorem wpList_pushStr {w : World} {ops : Array Oper} {rest : List Oper} {o : Oper} {a : Act} {Q : Exit → Act → World → Prop} (hgd : o.guard = none) (sl x : Operand)
    (ho : o.op = .call { callee := .builtin .append, args := #[sl, x], argTypes := #[75, 9] })
    (base : Nat) (v : Value) (l : List UInt8) (hs : a.eval sl = v) (hown : OwnB w base v l) (s : ByteArray) (hb : base ≤ w.heap.size) (hl : l.length + s.size ≤ 70368744177664)
    (hx : a.eval x = .string s)
    (h : ∀ v' w', OwnB w' base v' (l ++ s.data.toList) → Below base w w' → wpList Tryd.prog ops Q rest (a.put o.dst v') w') :
    wpList Tryd.prog ops Q (o :: rest) a w := by
  obtain ⟨i0, hi, hz0, hz1, hz2⟩ := info_parts u8_info
  have hsz : s.size = s.data.toList.length := (Array.length_toList (xs := s.data)).symm
  refine Go.Lib.wpList_append_own_string w hgd sl x 75 9 ho base 5 i0 Tryd.underlying75 Tryd.underlying9 hi hz0 hz1 hz2 v l.length (bc l) hs hown s hx (by unfold maxLen; omega) (by omega) hb ?_
  intro v' w' h1 h2 _
  refine h v' w' ?_ ?_
  · unfold OwnB
    rw [List.length_append, bc_app, ← hsz]
    exact h1
  · exact (Below.refl base w).grown h2 hb (fun k hk => (World.ownsRow.lt hown k hk).1)

set_option maxHeartbeats 400000 in
theorem appendBytes_any (base : Nat) (v : Value) (l : List UInt8) (s : ByteArray) (w : World)
    (hown : OwnB w base v l) (hb : base ≤ w.heap.size) (hl : l.length ≤ 1099511627776) (hs : s.size ≤ 1099511627776) :
    Calls Tryd.prog 93 #[v, .string s] w fun e w' => ∃ v', e = .returned v' ∧ OwnB w' base v' (l ++ encB s.data.toList) ∧ Below base w w' := by
  have hsz : s.data.toList.length = s.size := Array.length_toList (xs := s.data)
  have HE := Lib.hid (show l ++ enc s.size ++ s.data.toList = l ++ encB s.data.toList by unfold encB; rw [hsz, List.append_assoc])
  have hle := enc_le (n := (s.size : Int)) (by omega) (by omega)
  clear hsz
  go_enter Tryd.func93, Tryd.ntmps93
  go_wp2_with fail
  refine (appendInt_any base _ l _ _ (by omega) (by omega) hown hb hl).mono ?_
  rintro e w1 ⟨v1, rfl, ho1, hb1⟩
  go_wp2_with (at_builtin; refine wpList_pushStr rfl (.tmp 8) (.tmp 9) rfl base _ _ rfl ho1 s (Nat.le_trans hb hb1.size) ?c1 rfl ?_; rotate_left 1; intro v2 w2 ho2 hb2)
  go_ret
  exact ⟨v2, rfl, by rw [← HE.out]; exact ho2, hb1.trans hb2⟩
  case c1 => simp; omega

set_option maxHeartbeats 400000 in
theorem bytes_any (s : ByteArray) (w : World) (hs : s.size ≤ 1099511627776) :
    Calls Tryd.prog 80 #[.string s] w fun e w' => ∃ v, e = .returned v ∧ OwnB w' w.heap.size v (encB s.data.toList) ∧ Below w.heap.size w w' := by
  go_enter Tryd.func80, Tryd.ntmps80
  go_wp2_with (go_at_call 93; refine (appendBytes_any w.heap.size _ [] _ _ (OwnB.nil _ _) (Nat.le_refl _) (by simp) hs).mono ?_; rintro e w' ⟨v, rfl, ho, hb⟩)
  go_ret
  exact ⟨v, rfl, ho, hb⟩

end Go.Proofs.YtfbemmeonkceiaaDoor

/- Contracts of rotr (the program's and the reference's), RotateLeft32 and word. -/
namespace Go.Proofs.YtfbemmeonkceiaaDoor
open Go.RowKit Hm

theorem wrap_u32 (n : Int) : IntKind.u32.wrap n = n % 4294967296 := by simp [IntKind.wrap, IntKind.bits, IntKind.signed]
theorem u32_lt (x : UInt32) : x.toNat < 4294967296 := x.toNat_lt

theorem bv_u32 (a : Nat) (h : a < 4294967296) : (BitVec.ofInt 32 (a : Int)).toNat = a := by
  rw [BitVec.ofInt_natCast, BitVec.toNat_ofNat]; exact Nat.mod_eq_of_lt (by omega)
theorem bv_u64 (a : Nat) (h : a < 18446744073709551616) : (BitVec.ofInt 64 (a : Int)).toNat = a := by
  rw [BitVec.ofInt_natCast, BitVec.toNat_ofNat]; exact Nat.mod_eq_of_lt (by omega)
/-- The operations on words, at numbers below 2 ^ 32. -/
theorem or_u32 (a b : Nat) (ha : a < 4294967296) (hb : b < 4294967296) : bits .or .u32 (a : Int) (b : Int) = ((a ||| b : Nat) : Int) := by
  have h : a ||| b < 2 ^ 32 := Nat.or_lt_two_pow (by omega) (by omega)
  show IntKind.u32.wrap ((BitVec.ofInt 32 (a : Int) ||| BitVec.ofInt 32 (b : Int)).toNat : Int) = _
  rw [BitVec.toNat_or, bv_u32 a (by omega), bv_u32 b (by omega), wrap_u32]; omega
theorem xor_u32 (x y : UInt32) : bits .xor .u32 (x.toNat : Int) (y.toNat : Int) = ((x ^^^ y).toNat : Int) := by
  have ha := u32_lt x
  have hb := u32_lt y
  have h : x.toNat ^^^ y.toNat < 2 ^ 32 := Nat.xor_lt_two_pow (by omega) (by omega)
  show IntKind.u32.wrap ((BitVec.ofInt 32 (x.toNat : Int) ^^^ BitVec.ofInt 32 (y.toNat : Int)).toNat : Int) = _
  rw [BitVec.toNat_xor, bv_u32 _ (by omega), bv_u32 _ (by omega), wrap_u32, UInt32.toNat_xor]; omega
theorem and_u32 (x y : UInt32) : bits .and .u32 (x.toNat : Int) (y.toNat : Int) = ((x &&& y).toNat : Int) := by
  have ha := u32_lt x
  have hb := u32_lt y
  have h : x.toNat &&& y.toNat < 2 ^ 32 := Nat.and_lt_two_pow _ (by omega)
  show IntKind.u32.wrap ((BitVec.ofInt 32 (x.toNat : Int) &&& BitVec.ofInt 32 (y.toNat : Int)).toNat : Int) = _
  rw [BitVec.toNat_and, bv_u32 _ (by omega), bv_u32 _ (by omega), wrap_u32, UInt32.toNat_and]; omega
theorem add_u32 (x y : UInt32) : IntKind.u32.wrap ((x.toNat : Int) + (y.toNat : Int)) = ((x + y).toNat : Int) := by
  rw [wrap_u32, UInt32.toNat_add]; omega
theorem shr_u32 (x : UInt32) (n : Nat) : (x.toNat : Int) / ((2 ^ n : Nat) : Int) = ((UInt32.ofNat (x.toNat / 2 ^ n)).toNat : Int) := by
  have ha := u32_lt x
  have h : x.toNat / 2 ^ n ≤ x.toNat := Nat.div_le_self _ _
  rw [UInt32.toNat_ofNat_of_lt' (by show _ < 4294967296; omega)]; simp

theorem rot_eq (x : UInt32) (n m : Nat) (hm : m + n = 32) : bits .or .u32 (IntKind.u32.wrap ((x.toNat : Int) * ((2 ^ m : Nat) : Int))) ((x.toNat : Int) / ((2 ^ n : Nat) : Int)) = ((rotr x n).toNat : Int) := by
  have hx := u32_lt x
  have h1 : x.toNat / 2 ^ n ≤ x.toNat := Nat.div_le_self _ _
  have e1 : IntKind.u32.wrap ((x.toNat : Int) * ((2 ^ m : Nat) : Int)) = ((x.toNat * 2 ^ m % 4294967296 : Nat) : Int) := by rw [wrap_u32, ← Int.natCast_mul]; omega
  have e2 : (x.toNat : Int) / ((2 ^ n : Nat) : Int) = ((x.toNat / 2 ^ n : Nat) : Int) := by simp
  have h2 : x.toNat / 2 ^ n ||| x.toNat * 2 ^ m % 4294967296 < 2 ^ 32 := Nat.or_lt_two_pow (by omega) (by omega)
  rw [e1, e2, or_u32 _ _ (by omega) (by omega)]
  unfold rotr
  rw [show 32 - n = m from by omega, UInt32.toNat_ofNat_of_lt' h2, Nat.or_comm]
theorem rot_eq' (x : UInt32) (n m : Nat) (hm : m + n = 32) : bits .or .u32 ((x.toNat : Int) / ((2 ^ n : Nat) : Int)) (IntKind.u32.wrap ((x.toNat : Int) * ((2 ^ m : Nat) : Int))) = ((rotr x n).toNat : Int) := by
  have hx := u32_lt x
  have h1 : x.toNat / 2 ^ n ≤ x.toNat := Nat.div_le_self _ _
  have e1 : IntKind.u32.wrap ((x.toNat : Int) * ((2 ^ m : Nat) : Int)) = ((x.toNat * 2 ^ m % 4294967296 : Nat) : Int) := by rw [wrap_u32, ← Int.natCast_mul]; omega
  have e2 : (x.toNat : Int) / ((2 ^ n : Nat) : Int) = ((x.toNat / 2 ^ n : Nat) : Int) := by simp
  have h2 : x.toNat / 2 ^ n ||| x.toNat * 2 ^ m % 4294967296 < 2 ^ 32 := Nat.or_lt_two_pow (by omega) (by omega)
  rw [e1, e2, or_u32 _ _ (by omega) (by omega)]
  unfold rotr
  rw [show 32 - n = m from by omega, UInt32.toNat_ofNat_of_lt' h2]
theorem and31 (n m : Nat) (hm : m + n = 32) (h0 : 0 < n) : bits .and .u64 (IntKind.u64.wrap (-(n : Int))) 31 = (m : Int) := by
  have e : IntKind.u64.wrap (-(n : Int)) = ((18446744073709551616 - n : Nat) : Int) := by rw [IntKind.wrap_u64]; omega
  rw [e]
  show IntKind.u64.wrap ((BitVec.ofInt 64 _ &&& BitVec.ofInt 64 ((31 : Nat) : Int)).toNat : Int) = _
  rw [BitVec.toNat_and, bv_u64 _ (by omega), bv_u64 _ (by omega), IntKind.wrap_u64, show (31 : Nat) = 2 ^ 5 - 1 from rfl, Nat.and_two_pow_sub_one_eq_mod]; omega

set_option maxHeartbeats 400000 in
theorem rotl_any (x : UInt32) (n m : Nat) (w : World) (h0 : 0 < n) (h1 : n < 32) (hm : m + n = 32) :
    Calls Tryd.prog 104 #[.int .u32 x.toNat, .int .i64 (-(n : Int))] w fun e w' => e = .returned (.int .u32 (rotr x n).toNat) ∧ w = w' := by
  have hx := u32_lt x
  have ha := and31 n m hm h0
  have HE := Lib.hid (rot_eq x n m hm)
  have hm0 : (m : Int) ≤ 32 := by omega
  have e32 : (32 : Int) - (m : Int) = (n : Int) := by omega
  have hn : (n : Int) ≤ 32 := by omega
  clear hm
  go_enter Tryd.func104, Tryd.ntmps104
  go_wp2
  go_ret
  exact ⟨ret_int (by rw [← HE.out, wrap_u32]; simp), rfl⟩

set_option maxHeartbeats 400000 in
theorem rotr_any (x : UInt32) (n : Nat) (w : World) (h0 : 0 < n) (h1 : n < 32) :
    Calls Tryd.prog 95 #[.int .u32 x.toNat, .int .i64 n] w fun e w' => e = .returned (.int .u32 (rotr x n).toNat) ∧ w = w' := by
  have HC := Lib.hid (rotl_any x n (32 - n) w h0 h1 (by omega))
  go_enter Tryd.func95, Tryd.ntmps95
  go_wp2_with (go_at_call 104; refine HC.out.mono ?_; rintro e w' ⟨rfl, rfl⟩)
  go_ret
  exact ⟨rfl, rfl⟩

set_option maxHeartbeats 400000 in
theorem rrotr_any' (x : UInt32) (n m : Nat) (w : World) (h0 : 0 < n) (h1 : n < 32) (hm : m + n = 32) :
    Calls Tryd.prog 99 #[.int .u32 x.toNat, .int .i64 n] w fun e w' => e = .returned (.int .u32 (rotr x n).toNat) ∧ ∃ k, w' = w.drewN k := by
  have hx := u32_lt x
  have HE := Lib.hid (rot_eq' x n m hm)
  have hn : (n : Int) ≤ 32 := by omega
  have hm0 : (m : Int) ≤ 32 := by omega
  have e32 : (32 : Int) - (n : Int) = (m : Int) := by omega
  have ew : IntKind.i64.wrap ((32 : Int) - (n : Int)) = (m : Int) := by rw [e32]; exact IntWalk.i64_in _ (by omega)
  clear hm
  go_enter Tryd.func99, Tryd.ntmps99
  go_wp2
  go_quiet (fail)
  go_wp2
  go_ret
  exact ⟨ret_int (by rw [← HE.out, wrap_u32]; simp), _, rfl⟩
theorem rrotr_any (x : UInt32) (n : Nat) (w : World) (h0 : 0 < n) (h1 : n < 32) :
    Calls Tryd.prog 99 #[.int .u32 x.toNat, .int .i64 n] w fun e w' => e = .returned (.int .u32 (rotr x n).toNat) ∧ ∃ k, w' = w.drewN k :=
  rrotr_any' x n (32 - n) w h0 h1 (by omega)

theorem be4_eq (a b c d : UInt8) : bits .or .u32 (bits .or .u32 (bits .or .u32 ((a.toNat : Int) * 16777216) ((b.toNat : Int) * 65536)) ((c.toNat : Int) * 256)) (d.toNat : Int) = ((be4 a b c d).toNat : Int) := by
  have ha := a.toNat_lt
  have hb := b.toNat_lt
  have hc := c.toNat_lt
  have hd := d.toNat_lt
  have o1 : a.toNat * 16777216 ||| b.toNat * 65536 = a.toNat * 16777216 + b.toNat * 65536 := by
    have := Nat.two_pow_add_eq_or_of_lt (i := 24) (b := b.toNat * 65536) (by omega) a.toNat
    rw [Nat.mul_comm a.toNat]; exact this.symm
  have o2 : (a.toNat * 256 + b.toNat) * 65536 ||| c.toNat * 256 = (a.toNat * 256 + b.toNat) * 65536 + c.toNat * 256 := by
    have := Nat.two_pow_add_eq_or_of_lt (i := 16) (b := c.toNat * 256) (by omega) (a.toNat * 256 + b.toNat)
    rw [Nat.mul_comm _ 65536]; exact this.symm
  have o3 : (a.toNat * 65536 + b.toNat * 256 + c.toNat) * 256 ||| d.toNat = (a.toNat * 65536 + b.toNat * 256 + c.toNat) * 256 + d.toNat := by
    have := Nat.two_pow_add_eq_or_of_lt (i := 8) (b := d.toNat) (by omega) (a.toNat * 65536 + b.toNat * 256 + c.toNat)
    rw [Nat.mul_comm _ 256]; exact this.symm
  rw [show (a.toNat : Int) * 16777216 = ((a.toNat * 16777216 : Nat) : Int) from by omega, show (b.toNat : Int) * 65536 = ((b.toNat * 65536 : Nat) : Int) from by omega,
    show (c.toNat : Int) * 256 = ((c.toNat * 256 : Nat) : Int) from by omega, or_u32 _ _ (by omega) (by omega), o1,
    show a.toNat * 16777216 + b.toNat * 65536 = (a.toNat * 256 + b.toNat) * 65536 from by omega, or_u32 _ _ (by omega) (by omega), o2,
    show (a.toNat * 256 + b.toNat) * 65536 + c.toNat * 256 = (a.toNat * 65536 + b.toNat * 256 + c.toNat) * 256 from by omega, or_u32 _ _ (by omega) (by omega), o3]
  unfold be4
  rw [UInt32.toNat_ofNat_of_lt' (by show _ < 4294967296; omega)]; omega

set_option maxHeartbeats 400000 in
theorem word_any (a b c d : UInt8) (w : World) :
    Calls Tryd.prog 103 #[.agg #[.int .u8 a.toNat, .int .u8 b.toNat, .int .u8 c.toNat, .int .u8 d.toNat]] w fun e w' => e = .returned (.int .u32 (be4 a b c d).toNat) ∧ Below w.heap.size w w' := by
  have ha := a.toNat_lt
  have hb := b.toNat_lt
  have hc := c.toNat_lt
  have hd := d.toNat_lt
  have HE := Lib.hid (be4_eq a b c d)
  go_enter Tryd.func103, Tryd.ntmps103
  go_wp2
  go_ret
  exact ⟨ret_int (by rw [← HE.out]), (Below.refl _ _).alloc (Nat.le_refl _) _⟩
end Go.Proofs.YtfbemmeonkceiaaDoor

/- Contracts of appendNumber and padding. -/
namespace Go.Proofs.YtfbemmeonkceiaaDoor
open Go.RowKit Hm

/-- The last k bytes of a number, the most significant one first. -/
def numB (n : Nat) : Nat → List UInt8
  | 0 => []
  | k + 1 => UInt8.ofNat (n / 2 ^ (8 * k)) :: numB n k
theorem numB_len (n : Nat) : ∀ k, (numB n k).length = k
  | 0 => rfl
  | k + 1 => by simp [numB, numB_len n k]
theorem numB8 (n : Nat) : numB n 8 = be8 n := by simp [numB, be8]
theorem numB4 (x : UInt32) : numB x.toNat 4 = w4 x := by simp [numB, w4]

set_option maxRecDepth 100000 in
set_option maxHeartbeats 400000 in
theorem appendNumber_any (base : Nat) (v : Value) (l : List UInt8) (n size : Nat) (w : World) (hn : n < 18446744073709551616) (hs : size ≤ 8)
    (hown : OwnB w base v l) (hb : base ≤ w.heap.size) (hl : l.length ≤ 1099511627776) :
    Calls Tryd.prog 96 #[v, .int .u64 n, .int .i64 size] w fun e w' => ∃ v', e = .returned v' ∧ OwnB w' base v' (l ++ numB n size) ∧ Below base w w' := by
  have HN := Lib.hid hn
  go_enter Tryd.func96, Tryd.ntmps96
  go_wp2
  go_loopw [0, 7] (fun v z wr => ∃ (p : List UInt8) (k : Nat), z = .int .i64 ((k : Int) - 1) ∧ k ≤ size ∧ Hid (p.length ≤ 8) ∧ Hid (p ++ numB n k = numB n size) ∧ OwnB wr base v (l ++ p) ∧ base ≤ wr.heap.size ∧ Below base w wr)
    (fun _ z _ => (intOf z + 1).toNat)
  case atStart => exact ⟨[], size, rfl, Nat.le_refl _, (by simp : ([] : List UInt8).length ≤ 8), rfl, by simpa using hown, hb, Below.refl _ _⟩
  case round =>
    obtain ⟨p, k, rfl, hk, HP, HD, ho, hbr, hbel⟩ := hrel
    have HL := Lib.hid hl
    clear hown hb hl hn
    rcases k with _ | k
    · go_wp2
      go_ret
      refine ⟨_, rfl, ?_, hbel⟩
      have := HD.out
      simp only [numB, List.append_nil] at this
      rw [← this]; exact ho
    · obtain ⟨z, hz⟩ : ∃ z : Int, ((k + 1 : Nat) : Int) - 1 = z := ⟨_, rfl⟩
      rw [hz]
      have hz0 : 0 ≤ z := by omega
      have hz1 : z ≤ 7 := by omega
      have HZ := Lib.hid hz
      clear hz
      go_wp2_with (at_builtin; refine wpList_push rfl (.tmp 14) (.tmp 20) rfl base _ _ rfl ho _ (UInt8.ofNat (n / 2 ^ (8 * k))) ?c1 hbr ?c2 rfl ?_; rotate_left 2; intro v1 w1 ho1 hb1)
      case c1 =>
        have h1 := HZ.out
        have e : (8 * z).toNat = 8 * k := by omega
        rw [e, UInt8.toNat_ofNat']
        simp
      case c2 => have h1 := HL.out; have h2 := HP.out; simp; omega
      go_roundw
      case rel =>
        have h1 := HZ.out
        have h2 := HD.out
        refine ⟨p ++ [UInt8.ofNat (n / 2 ^ (8 * k))], k, ?_, by omega, ?_, ?_, by rw [← List.append_assoc]; exact ho1, Nat.le_trans hbr hb1.size, hbel.trans hb1⟩
        · go_num
        · have h3 := congrArg List.length h2
          rw [List.length_append, numB_len, numB_len] at h3
          show _ ≤ 8
          simp; omega
        · show _ ++ _ = _
          rw [← h2]
          simp [numB]
      case measure => have h1 := HZ.out; simp [intOf]; omega
end Go.Proofs.YtfbemmeonkceiaaDoor

/- Contract of padding. -/
namespace Go.Proofs.YtfbemmeonkceiaaDoor
open Go.RowKit Hm

theorem pad_eq (n z : Nat) (hz : z = (119 - n % 64) % 64) : (128 : UInt8) :: List.replicate z 0 ++ numB (8 * n % 18446744073709551616) 8 = pad n := by
  subst hz
  unfold pad
  rw [numB8]

theorem madeCells_zero (n : Nat) : madeCells #[.int .u8 0] n = (bc (List.replicate n (0 : UInt8))).toArray := by
  apply Array.ext
  · simp [madeCells, bc]
  · intro i h1 h2
    have e : i % 1 = 0 := Nat.mod_one i
    simp [madeCells, bc, e]

/-- A new row of bytes whose first byte was set. -/
theorem own_made (w : World) (c z : Nat) (hz : z + 1 ≤ c) (hc : c ≤ 1000000) :
    OwnB (w.alloc (.cells ((madeCells #[.int .u8 0] c).setIfInBounds 0 (.int .u8 128)) 5)) w.heap.size (.slice (some ⟨w.heap.size, 0, none⟩) (z + 1) c) (128 :: List.replicate z 0) := by
  have hl : (128 :: List.replicate z (0 : UInt8)).length = z + 1 := by simp
  refine ⟨by rw [bc_len, hl]; omega, .inr ⟨w.heap.size, c, (madeCells #[.int .u8 0] c).setIfInBounds 0 (.int .u8 128), by rw [hl], Nat.le_refl _, ?_, by rw [hl]; omega, by unfold maxLen; omega, by rw [Array.size_setIfInBounds, size_madeCells]; omega, ?_⟩⟩
  · exact heap_alloc_new w _
  · rw [hl, madeCells_zero, Nat.mul_one, Array.toList_setIfInBounds]
    obtain ⟨d, rfl⟩ : ∃ d, c = d + 1 := ⟨c - 1, by omega⟩
    simp [bc, List.replicate_succ]
    omega

set_option maxRecDepth 100000 in
set_option maxHeartbeats 400000 in
theorem padding_any (n : Nat) (w : World) (hn : n < 18446744073709551616) :
    Calls Tryd.prog 82 #[.int .u64 n] w fun e w' => ∃ v, e = .returned v ∧ OwnB w' w.heap.size v (pad n) ∧ Below w.heap.size w w' := by
  obtain ⟨z, hz⟩ : ∃ z, z = (119 - n % 64) % 64 := ⟨_, rfl⟩
  have hz0 : z < 64 := by omega
  have HE := Lib.hid (pad_eq n z hz)
  obtain ⟨C, hC⟩ : ∃ C, madeCells #[.int .u8 0] (z + 9) = C := ⟨_, rfl⟩
  have HO := Lib.hid (hC ▸ own_made w (z + 9) z (by omega) (by omega))
  have hc0 : (w.alloc (.cells C 5)).cell? ⟨w.heap.size, 0, none⟩ = some (.int .u8 0) := by
    rw [cell_of_row _ w.heap.size 0 C 5 (0, 0) (heap_alloc_new w _), ← hC, madeCells_zero]
    simp [bc, List.replicate_succ]
  have e1 : IntKind.u64.wrap (119 - (n : Int) % 64) = ((119 - n % 64 : Nat) : Int) := by rw [IntKind.wrap_u64]; omega
  have e2 : ((119 - n % 64 : Nat) : Int) % 64 = (z : Int) := by omega
  obtain ⟨i0, hi, hz0', hz1, hz2⟩ := info_parts u8_info
  have hmk := run_make (P := Tryd.prog) w 75 5 i0 _ Tryd.underlying75 hi hz0' .u64 .u64 (1 + (z : Int)) (1 + (z : Int) + 8) (by omega) (by omega) (by rw [hz2]; omega) (by omega)
  rw [hz1, show (1 + (z : Int)).toNat = z + 1 from by omega, show (1 + (z : Int) + 8).toNat = z + 9 from by omega, Nat.mul_one, show (Value.int IntKind.u8 0).cells = #[.int .u8 0] from rfl, hC] at hmk
  clear hz hi hz0' hz1 hz2 hC
  go_enter Tryd.func82, Tryd.ntmps82
  go_wp2_with fail
  have e3 : IntKind.u64.wrap (8 * (n : Int)) = ((8 * n % 18446744073709551616 : Nat) : Int) := by rw [IntKind.wrap_u64]; omega
  rw [e3]
  refine (appendNumber_any w.heap.size _ _ _ 8 _ (by omega) (by omega) HO.out (by simp) (by simp; omega)).mono ?_
  rintro e w' ⟨v, rfl, ho, hb⟩
  rw [HE.out] at ho
  clear e3
  go_wp2
  go_ret
  exact ⟨v, rfl, ho, Below.trans ((Below.refl _ _).alloc (Nat.le_refl _) _) hb⟩
end Go.Proofs.YtfbemmeonkceiaaDoor

/- Words for memory: blocks that are known whole; loads, stores and results of arrays and structs in them. -/
namespace Go.Proofs.YtfbemmeonkceiaaDoor
open Go.RowKit Hm

/-- Block g holds just the cells cs, none frozen. -/
def Blk (w : World) (g : Nat) (t : TypeId) (cs : List Value) : Prop := w.heap[g]? = some (.cells cs.toArray t (0, 0))
/-- Nothing but block g has turned. -/
structure Only (g : Nat) (w w' : World) : Prop where
  os : w'.os = w.os
  tape : w'.tape = w.tape
  output : w'.output = w.output
  size : w'.heap.size = w.heap.size
  block : ∀ k, k ≠ g → w'.heap[k]? = w.heap[k]?

section
variable {w w' : World} {g k B : Nat} {t : TypeId} {cs : List Value}
theorem Only.setRow (w : World) (g : Nat) (c : Array Value) : Only g w (w.setRow g c) := ⟨rfl, rfl, rfl, by simp [World.setRow], fun k hk => setRow_other w g k c hk⟩
theorem Only.below (h : Only g w w') (hB : B ≤ g) : Below B w w' := ⟨h.os, h.tape, h.output, Nat.le_of_eq h.size.symm, fun k hk => h.block k (by omega)⟩
theorem Only.blk (h : Only g w w') (hb : Blk w k t cs) (hk : k ≠ g) : Blk w' k t cs := (h.block k hk).trans hb
theorem Blk.lt (h : Blk w g t cs) : g < w.heap.size := by
  rcases Nat.lt_or_ge g w.heap.size with hlt | hge
  · exact hlt
  · unfold Blk at h; rw [Array.getElem?_eq_none hge] at h; cases h
theorem Blk.cell (h : Blk w g t cs) (i : Nat) : w.cell? ⟨g, i, none⟩ = cs[i]? := by
  rw [cell_of_row w g i _ t (0, 0) h]; simp
theorem Blk.frozen (h : Blk w g t cs) (i : Nat) : w.frozen? ⟨g, i, none⟩ = false := by
  unfold Blk at h
  simp [World.frozen?, h]
theorem Blk.new (w : World) (t : TypeId) (cs : List Value) : Blk (w.alloc (.cells cs.toArray t)) w.heap.size t cs := heap_alloc_new w _
theorem Blk.drew (h : Blk w g t cs) : Blk w.drew g t cs := h
theorem Blk.drewN (h : Blk w g t cs) (n : Nat) : Blk (w.drewN n) g t cs := h
theorem Blk.alloc (h : Blk w g t cs) (o : Obj) : Blk (w.alloc o) g t cs := (Below.heap_alloc w o g h.lt).trans h
theorem Blk.far (h : Blk w g t cs) {p : Addr} (hp : g ≠ p.block) (u : Value) : Blk (w.setCell p u) g t cs := (Below.heap_setCell w p u g hp).trans h
theorem Blk.set_ (h : Blk w g t cs) (i : Nat) (u : Value) : Blk (w.setCell ⟨g, i, none⟩ u) g t (cs.set i u) := by
  unfold Blk at h ⊢
  simp [World.setCell, Array.getElem?_modify, h]
theorem Blk.below (h : Blk w g t cs) (hb : Below B w w') (hg : g < B) : Blk w' g t cs := (hb.block g hg).trans h
theorem Blk.next (h : Blk w g t cs) (hb : Below w.heap.size w w') : Blk w' g t cs := h.below hb h.lt
theorem Blk.range (h : Blk w g t cs) (o n : Nat) : w.rangeAt g o ((cs.drop o).take n) := fun j v hv => by
  rw [h.cell (o + j)]
  rw [List.getElem?_take] at hv
  split at hv
  · rwa [List.getElem?_drop] at hv
  · cases hv
theorem drewN_below (h : Below B w w') (n : Nat) : Below B w (w'.drewN n) := ⟨h.os, h.tape, h.output, h.size, h.block⟩
end

section
variable {P : Program}
theorem run_store_part (w : World) (ty : TypeId) (g o : Nat) (t : TypeId) (cur cells : List Value) (hb : Blk w g t cur) (hfit : o + cells.length ≤ cur.length) (hi : (P.info? ty).map (·.size) = some cells.length)
    (h1 : ∀ v ∈ cells, v.oneCell' = true) : (Instr.storeAt ty (.pointer (some ⟨g, o, none⟩)) (.agg cells.toArray)).run P w = .ok () (w.setRow g (splice cur o cells).toArray) := by
  have h := run_storeCells_at P g o t cells 0 cur.toArray w hb (by simpa using hfit) h1
  cases hq : P.info? ty with
  | none => simp [hq] at hi
  | some i =>
    have hs : i.size = cells.length := by simpa [hq] using hi
    have e : (splice cur o cells).toArray = (cur.toArray.toList.take (o + 0) ++ cells ++ cur.toArray.toList.drop (o + 0 + cells.length)).toArray := by simp [splice]
    rw [e, ← h]
    simp [Instr.storeAt, Instr.sureAddr, storeVar, sizeOf, typeInfo, hq, Value.cells, hs]

theorem wp_store_part {w : World} {op : Oper} {a : Act} {K : Act → World → Prop} {Q : Exit → Act → World → Prop} (ty : TypeId) (x y : Operand) (ho : op.op = .store ty x y)
    (g o : Nat) (t : TypeId) (cur cells : List Value) (hx : a.eval x = .pointer (some ⟨g, o, none⟩)) (hy : a.eval y = .agg cells.toArray) (hb : Blk w g t cur) (hfit : o + cells.length ≤ cur.length)
    (hi : (P.info? ty).map (·.size) = some cells.length) (h1 : ∀ v ∈ cells, v.oneCell' = true)
    (h : ∀ w', Blk w' g t (splice cur o cells) → Only g w w' → K (a.put op.dst undef) w') : op.wp P a w K Q := by
  have hrun := run_store_part (P := P) w ty g o t cur cells hb hfit hi h1
  unfold Oper.wp execOp
  simp only [ho, hx, hy, Sem.run_bind, hrun, Result.andThen_ok]
  exact h _ (setRow_heap w g _ _ t _ hb) (Only.setRow w g _)
theorem wpList_store_part {w : World} {ops : Array Oper} {rest : List Oper} {op : Oper} {a : Act} {Q : Exit → Act → World → Prop} (hgd : op.guard = none) (ty : TypeId) (x y : Operand) (ho : op.op = .store ty x y)
    (g o : Nat) (t : TypeId) (cur cells : List Value) (hx : a.eval x = .pointer (some ⟨g, o, none⟩)) (hy : a.eval y = .agg cells.toArray) (hb : Blk w g t cur) (hfit : o + cells.length ≤ cur.length)
    (hi : (P.info? ty).map (·.size) = some cells.length) (h1 : ∀ v ∈ cells, v.oneCell' = true)
    (h : ∀ w', Hid (Blk w' g t (splice cur o cells)) → Only g w w' → wpList P ops Q rest (a.put op.dst undef) w') : wpList P ops Q (op :: rest) a w :=
  wpList_plain hgd fun _ hK => wp_store_part ty x y ho g o t cur cells hx hy hb hfit hi h1 fun w' e1 e2 => hK _ _ (h w' e1 e2)

/-- A whole variable is stored. -/
theorem splice_all {α : Type} (cur cells : List α) (h : cells.length = cur.length) : splice cur 0 cells = cells := by
  unfold splice
  rw [List.drop_eq_nil_of_le (by omega)]; simp
theorem wpList_store_all {w : World} {ops : Array Oper} {rest : List Oper} {op : Oper} {a : Act} {Q : Exit → Act → World → Prop} (hgd : op.guard = none) (ty : TypeId) (x y : Operand) (ho : op.op = .store ty x y)
    (g : Nat) (t : TypeId) (cur cells : List Value) (hx : a.eval x = .pointer (some ⟨g, 0, none⟩)) (hy : a.eval y = .agg cells.toArray) (hb : Blk w g t cur) (hfit : cells.length = cur.length)
    (hi : (P.info? ty).map (·.size) = some cells.length) (h1 : ∀ v ∈ cells, v.oneCell' = true)
    (h : ∀ w', Hid (Blk w' g t cells) → Only g w w' → wpList P ops Q rest (a.put op.dst undef) w') : wpList P ops Q (op :: rest) a w :=
  wpList_store_part hgd ty x y ho g 0 t cur cells hx hy hb (by omega) hi h1 fun w' e1 e2 => h w' (by have := e1.out; rwa [splice_all _ _ hfit] at this) e2

theorem run_load_part (w : World) (ty : TypeId) (g o n : Nat) (t : TypeId) (cur : List Value) (d : TypeDesc) (hb : Blk w g t cur) (hfit : o + n ≤ cur.length) (hu : P.underlying ty = some d) (hd : d.isRow = true)
    (hi : (P.info? ty).map (·.size) = some n) : (Instr.loadAt ty (.pointer (some ⟨g, o, none⟩))).run P w = .ok (.agg ((cur.drop o).take n).toArray) w :=
  run_loadAt_mid w g o ty _ d (hb.range o n) hu hd (by rw [hi, List.length_take, List.length_drop, Nat.min_eq_left (by omega)])
theorem wpList_load_part {w : World} {ops : Array Oper} {rest : List Oper} {op : Oper} {a : Act} {Q : Exit → Act → World → Prop} (hgd : op.guard = none) (ty : TypeId) (x : Operand) (ho : op.op = .load ty x)
    (g o : Nat) (t : TypeId) (cur cs : List Value) (d : TypeDesc) (hx : a.eval x = .pointer (some ⟨g, o, none⟩)) (hb : Blk w g t cur) (hcs : (cur.drop o).take cs.length = cs) (hu : P.underlying ty = some d) (hd : d.isRow = true)
    (hi : (P.info? ty).map (·.size) = some cs.length)
    (h : wpList P ops Q rest (a.put op.dst (.agg cs.toArray)) w) : wpList P ops Q (op :: rest) a w :=
  wpList_load_mid hgd ty x ho g o hx cs d (by have := hb.range o cs.length; rwa [hcs] at this) hu hd hi h
theorem wpList_load_all {w : World} {ops : Array Oper} {rest : List Oper} {op : Oper} {a : Act} {Q : Exit → Act → World → Prop} (hgd : op.guard = none) (ty : TypeId) (x : Operand) (ho : op.op = .load ty x)
    (g : Nat) (t : TypeId) (cs : List Value) (d : TypeDesc) (hx : a.eval x = .pointer (some ⟨g, 0, none⟩)) (hb : Blk w g t cs) (hu : P.underlying ty = some d) (hd : d.isRow = true)
    (hi : (P.info? ty).map (·.size) = some cs.length)
    (h : wpList P ops Q rest (a.put op.dst (.agg cs.toArray)) w) : wpList P ops Q (op :: rest) a w :=
  wpList_load_part hgd ty x ho g 0 t cs cs d hx hb (by simp) hu hd hi h

theorem results_blk {fn : Func} {p : Tmp} {ty : TypeId} (h : fn.results = #[.cell p ty]) (tmps : Array Value) (w : World) (g : Nat) (t : TypeId) (cs : List Value) (d : TypeDesc)
    (hp : tmps.getD p undef = .pointer (some ⟨g, 0, none⟩)) (hg : Blk w g t cs) (hu : P.underlying ty = some d) (hd : d.isRow = true) (hi : (P.info? ty).map (·.size) = some cs.length) :
    (results fn tmps).run P w = .ok (.agg cs.toArray) w :=
  results_cell_row h tmps w g t cs.toArray (0, 0) d hp hg hu (by cases d <;> first | rfl | cases hd) (by simpa using hi)
end

/-- A new variable: its zero value. -/
theorem run_alloc_zero {P : Program} (w : World) (t : TypeId) (Z : List Value) (h : (P.info? t).map (·.zero) = some (some (.agg Z.toArray))) :
    (Instr.alloc t true (.tuple #[])).run P w = .ok (.pointer (some ⟨w.heap.size, 0, none⟩)) (w.alloc (.cells Z.toArray t)) := by
  cases hq : P.info? t with
  | none => simp [hq] at h
  | some i =>
    have hz : i.zero = some (.agg Z.toArray) := by simpa [hq] using h
    have hzv : ∀ W, (zeroValue t).run P W = .ok (.agg Z.toArray) W := fun W => by simp [zeroValue, typeInfo, hq, hz]
    simp only [Instr.alloc, Sem.run_bind, hzv, Result.andThen_ok]
    simp [newVar, newRow, Value.cells]
theorem wpList_alloc_zero {P : Program} {w : World} {ops : Array Oper} {rest : List Oper} {op : Oper} {a : Act} {Q : Exit → Act → World → Prop} (hgd : op.guard = none) (t : TypeId) (ho : op.op = .alloc t) (Z : List Value)
    (hi : (P.info? t).map (·.zero) = some (some (.agg Z.toArray)))
    (h : wpList P ops Q rest (a.put op.dst (.pointer (some ⟨w.heap.size, 0, none⟩))) (w.alloc (.cells Z.toArray t))) : wpList P ops Q (op :: rest) a w :=
  wpList_plain hgd fun K hK => by
    have hrun := run_alloc_zero (P := P) w t Z hi
    unfold Oper.wp execOp
    simp only [ho, Sem.run_bind, hrun, Result.andThen_ok]
    exact hK _ _ h
/-- Zero bytes, zero words, a zero stream. -/
def zb (n : Nat) : List Value := bc (List.replicate n 0)
theorem zb_len (n : Nat) : (zb n).length = n := by simp [zb, bc_len]

/-- The cells of words. -/
def wc (l : List UInt32) : List Value := l.map fun x => Value.int .u32 x.toNat
theorem wc_len (l : List UInt32) : (wc l).length = l.length := by simp [wc]
theorem wc_one (l : List UInt32) : ∀ u ∈ wc l, u.oneCell' = true := by
  intro u hu
  simp only [wc, List.mem_map] at hu
  obtain ⟨b, _, rfl⟩ := hu
  rfl
theorem wc_at {l : List UInt32} {k : Nat} (h : k < l.length) : (wc l)[k]? = some (.int .u32 l[k].toNat) := by simp [wc, h]

theorem a32_size : (Tryd.prog.info? 100).map (·.size) = some 32 := by kernel_rfl
theorem a32_under : Tryd.prog.underlying 100 = some (.array 32 5) := by kernel_rfl
theorem st_size : (Tryd.prog.info? 103).map (·.size) = some 8 := by kernel_rfl
theorem st_under : Tryd.prog.underlying 103 = some (.array 8 101) := by kernel_rfl
theorem blk_size : (Tryd.prog.info? 105).map (·.size) = some 64 := by kernel_rfl
theorem blk_under : Tryd.prog.underlying 105 = some (.array 64 5) := by kernel_rfl
theorem w64_size : (Tryd.prog.info? 130).map (·.size) = some 64 := by kernel_rfl
theorem w64_under : Tryd.prog.underlying 130 = some (.array 64 101) := by kernel_rfl
theorem sm_size : (Tryd.prog.info? 107).map (·.size) = some 73 := by kernel_rfl
theorem a4_size : (Tryd.prog.info? 139).map (·.size) = some 4 := by kernel_rfl
theorem a4_under : Tryd.prog.underlying 139 = some (.array 4 5) := by kernel_rfl
def zw (n : Nat) : List Value := wc (List.replicate n 0)
theorem zw_len (n : Nat) : (zw n).length = n := by simp [zw, wc_len]
def zs : List Value := zw 8 ++ (zb 64 ++ [.int .u64 0])
theorem zs_len : zs.length = 73 := by simp [zs, zw_len, zb_len]
theorem a32_zero : (Tryd.prog.info? 100).map (·.zero) = some (some (.agg (zb 32).toArray)) := by kernel_rfl
theorem st_zero : (Tryd.prog.info? 103).map (·.zero) = some (some (.agg (zw 8).toArray)) := by kernel_rfl
theorem blk_zero : (Tryd.prog.info? 105).map (·.zero) = some (some (.agg (zb 64).toArray)) := by kernel_rfl
theorem w64_zero : (Tryd.prog.info? 130).map (·.zero) = some (some (.agg (zw 64).toArray)) := by kernel_rfl
theorem sm_zero : (Tryd.prog.info? 107).map (·.zero) = some (some (.agg zs.toArray)) := by kernel_rfl
theorem dg_zero : (Tryd.prog.info? 31).map (·.zero) = some (some (.agg (zb 16).toArray)) := by kernel_rfl
theorem dg_size : (Tryd.prog.info? 31).map (·.size) = some 16 := by kernel_rfl
theorem dg_under : Tryd.prog.underlying 31 = some (.array 16 5) := by kernel_rfl
/-- The end of an array of bytes, from place k on. -/
theorem run_slice_from (t : TypeId) (n : Nat) (hu : Tryd.prog.underlying t = some (.array n 5)) (W : World) (g o : Nat) (kl : IntKind) (l : Int) (k : Nat) (hl : l = k) (hk : k < n) :
    (Instr.sliceAt t (.pointer (some ⟨g, o, none⟩)) (some (.int kl l)) none none).run Tryd.prog W = .ok (.slice (some ⟨g, o + k, none⟩) (n - k) (n - k)) W := by
  have e : (⟨g, o, none⟩ : Addr).add k = ⟨g, o + k, none⟩ := by unfold Addr.add; split <;> simp_all
  subst hl
  simp [Instr.sliceAt, Instr.sureAddr, run_underlying hu, Instr.sliceBounds, run_sliceBound, (by omega : (k : Int) ≤ n), e]
  omega

theorem run_arrayAt (t : TypeId) (n : Nat) (e : TypeId) (hu : Tryd.prog.underlying t = some (.array n e)) (w : World) (A : Option Addr) (m c : Nat) (hm : n ≤ m) : (Instr.arrayAt t (.slice A m c)).run Tryd.prog w = .ok (.pointer A) w := by
  simp [Instr.arrayAt, run_underlying hu, Nat.not_lt.2 hm]
end Go.Proofs.YtfbemmeonkceiaaDoor

/- Contract of the hash value's bytes. -/
namespace Go.Proofs.YtfbemmeonkceiaaDoor
open Go.RowKit Hm

theorem u32_info : (Tryd.prog.info? 101).map (fun i => (i.zero, i.size, i.bytes)) = some (some (.int .u32 0), 1, 4) := by kernel_rfl
theorem run_index_st (cs : List Value) (k : Nat) (u : Value) (w : World) (hl : cs.length = 8) (hk : cs[k]? = some u) : (Instr.index 103 (.agg cs.toArray) (.int .i64 k)).run Tryd.prog w = .ok u w := by
  have hlt : k < 8 := by
    rcases Nat.lt_or_ge k cs.length with h | h
    · omega
    · rw [List.getElem?_eq_none h] at hk; cases hk
  obtain ⟨i0, hi, hz0, hz1, hz2⟩ := info_parts u32_info
  have h0 : (0 : Int) ≤ (k : Int) ∧ (k : Int) < ((8 : Nat) : Int) := by omega
  have hag : ∀ W, (isAgg 101).run Tryd.prog W = .ok false W := fun W => by kernel_rfl
  simp [Instr.index, asIntOf, run_underlying st_under, h0, part, sizeOf, typeInfo, hi, hz1, hag, hk, hlt]

theorem bytes_step (s : H8) (k : Nat) (x : UInt32) (h : s.toL[k]? = some x) : (s.toL.take k).flatMap w4 ++ numB x.toNat 4 = (s.toL.take (k + 1)).flatMap w4 := by
  obtain ⟨h1, h2⟩ := List.getElem?_eq_some_iff.1 h
  rw [List.take_succ_eq_append_getElem h1, List.flatMap_append, numB4, h2]; simp

theorem size_alloc (w : World) (o : Obj) : (w.alloc o).heap.size = w.heap.size + 1 := by simp
/-- An own row of bytes that is not empty: where it lies. -/
theorem OwnB.at_ {w : World} {base : Nat} {v : Value} {l : List UInt8} (h : OwnB w base v l) (hne : l ≠ []) : ∃ b c, v = .slice (some ⟨b, 0, none⟩) l.length c ∧ base ≤ b ∧ l.length ≤ c ∧ w.rangeAt b 0 (bc l) := by
  have hx : bc l ≠ [] := by intro e; apply hne; have := bc_len l; rw [e] at this; exact List.eq_nil_of_length_eq_zero this.symm
  rcases h.2 with ⟨rfl, h0⟩ | ⟨g, cap, cur, rfl, hb, hg, hle, hm, hs, ht⟩
  · exact absurd (List.eq_nil_of_length_eq_zero h0) hne
  · refine ⟨g, cap, rfl, hb, hle, fun k u hu => ?_⟩
    obtain ⟨b, off, hA, hc⟩ := Rd.of_row h hx
    injection hA with hA
    injection hA with h1 h2
    subst h1; subst h2
    exact hc k u hu

theorem own_empty (w : World) (c : Nat) (C : Array Value) (hC : C.size = c) (hc : c ≤ 1000000) : OwnB (w.alloc (.cells C 5)) w.heap.size (.slice (some ⟨w.heap.size, 0, none⟩) 0 c) [] :=
  ⟨rfl, .inr ⟨w.heap.size, c, C, rfl, Nat.le_refl _, heap_alloc_new w _, Nat.zero_le _, by unfold maxLen; omega, by omega, rfl⟩⟩

theorem OwnB.range_ {w : World} {base : Nat} {A : Option Addr} {c : Nat} {l : List UInt8} (h : OwnB w base (.slice A l.length c) l) (hne : l ≠ []) : ∃ b off, A = some ⟨b, off, none⟩ ∧ w.rangeAt b off (bc l) := by
  have hx : bc l ≠ [] := by intro e; apply hne; have := bc_len l; rw [e] at this; exact List.eq_nil_of_length_eq_zero this.symm
  obtain ⟨b, off, hA, hc⟩ := h.rd hx
  exact ⟨b, off, hA, hc⟩

set_option maxRecDepth 100000 in
set_option maxHeartbeats 400000 in
theorem bytes_any_st (s : H8) (w : World) :
    Calls Tryd.prog 83 #[.agg (wc s.toL).toArray] w fun e w' => e = .returned (.agg (bc s.bytes).toArray) ∧ Below w.heap.size w w' := by
  obtain ⟨cs, hcs⟩ : ∃ cs, wc s.toL = cs := ⟨_, rfl⟩
  have hl8 : cs.length = 8 := by rw [← hcs, wc_len]; rfl
  have HCS := Lib.hid hcs
  have HL := Lib.hid hl8
  rw [hcs]
  obtain ⟨i0, hi, hz0, hz1, hz2⟩ := info_parts u8_info
  obtain ⟨C, hC⟩ : ∃ C, madeCells #[.int .u8 0] 32 = C := ⟨_, rfl⟩
  have hCs : C.size = 32 := by rw [← hC]; exact size_madeCells _ _
  have hmk := fun W : World => run_make (P := Tryd.prog) W 75 5 i0 _ Tryd.underlying75 hi hz0 .i64 .i64 0 32 (by omega) (by omega) (by rw [hz2]; omega) (by omega)
  simp only [hz1, Int.toNat_zero, Nat.mul_one, show (Value.int IntKind.u8 0).cells = #[.int .u8 0] from rfl, show ((32 : Int)).toNat = 32 from rfl, hC] at hmk
  have hix := fun (k : Nat) (u : Value) (W : World) (h : cs[k]? = some u) => run_index_st cs k u W hl8 h
  have HIX := Lib.hid hix
  have HO := Lib.hid (own_empty ((w.alloc (.cells cs.toArray 103)).alloc (.cells (zb 32).toArray 100)) 32 C hCs (by omega))
  have HB := Lib.hid (((Blk.new w 103 cs).alloc (.cells (zb 32).toArray 100)).alloc (.cells C 5))
  have HR := Lib.hid ((Blk.new (w.alloc (.cells cs.toArray 103)) 100 (zb 32)).alloc (.cells C 5))
  clear hcs hl8 hix hi hz0 hz1 hz2 hC hCs
  go_enter Tryd.func83, Tryd.ntmps83
  go_wp2_with (first | (refine wpList_alloc_zero rfl 100 rfl (zb 32) a32_zero ?_) | (refine wpList_load_all rfl _ (.tmp 1) rfl w.heap.size _ cs _ rfl HB.out st_under rfl (by rw [st_size, HL.out]) ?_))
  go_loopw [3, 8] (fun v i wr => ∃ k : Nat, i = .int .i64 k ∧ k ≤ 8 ∧ Hid (OwnB wr (w.heap.size + 1 + 1) v ((s.toL.take k).flatMap w4)) ∧ w.heap.size + 1 + 1 ≤ wr.heap.size ∧ Hid (Blk wr (w.heap.size + 1) 100 (zb 32)) ∧ Below w.heap.size w wr)
    (fun _ i _ => 8 - (intOf i).toNat)
  case atStart => exact ⟨0, rfl, by omega, (by have h := HO.out; simp at h; simpa using h : OwnB _ _ _ _), by simp, (by have h := HR.out; rw [size_alloc] at h; exact h : Blk _ _ _ _), (((Below.refl _ _).alloc (Nat.le_refl _) _).alloc (by simp) _).alloc (by simp; omega) _⟩
  case round =>
    obtain ⟨k, rfl, hk, HOK, hbr, HRK, hbel⟩ := hrel
    clear HO HR HB hmk
    by_cases hlt : k < 8
    · obtain ⟨x, hx⟩ : ∃ x, s.toL[k]? = some x := ⟨s.toL[k]'(by rw [H8.toL_len]; exact hlt), List.getElem?_eq_getElem _⟩
      have hcx : cs[k]? = some (.int .u32 x.toNat) := by
        rw [← HCS.out]
        simp [wc, hx]
      have HX := Lib.hid hx
      have hi1 := fun W : World => HIX.out k _ W hcx
      have hxl := u32_lt x
      have hll : ((s.toL.take k).flatMap w4).length ≤ 1099511627776 := by
        have h1 : ∀ l : List UInt32, (l.flatMap w4).length = l.length * 4 := by
          intro l
          induction l with
          | nil => rfl
          | cons a r ih => rw [List.flatMap_cons, List.length_append, ih]; simp [w4]; omega
        rw [h1, List.length_take]; omega
      have HLL := Lib.hid hll
      clear hx hcx hll
      go_wp2_with fail
      refine (appendNumber_any (w.heap.size + 1 + 1) _ _ x.toNat 4 _ (by omega) (by omega) HOK.out hbr HLL.out).mono ?_
      rintro e w2 ⟨v2, rfl, ho2, hb2⟩
      rw [bytes_step s k x HX.out] at ho2
      have HO2 := Lib.hid ho2
      clear ho2 hi1
      go_wp2
      go_roundw
      case rel => exact ⟨k + 1, by go_num, by omega, HO2.out, Nat.le_trans hbr hb2.size, HRK.out.below hb2 (by omega), hbel.trans (hb2.mono (by omega))⟩
      case measure => simp [intOf]; omega
    · obtain rfl : k = 8 := by omega
      have hof := HOK.out
      rw [show (s.toL.take 8).flatMap w4 = s.bytes from by rw [List.take_of_length_le (by rw [H8.toL_len]; omega)]; rfl] at hof
      obtain ⟨b, c, rfl, hbb, hcc, hrg⟩ := hof.at_ (by intro e; have := s.bytes_len; rw [e] at this; cases this)
      rw [s.bytes_len] at *
      have harr := fun (W : World) => run_arrayAt 100 32 5 a32_under W (some ⟨b, 0, none⟩) 32 c (Nat.le_refl _)
      have HRG := Lib.hid hrg
      clear hrg hof HOK
      go_wp2_with (first | (refine wpList_load_mid rfl _ (.tmp 17) rfl b 0 rfl (bc s.bytes) _ HRG.out a32_under rfl (by rw [a32_size, bc_len, s.bytes_len]) ?_) | (refine wpList_store_all rfl _ (.tmp 2) (.tmp 18) rfl (w.heap.size + 1) _ (zb 32) (bc s.bytes) rfl rfl HRK.out (by rw [bc_len, zb_len, s.bytes_len]) (by rw [a32_size, bc_len, s.bytes_len]) (bc_one _) ?_; intro w3 HB3 ho3))
      exact bodyPost_ret (results_blk rfl _ _ (w.heap.size + 1) _ (bc s.bytes) _ rfl HB3.out a32_under rfl (by rw [a32_size, bc_len, s.bytes_len])) rfl ⟨rfl, hbel.trans (ho3.below (by omega))⟩
end Go.Proofs.YtfbemmeonkceiaaDoor
