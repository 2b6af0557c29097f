/- Plain mathematics of numbers as rows of words: digits to the base 2^64, the lowest one first. -/
import Derived.Lib.Mul64
import Derived.Below
import Derived.Test.YtpmlihhofmblpaaGreatDoorProg
import Derived.WalkKit
import Derived.WalkSpells
import Derived.WalkLawsBesides
import Derived.Lib.Hide
import Derived.Lib.AppendStr
import Derived.Deep.AppendLies
import Derived.Deep.Draws
import Derived.Maps.AppendAt
import Derived.Laws.CopyOwn
import Derived.Deep.MidRow
import Derived.Deep.RegionHeld
import Derived.Lib.SlBytesConst
import Derived.Laws.BytesArg
import Derived.Great.BuildSlice
import Derived.Lib.ConvBytes
import Derived.Laws.Concat
import Derived.Shelf.Strings.Builder1
import Derived.Shelf.Strings.Builder2
import Derived.Shelf.Strings.Trim
import Derived.Shelf.Small.Utf8
import Derived.Shelf.Small.Bits
import Derived.Shelf.Small.Strs
import Derived.Shelf.Small.Wraps
import Derived.Shelf.Strings.BuilderF
import Derived.Shelf.Strings.BuilderK
import Derived.Shelf.Strings.Builder2Cap
import Derived.Shelf.Strconv.Itoa0
import Derived.Shelf.Strconv.Itoa1
import Derived.Shelf.LaysM
import Derived.Shelf.Strconv.Itoa2
import Derived.Shelf.Strings.Search1
import Derived.Shelf.Strings.Search2
import Derived.Shelf.Strings.Cut
import Derived.Shelf.Strings.Shaped
import Derived.Shelf.Strings.Prefix
import Derived.Shelf.Strings.Runes
import Derived.Shelf.Strings.AsciiSet
import Derived.Shelf.Bits.Mul64
import Derived.Shelf.Strings.Repeat
import Derived.Shelf.Unicode.DecodeSlow
import Derived.Shelf.Strings.BuilderCap
import Derived.Ground.Names2Prog
import Derived.Shelf.Slices.SearchI
import Derived.Ground.SlgnProg
import Derived.Shelf.SlicesE.Reverse
import Derived.Laws.Externs
import Derived.Shelf.Spec.BitsCarry
namespace Go.Proofs.YtpmlihhofmblpaaGreatDoor
namespace Wn

/-- The base. -/
def B : Nat := 18446744073709551616
theorem B_pos : 0 < B := by decide
theorem B_two : 2 ≤ B := by decide
/-- The number of a row of digits. -/
def num : List Nat → Nat
  | [] => 0
  | d :: r => d + B * num r
/-- Digits of the base. -/
def Dig (l : List Nat) : Prop := ∀ d ∈ l, d < B
/-- No zero at the end. -/
def Trim (l : List Nat) : Prop := l.getLast? ≠ some 0
theorem Dig.nil : Dig [] := fun _ h => by cases h
theorem Dig.cons {d : Nat} {l : List Nat} : Dig (d :: l) ↔ d < B ∧ Dig l := List.forall_mem_cons
theorem Dig.app {l r : List Nat} : Dig (l ++ r) ↔ Dig l ∧ Dig r := List.forall_mem_append
theorem Dig.take {l : List Nat} (h : Dig l) (k : Nat) : Dig (l.take k) := fun d hd => h d (List.mem_of_mem_take hd)
theorem Dig.drop {l : List Nat} (h : Dig l) (k : Nat) : Dig (l.drop k) := fun d hd => h d (List.mem_of_mem_drop hd)
theorem num_append (l r : List Nat) : num (l ++ r) = num l + B ^ l.length * num r := by
  induction l with
  | nil => simp [num]
  | cons d l ih => show d + B * num (l ++ r) = _; rw [ih, List.length_cons, Nat.pow_succ, num, Nat.mul_add, Nat.mul_comm (B ^ l.length) B, Nat.mul_assoc]; omega
theorem num_lt {l : List Nat} (h : Dig l) : num l < B ^ l.length := by
  induction l with
  | nil => simp [num]
  | cons d l ih =>
    obtain ⟨h1, h2⟩ := Dig.cons.1 h
    have := ih h2
    rw [num, List.length_cons, Nat.pow_succ, Nat.mul_comm (B ^ l.length) B]
    have h3 : B * (num l + 1) ≤ B * B ^ l.length := Nat.mul_le_mul_left B this
    rw [Nat.mul_add] at h3
    omega
theorem num_zeros (k : Nat) : num (List.replicate k 0) = 0 := by
  induction k with
  | zero => rfl
  | succ k ih => rw [List.replicate_succ, num, ih]; rfl
theorem dig_zeros (k : Nat) : Dig (List.replicate k 0) := fun d hd => by rw [(List.mem_replicate.1 hd).2]; exact B_pos
/-- Rows of one length with one number are one. -/
theorem num_inj : ∀ {l r : List Nat}, Dig l → Dig r → l.length = r.length → num l = num r → l = r := by
  intro l
  induction l with
  | nil => intro r _ _ hl _; exact (List.eq_nil_of_length_eq_zero hl.symm).symm
  | cons d l ih =>
    intro r h1 h2 hl hn
    rcases r with _ | ⟨e, r⟩
    · simp at hl
    · obtain ⟨h3, h4⟩ := Dig.cons.1 h1
      obtain ⟨h5, h6⟩ := Dig.cons.1 h2
      rw [num, num] at hn
      have e1 : (d + B * num l) % B = d := by rw [Nat.add_mul_mod_self_left, Nat.mod_eq_of_lt h3]
      have e2 : (e + B * num r) % B = e := by rw [Nat.add_mul_mod_self_left, Nat.mod_eq_of_lt h5]
      have hde : d = e := by rw [← e1, ← e2, hn]
      subst hde
      have : num l = num r := Nat.eq_of_mul_eq_mul_left B_pos (by omega)
      rw [ih h4 h6 (by simpa using hl) this]
/-- The digits of a number, none of them a zero at the end. -/
def digW (n : Nat) : List Nat := if _h : n = 0 then [] else n % B :: digW (n / B)
termination_by n
decreasing_by exact Nat.div_lt_self (by omega) B_two
theorem digW_zero : digW 0 = [] := by rw [digW, dif_pos rfl]
theorem digW_pos {n : Nat} (h : n ≠ 0) : digW n = n % B :: digW (n / B) := by rw [digW, dif_neg h]
theorem digW_facts (n : Nat) : num (digW n) = n ∧ Dig (digW n) ∧ Trim (digW n) := by
  induction n using Nat.strongRecOn with
  | _ n ih =>
    by_cases h : n = 0
    · subst h; rw [digW_zero]; exact ⟨rfl, Dig.nil, by simp [Trim]⟩
    · have hd := Nat.div_lt_self (by omega : 0 < n) B_two
      obtain ⟨h1, h2, h3⟩ := ih _ hd
      rw [digW_pos h]
      refine ⟨by rw [num, h1]; exact Nat.mod_add_div n B, Dig.cons.2 ⟨Nat.mod_lt _ B_pos, h2⟩, ?_⟩
      unfold Trim
      by_cases hz : n / B = 0
      · rw [hz, digW_zero]
        have : n % B = n := Nat.mod_eq_of_lt (by rcases Nat.lt_or_ge n B with h | h; exact h; have := Nat.div_pos h B_pos; omega)
        simp [this, h]
      · rw [digW_pos hz] at h3 ⊢
        unfold Trim at h3
        rw [List.getLast?_cons_cons]
        exact h3
theorem num_digW (n : Nat) : num (digW n) = n := (digW_facts n).1
theorem dig_digW (n : Nat) : Dig (digW n) := (digW_facts n).2.1
theorem trim_digW (n : Nat) : Trim (digW n) := (digW_facts n).2.2
theorem trim_ge {l : List Nat} (ht : Trim l) (h0 : l ≠ []) : B ^ (l.length - 1) ≤ num l := by
  obtain ⟨r, d, rfl⟩ : ∃ r d, l = r ++ [d] := ⟨l.dropLast, l.getLast h0, (List.dropLast_concat_getLast h0).symm⟩
  have hd : d ≠ 0 := by intro e; apply ht; simp [e]
  rw [num_append, List.length_append, List.length_singleton, Nat.add_sub_cancel]
  have : B ^ r.length * 1 ≤ B ^ r.length * num [d] := Nat.mul_le_mul_left _ (by simp [num]; omega)
  omega
theorem pow_lt_len {a b : Nat} (h : B ^ a < B ^ b) : a < b := (Nat.pow_lt_pow_iff_right B_two).1 h
/-- A trimmed row of digits is the row of its number. -/
theorem digW_num {l : List Nat} (hd : Dig l) (ht : Trim l) : digW (num l) = l := by
  have h1 := num_digW (num l)
  have h2 := dig_digW (num l)
  have h3 := trim_digW (num l)
  have hlen : (digW (num l)).length = l.length := by
    rcases Nat.lt_trichotomy (digW (num l)).length l.length with h | h | h
    · exfalso
      have hne : l ≠ [] := by intro e; subst e; simp at h
      have e1 := trim_ge ht hne
      have e2 := num_lt h2
      rw [h1] at e2
      have := pow_lt_len (Nat.lt_of_le_of_lt e1 e2)
      omega
    · exact h
    · exfalso
      have hne : digW (num l) ≠ [] := by intro e; rw [e] at h; simp at h
      have e1 := trim_ge h3 hne
      have e2 := num_lt hd
      rw [h1] at e1
      have := pow_lt_len (Nat.lt_of_le_of_lt e1 e2)
      omega
  exact num_inj h2 hd hlen h1
theorem digW_len {n k : Nat} (h : n < B ^ k) : (digW n).length ≤ k := by
  by_cases h0 : digW n = []
  · rw [h0]; exact Nat.zero_le _
  · have e1 := trim_ge (trim_digW n) h0
    rw [num_digW] at e1
    have := pow_lt_len (Nat.lt_of_le_of_lt e1 h)
    omega
theorem digW_lt (n : Nat) : n < B ^ (digW n).length := by have := num_lt (dig_digW n); rwa [num_digW] at this
theorem digW_ge {n : Nat} (h : n ≠ 0) : 0 < (digW n).length ∧ B ^ ((digW n).length - 1) ≤ n := by
  have h0 : digW n ≠ [] := by rw [digW_pos h]; simp
  have e1 := trim_ge (trim_digW n) h0
  rw [num_digW] at e1
  exact ⟨List.length_pos_iff.2 h0, e1⟩
theorem digW_one {n : Nat} (h : n ≠ 0) (hB : n < B) : digW n = [n] := by
  rw [digW_pos h, Nat.mod_eq_of_lt hB, Nat.div_eq_of_lt hB, digW_zero]
/-- The longest beginning without a zero at its end. -/
theorem trim_take {l : List Nat} (hd : Dig l) {k : Nat} (hz : num (l.take k) = num l) (ht : Trim (l.take k)) : l.take k = digW (num l) := by
  rw [← hz, digW_num (hd.take k) ht]
theorem take_drop_zero {l : List Nat} {k : Nat} (hk : k < l.length) (hz : num (l.take (k + 1)) = num l) (h0 : l[k] = 0) : num (l.take k) = num l := by
  rw [← hz, List.take_succ_eq_append_getElem hk, num_append, h0]; simp [num]

/-- Adding f times a row to a row, word by word; what is carried on. -/
def addTL : List Nat → List Nat → Nat → Nat → List Nat × Nat
  | [], _, _, c => ([], c)
  | x :: xs, ys, f, c =>
    let r := addTL xs ys.tail f ((x + (ys.headD 0 * f + c)) / B)
    ((x + (ys.headD 0 * f + c)) % B :: r.1, r.2)
theorem num_headD (ys : List Nat) : num ys = ys.headD 0 + B * num ys.tail := by cases ys <;> simp [num]
theorem addTL_len : ∀ (xs ys : List Nat) (f c : Nat), (addTL xs ys f c).1.length = xs.length := by
  intro xs
  induction xs with
  | nil => intros; rfl
  | cons x xs ih => intro ys f c; simp only [addTL, List.length_cons, ih]
theorem addTL_dig : ∀ (xs ys : List Nat) (f c : Nat), Dig (addTL xs ys f c).1 := by
  intro xs
  induction xs with
  | nil => intros; exact Dig.nil
  | cons x xs ih => intro ys f c; exact Dig.cons.2 ⟨Nat.mod_lt _ B_pos, ih _ _ _⟩
theorem addTL_num : ∀ (xs ys : List Nat) (f c : Nat), ys.length ≤ xs.length → num (addTL xs ys f c).1 + B ^ xs.length * (addTL xs ys f c).2 = num xs + f * num ys + c := by
  intro xs
  induction xs with
  | nil => intro ys f c h; obtain rfl : ys = [] := List.eq_nil_of_length_eq_zero (by simpa using h); simp [addTL, num]
  | cons x xs ih =>
    intro ys f c h
    have h1 := ih ys.tail f ((x + (ys.headD 0 * f + c)) / B) (by rw [List.length_tail]; simp at h; omega)
    simp only [addTL, num, List.length_cons]
    rw [num_headD ys, Nat.pow_succ]
    have h2 := Nat.mod_add_div (x + (ys.headD 0 * f + c)) B
    generalize (x + (ys.headD 0 * f + c)) / B = q at *
    generalize (x + (ys.headD 0 * f + c)) % B = m at *
    generalize (addTL xs ys.tail f q).1 = r1 at *
    generalize (addTL xs ys.tail f q).2 = r2 at *
    have e : B * (num r1 + B ^ xs.length * r2) = B * (num xs + f * num ys.tail + q) := by rw [h1]
    rw [Nat.mul_add, Nat.mul_add, Nat.mul_add] at e
    have e2 : B ^ xs.length * B * r2 = B * (B ^ xs.length * r2) := by rw [Nat.mul_comm (B ^ xs.length) B, Nat.mul_assoc]
    have e3 : f * (ys.headD 0 + B * num ys.tail) = ys.headD 0 * f + B * (f * num ys.tail) := by rw [Nat.mul_add, Nat.mul_comm f, Nat.mul_left_comm]
    rw [e2, e3]
    omega
theorem headD_lt {ys : List Nat} (h : Dig ys) : ys.headD 0 < B := by cases ys with | nil => exact B_pos | cons y r => exact (Dig.cons.1 h).1
/-- What is carried is a digit again. -/
theorem carry_lt {x y f c : Nat} (hx : x < B) (hy : y < B) (hf : f < B) (hc : c < B) : (x + (y * f + c)) / B < B := by
  rw [Nat.div_lt_iff_lt_mul B_pos]
  have h1 : y * f ≤ (B - 1) * (B - 1) := Nat.mul_le_mul (by omega) (by omega)
  have h2 : (B - 1) * (B - 1) + 2 * (B - 1) + 1 = B * B := by decide
  omega
theorem addTL_carry : ∀ (xs ys : List Nat) (f c : Nat), Dig xs → Dig ys → f < B → c < B → (addTL xs ys f c).2 < B := by
  intro xs
  induction xs with
  | nil => intro ys f c _ _ _ hc; exact hc
  | cons x xs ih =>
    intro ys f c hx hy hf hc
    obtain ⟨h1, h2⟩ := Dig.cons.1 hx
    exact ih ys.tail f _ h2 (fun d hd => hy d (List.mem_of_mem_tail hd)) hf (carry_lt h1 (headD_lt hy) hf hc)
/-- Nothing is carried where the sum fits. -/
theorem addTL_fits {xs ys : List Nat} {f : Nat} (hl : ys.length ≤ xs.length) (h : num xs + f * num ys < B ^ xs.length) : num (addTL xs ys f 0).1 = num xs + f * num ys ∧ (addTL xs ys f 0).2 = 0 := by
  have h1 := addTL_num xs ys f 0 hl
  rw [Nat.add_zero] at h1
  have h2 : (addTL xs ys f 0).2 = 0 := by
    rcases Nat.eq_zero_or_pos (addTL xs ys f 0).2 with h0 | h0
    · exact h0
    · have : B ^ xs.length * 1 ≤ B ^ xs.length * (addTL xs ys f 0).2 := Nat.mul_le_mul_left _ h0
      omega
  rw [h2] at h1
  exact ⟨by omega, h2⟩

/-- Taking f times a row from a row, word by word; what is borrowed. -/
def subTL : List Nat → List Nat → Nat → Nat → List Nat × Nat
  | [], _, _, c => ([], c)
  | x :: xs, ys, f, c =>
    let p := ys.headD 0 * f + c
    let r := subTL xs ys.tail f (p / B + if x < p % B then 1 else 0)
    ((x + B - p % B) % B :: r.1, r.2)
theorem subTL_len : ∀ (xs ys : List Nat) (f c : Nat), (subTL xs ys f c).1.length = xs.length := by
  intro xs
  induction xs with
  | nil => intros; rfl
  | cons x xs ih => intro ys f c; simp only [subTL, List.length_cons, ih]
theorem subTL_dig : ∀ (xs ys : List Nat) (f c : Nat), Dig (subTL xs ys f c).1 := by
  intro xs
  induction xs with
  | nil => intros; exact Dig.nil
  | cons x xs ih => intro ys f c; exact Dig.cons.2 ⟨Nat.mod_lt _ B_pos, ih _ _ _⟩
theorem subTL_num : ∀ (xs ys : List Nat) (f c : Nat), Dig xs → ys.length ≤ xs.length → num (subTL xs ys f c).1 + f * num ys + c = num xs + B ^ xs.length * (subTL xs ys f c).2 := by
  intro xs
  induction xs with
  | nil => intro ys f c _ h; obtain rfl : ys = [] := List.eq_nil_of_length_eq_zero (by simpa using h); simp [subTL, num]
  | cons x xs ih =>
    intro ys f c hd h
    obtain ⟨hx, hxs⟩ := Dig.cons.1 hd
    have h1 := ih ys.tail f ((ys.headD 0 * f + c) / B + if x < (ys.headD 0 * f + c) % B then 1 else 0) hxs (by rw [List.length_tail]; simp at h; omega)
    simp only [subTL, num, List.length_cons]
    rw [num_headD ys, Nat.pow_succ]
    have h2 := Nat.mod_add_div (ys.headD 0 * f + c) B
    have h3 := Nat.mod_lt (ys.headD 0 * f + c) B_pos
    generalize (ys.headD 0 * f + c) / B = q at *
    generalize (ys.headD 0 * f + c) % B = m at *
    have h4 : (x + B - m) % B + m = x + B * (if x < m then 1 else 0) := by
      by_cases hm : x < m
      · rw [if_pos hm, Nat.mod_eq_of_lt (by omega)]; omega
      · rw [if_neg hm, show x + B - m = (x - m) + B by omega, Nat.add_mod_right, Nat.mod_eq_of_lt (by omega)]; omega
    generalize (x + B - m) % B = z at *
    generalize (if x < m then 1 else 0) = b at *
    generalize (subTL xs ys.tail f (q + b)).1 = r1 at *
    generalize (subTL xs ys.tail f (q + b)).2 = r2 at *
    have e : B * (num r1 + f * num ys.tail + (q + b)) = B * (num xs + B ^ xs.length * r2) := by rw [h1]
    rw [Nat.mul_add, Nat.mul_add, Nat.mul_add, Nat.mul_add] at e
    have e2 : B ^ xs.length * B * r2 = B * (B ^ xs.length * r2) := by rw [Nat.mul_comm (B ^ xs.length) B, Nat.mul_assoc]
    have e3 : f * (ys.headD 0 + B * num ys.tail) = ys.headD 0 * f + B * (f * num ys.tail) := by rw [Nat.mul_add, Nat.mul_comm f, Nat.mul_left_comm]
    rw [e2, e3]
    omega
theorem borrow_lt {x y f c : Nat} (hy : y < B) (hf : f < B) (hc : c < B) : (y * f + c) / B + (if x < (y * f + c) % B then 1 else 0) < B := by
  have h1 : y * f ≤ (B - 1) * (B - 1) := Nat.mul_le_mul (by omega) (by omega)
  have h2 : (B - 1) * (B - 1) + (B - 1) = (B - 1) * B := by decide
  have h3 : (y * f + c) / B ≤ B - 1 := by
    have : y * f + c ≤ (B - 1) * B := by omega
    exact Nat.div_le_of_le_mul (by rw [Nat.mul_comm B (B - 1)]; exact this)
  by_cases h4 : (y * f + c) / B = B - 1
  · have h5 := Nat.div_add_mod (y * f + c) B
    rw [h4] at h5
    have h6 : B * (B - 1) = (B - 1) * B := Nat.mul_comm _ _
    have h7 : (y * f + c) % B = 0 := by omega
    rw [h7, if_neg (Nat.not_lt_zero _)]
    have := B_pos
    omega
  · have : (if x < (y * f + c) % B then 1 else 0) ≤ 1 := by split <;> omega
    omega
theorem subTL_fits {xs ys : List Nat} {f : Nat} (hd : Dig xs) (hl : ys.length ≤ xs.length) (h : f * num ys ≤ num xs) : num (subTL xs ys f 0).1 = num xs - f * num ys ∧ (subTL xs ys f 0).2 = 0 := by
  have h1 := subTL_num xs ys f 0 hd hl
  rw [Nat.add_zero] at h1
  have h3 := num_lt (subTL_dig xs ys f 0)
  rw [subTL_len] at h3
  have h2 : (subTL xs ys f 0).2 = 0 := by
    rcases Nat.eq_zero_or_pos (subTL xs ys f 0).2 with h0 | h0
    · exact h0
    · have : B ^ xs.length * 1 ≤ B ^ xs.length * (subTL xs ys f 0).2 := Nat.mul_le_mul_left _ h0
      omega
  rw [h2] at h1
  exact ⟨by omega, h2⟩
end Wn
end Go.Proofs.YtpmlihhofmblpaaGreatDoor

namespace Go.Proofs.YtpmlihhofmblpaaGreatDoor.Hm
end Go.Proofs.YtpmlihhofmblpaaGreatDoor.Hm
/- The byte encodings of integers as plain functions on lists of bytes, and what holds of them; no program is named here. -/
namespace Go.Proofs.YtpmlihhofmblpaaGreatDoor.Wm

/-- The digits of a number in base 128, the least first; all but the last one plus 128. 'f' bounds the steps. -/
def digF : Nat → Nat → List UInt8
  | 0, z => [UInt8.ofNat z]
  | f + 1, z => if z < 128 then [UInt8.ofNat z] else UInt8.ofNat (z % 128 + 128) :: digF f (z / 128)
def dig (z : Nat) : List UInt8 := digF z z

theorem digF_fuel : ∀ (f g z : Nat), z ≤ f → z ≤ g → digF f z = digF g z := by
  intro f
  induction f with
  | zero =>
    intro g z hf _
    obtain rfl : z = 0 := by omega
    cases g <;> simp [digF]
  | succ f ih =>
    intro g z hf hg
    cases g with
    | zero =>
      obtain rfl : z = 0 := by omega
      simp [digF]
    | succ g =>
      simp only [digF]
      split
      · rfl
      · rw [ih g (z / 128) (by omega) (by omega)]

theorem dig_one {z : Nat} (h : z < 128) : dig z = [UInt8.ofNat z] := by
  unfold dig
  cases z with
  | zero => rfl
  | succ z => simp only [digF]; rw [if_pos h]

theorem dig_more {z : Nat} (h : 128 ≤ z) : dig z = UInt8.ofNat (z % 128 + 128) :: dig (z / 128) := by
  unfold dig
  cases z with
  | zero => omega
  | succ z =>
    simp only [digF]
    rw [if_neg (by omega), digF_fuel z ((z + 1) / 128) ((z + 1) / 128) (by omega) (Nat.le_refl _)]

theorem dig_pos (z : Nat) : 0 < (dig z).length := by
  rcases Nat.lt_or_ge z 128 with h | h
  · rw [dig_one h]; simp
  · rw [dig_more h]; simp

theorem dig_le : ∀ (k z : Nat), z < 128 ^ (k + 1) → (dig z).length ≤ k + 1 := by
  intro k
  induction k with
  | zero => intro z h; rw [dig_one (by simpa using h)]; simp
  | succ k ih =>
    intro z h
    rcases Nat.lt_or_ge z 128 with h1 | h1
    · rw [dig_one h1]; simp
    · rw [dig_more h1]
      have h2 : z / 128 < 128 ^ (k + 1) := by
        have : 128 ^ (k + 1 + 1) = 128 ^ (k + 1) * 128 := Nat.pow_succ ..
        omega
      have := ih _ h2
      simp; omega

theorem dig_ge : ∀ (k z : Nat), 128 ^ k ≤ z → k + 1 ≤ (dig z).length := by
  intro k
  induction k with
  | zero => intro z _; exact dig_pos z
  | succ k ih =>
    intro z h
    have h0 : 128 ^ (k + 1) = 128 ^ k * 128 := Nat.pow_succ ..
    have h00 : 0 < 128 ^ k := Nat.pow_pos (by omega)
    have h1 : 128 ≤ z := by omega
    rw [dig_more h1]
    have h2 : 128 ^ k ≤ z / 128 := by omega
    have := ih _ h2
    simp; omega

theorem dig_mono {x y : Nat} (h : x ≤ y) : (dig x).length ≤ (dig y).length := by
  rcases Nat.lt_or_ge ((dig y).length) ((dig x).length) with hlt | hge
  · exfalso
    have hp := dig_pos y
    obtain ⟨k, hk⟩ : ∃ k, (dig y).length = k + 1 := ⟨(dig y).length - 1, by omega⟩
    rcases Nat.lt_or_ge y (128 ^ (k + 1)) with h1 | h1
    · have := dig_le k x (by omega)
      omega
    · have := dig_ge (k + 1) y h1
      omega
  · exact hge

/-- An integer as a natural number, and back. -/
def zig (n : Int) : Nat := if n < 0 then (-2 * n - 1).toNat else (2 * n).toNat
def zag (z : Nat) : Int := if z % 2 = 1 then -((z / 2 : Nat) : Int) - 1 else ((z / 2 : Nat) : Int)
theorem zag_zig (n : Int) : zag (zig n) = n := by
  unfold zag zig
  split <;> split <;> omega
theorem zig_zag (z : Nat) : zig (zag z) = z := by
  unfold zag zig
  split <;> split <;> omega
theorem zig_lt {n : Int} (h : -9223372036854775808 ≤ n) (h' : n ≤ 9223372036854775807) : zig n < 18446744073709551616 := by
  unfold zig; split <;> omega
theorem zag_in {z : Nat} (h : z < 18446744073709551616) : -9223372036854775808 ≤ zag z ∧ zag z ≤ 9223372036854775807 := by
  unfold zag; split <;> omega
theorem zig_inj {m n : Int} (h : zig m = zig n) : m = n := by rw [← zag_zig m, h, zag_zig]
theorem zig_even {n : Nat} : zig (n : Int) = 2 * n := by unfold zig; rw [if_neg (by omega)]; omega

def enc (n : Int) : List UInt8 := dig (zig n)
theorem enc_pos (n : Int) : 0 < (enc n).length := dig_pos _
theorem enc_le {n : Int} (h : -9223372036854775808 ≤ n) (h' : n ≤ 9223372036854775807) : (enc n).length ≤ 10 :=
  dig_le 9 _ (Nat.lt_trans (zig_lt h h') (by decide))

/-- What is decoded from place i of an encoding on: the number, how many bytes, the error (0, 10, 11). -/
def gz : Nat → List UInt8 → Nat × Nat × Nat
  | _, [] => (0, 0, 10)
  | i, c :: r =>
    if (i = 9 ∧ 1 < c.toNat) ∨ (0 < i ∧ c.toNat = 0) then (0, 0, 11)
    else if c.toNat < 128 then (c.toNat, 1, 0)
    else if (gz (i + 1) r).2.2 = 0 then (c.toNat % 128 + 128 * (gz (i + 1) r).1, (gz (i + 1) r).2.1 + 1, 0)
    else (0, 0, (gz (i + 1) r).2.2)

theorem gz_err : ∀ (l : List UInt8) (i : Nat), (gz i l).2.2 = 0 ∨ (gz i l).2.2 = 10 ∨ (gz i l).2.2 = 11 := by
  intro l
  induction l with
  | nil => intro i; simp [gz]
  | cons c r ih =>
    intro i
    simp only [gz]
    split
    · simp
    · split
      · simp
      · split
        · simp
        · exact ih _

theorem gz_bad : ∀ (l : List UInt8) (i : Nat), (gz i l).2.2 ≠ 0 → (gz i l).1 = 0 ∧ (gz i l).2.1 = 0 := by
  intro l
  cases l with
  | nil => intro i _; simp [gz]
  | cons c r =>
    intro i
    simp only [gz]
    split
    · simp
    · split
      · simp
      · split
        · simp
        · simp

theorem gz_used : ∀ (l : List UInt8) (i : Nat), i ≤ 9 → (gz i l).2.2 = 0 → 1 ≤ (gz i l).2.1 ∧ (gz i l).2.1 ≤ l.length ∧ (gz i l).2.1 + i ≤ 10 := by
  intro l
  induction l with
  | nil => intro i _ h; simp [gz] at h
  | cons c r ih =>
    intro i hi h
    simp only [gz] at h ⊢
    split
    · rename_i h1; rw [if_pos h1] at h; simp at h
    · rename_i h1
      rw [if_neg h1] at h
      split
      · simp; omega
      · rename_i h2
        rw [if_neg h2] at h
        split
        · rename_i h3
          have := ih (i + 1) (by omega) h3
          simp; omega
        · rename_i h3
          rw [if_neg h3] at h
          exact absurd h h3

theorem ofNat_toNat {n : Nat} (h : n < 256) : (UInt8.ofNat n).toNat = n := by
  rw [UInt8.toNat_ofNat']; omega

/-- What is decoded is written by those bytes, and no others. -/
theorem gz_dig : ∀ (l : List UInt8) (i : Nat), i ≤ 9 → (gz i l).2.2 = 0 → l.take (gz i l).2.1 = dig (gz i l).1 ∧ (gz i l).1 * 128 ^ i < 18446744073709551616 ∧ (0 < i → 0 < (gz i l).1) := by
  intro l
  induction l with
  | nil => intro i _ h; simp [gz] at h
  | cons c r ih =>
    intro i hi h
    have hc := c.toNat_lt
    simp only [gz] at h ⊢
    split
    · rename_i h1; rw [if_pos h1] at h; simp at h
    · rename_i h1
      rw [if_neg h1] at h
      split
      · rename_i h2
        refine ⟨?_, ?_, ?_⟩
        · rw [dig_one h2]; simp
        · show c.toNat * 128 ^ i < _
          have hcase : i = 9 ∨ i ≤ 8 := by omega
          rcases hcase with rfl | h8
          · have : c.toNat ≤ 1 := by omega
            have := Nat.mul_le_mul_right (128 ^ 9) this
            have e : (128 : Nat) ^ 9 = 9223372036854775808 := by decide
            omega
          · have : (128 : Nat) ^ i ≤ 128 ^ 8 := Nat.pow_le_pow_right (by omega) h8
            have e : (128 : Nat) ^ 8 = 72057594037927936 := by decide
            have h3 : c.toNat * 128 ^ i ≤ 127 * 128 ^ 8 := Nat.mul_le_mul (by omega) this
            omega
        · intro _; show 0 < c.toNat; omega
      · rename_i h2
        rw [if_neg h2] at h
        split
        · rename_i h3
          have hi9 : i ≤ 8 := by
            rcases Nat.lt_or_ge i 9 with h9 | h9
            · omega
            · exfalso; exact h1 (.inl ⟨by omega, by omega⟩)
          obtain ⟨a, b, d⟩ := ih (i + 1) (by omega) h3
          have d' := d (by omega)
          have hz : (c.toNat % 128 + 128 * (gz (i + 1) r).1) / 128 = (gz (i + 1) r).1 := by omega
          have hm : (c.toNat % 128 + 128 * (gz (i + 1) r).1) % 128 + 128 = c.toNat := by omega
          refine ⟨?_, ?_, ?_⟩
          · show (c :: r).take ((gz (i + 1) r).2.1 + 1) = dig (c.toNat % 128 + 128 * (gz (i + 1) r).1)
            rw [dig_more (by omega), hz, hm, List.take_succ_cons, a]
            simp
          · show (c.toNat % 128 + 128 * (gz (i + 1) r).1) * 128 ^ i < _
            have e : (128 : Nat) ^ (i + 1) = 128 ^ i * 128 := Nat.pow_succ ..
            rw [e] at b
            have h4 : (c.toNat % 128 + 128 * (gz (i + 1) r).1) * 128 ^ i < (128 * (gz (i + 1) r).1 + 128) * 128 ^ i := Nat.mul_lt_mul_of_pos_right (by omega) (Nat.pow_pos (by omega))
            have h5 : (128 * (gz (i + 1) r).1 + 128) * 128 ^ i = ((gz (i + 1) r).1 * (128 ^ i * 128)) + 128 ^ i * 128 := by
              rw [Nat.add_mul, Nat.mul_comm 128 (gz (i + 1) r).1, Nat.mul_assoc, Nat.mul_comm 128 (128 ^ i)]
            -- both sides are multiples of 128 ^ (i + 1) but for the bound: the bound is one for i ≤ 8
            have h6 : (128 : Nat) ^ i * 128 ∣ 18446744073709551616 := by
              have : i = 0 ∨ i = 1 ∨ i = 2 ∨ i = 3 ∨ i = 4 ∨ i = 5 ∨ i = 6 ∨ i = 7 ∨ i = 8 := by omega
              rcases this with rfl | rfl | rfl | rfl | rfl | rfl | rfl | rfl | rfl <;> decide
            obtain ⟨q, hq⟩ := h6
            rw [hq] at b ⊢
            have hpos : 0 < (128 : Nat) ^ i * 128 := Nat.mul_pos (Nat.pow_pos (by omega)) (by omega)
            have hlt : (gz (i + 1) r).1 < q := by
              rw [Nat.mul_comm] at b
              exact Nat.lt_of_mul_lt_mul_left b
            have h7 : ((gz (i + 1) r).1 + 1) * (128 ^ i * 128) ≤ q * (128 ^ i * 128) := Nat.mul_le_mul_right _ hlt
            rw [Nat.add_mul, Nat.one_mul] at h7
            rw [Nat.mul_comm (128 ^ i * 128) q]
            omega
          · intro _; show 0 < c.toNat % 128 + 128 * (gz (i + 1) r).1; omega
        · rename_i h3
          rw [if_neg h3] at h
          exact absurd h h3

/-- The digits of a number are decoded to it, whatever follows. -/
theorem gz_of : ∀ (z i : Nat) (r : List UInt8), i ≤ 9 → z * 128 ^ i < 18446744073709551616 → (0 < i → 0 < z) → gz i (dig z ++ r) = (z, (dig z).length, 0) := by
  intro z
  induction z using Nat.strongRecOn with
  | ind z ih =>
    intro i r hi hz h0
    rcases Nat.lt_or_ge z 128 with h1 | h1
    · have hb : ¬ ((i = 9 ∧ 1 < z) ∨ (0 < i ∧ z = 0)) := by
        intro h
        rcases h with ⟨rfl, h⟩ | ⟨h, h'⟩
        · have e : (128 : Nat) ^ 9 = 9223372036854775808 := by decide
          omega
        · have := h0 h; omega
      rw [dig_one h1]
      have ht : (UInt8.ofNat z).toNat = z := ofNat_toNat (by omega)
      simp only [List.cons_append, List.nil_append, gz, ht, if_neg hb, if_pos h1, List.length_cons, List.length_nil]
    · have hi8 : i ≤ 8 := by
        rcases Nat.lt_or_ge i 9 with h9 | h9
        · omega
        · obtain rfl : i = 9 := by omega
          have e : (128 : Nat) ^ 9 = 9223372036854775808 := by decide
          omega
      have hz' : z / 128 * 128 ^ (i + 1) < 18446744073709551616 := by
        have e : (128 : Nat) ^ (i + 1) = 128 * 128 ^ i := by rw [Nat.pow_succ, Nat.mul_comm]
        rw [e, ← Nat.mul_assoc]
        exact Nat.lt_of_le_of_lt (Nat.mul_le_mul_right _ (Nat.div_mul_le_self z 128)) hz
      have hr := ih (z / 128) (by omega) (i + 1) r (by omega) hz' (by omega)
      rw [dig_more h1]
      have ht : (UInt8.ofNat (z % 128 + 128)).toNat = z % 128 + 128 := ofNat_toNat (by omega)
      have hb : ¬ ((i = 9 ∧ 1 < z % 128 + 128) ∨ (0 < i ∧ z % 128 + 128 = 0)) := by omega
      have hb2 : ¬ (z % 128 + 128 < 128) := by omega
      simp only [List.cons_append, gz, ht, if_neg hb, if_neg hb2, hr, if_pos, List.length_cons]
      have h3 : (z % 128 + 128) % 128 + 128 * (z / 128) = z := by omega
      rw [h3]

/-- A proper beginning of the digits is not decoded. -/
theorem gz_short : ∀ (z i k : Nat), i ≤ 9 → z * 128 ^ i < 18446744073709551616 → (0 < i → 0 < z) → k < (dig z).length → gz i ((dig z).take k) = (0, 0, 10) := by
  intro z
  induction z using Nat.strongRecOn with
  | ind z ih =>
    intro i k hi hz h0 hk
    cases k with
    | zero => simp [gz]
    | succ k =>
      rcases Nat.lt_or_ge z 128 with h1 | h1
      · rw [dig_one h1] at hk
        simp at hk
      · have hi8 : i ≤ 8 := by
          rcases Nat.lt_or_ge i 9 with h9 | h9
          · omega
          · obtain rfl : i = 9 := by omega
            have e : (128 : Nat) ^ 9 = 9223372036854775808 := by decide
            omega
        have hz' : z / 128 * 128 ^ (i + 1) < 18446744073709551616 := by
          have e : (128 : Nat) ^ (i + 1) = 128 * 128 ^ i := by rw [Nat.pow_succ, Nat.mul_comm]
          rw [e, ← Nat.mul_assoc]
          exact Nat.lt_of_le_of_lt (Nat.mul_le_mul_right _ (Nat.div_mul_le_self z 128)) hz
        rw [dig_more h1] at hk ⊢
        have hr := ih (z / 128) (by omega) (i + 1) k (by omega) hz' (by omega) (by simpa using hk)
        have ht : (UInt8.ofNat (z % 128 + 128)).toNat = z % 128 + 128 := ofNat_toNat (by omega)
        have hb : ¬ ((i = 9 ∧ 1 < z % 128 + 128) ∨ (0 < i ∧ z % 128 + 128 = 0)) := by omega
        have hb2 : ¬ (z % 128 + 128 < 128) := by omega
        simp only [List.take_succ_cons, gz, ht, if_neg hb, if_neg hb2, hr]
        simp

/-- What GetInt is to answer: the integer, the bytes that it takes, the error. -/
def gi (l : List UInt8) : Int × Nat × Nat := if (gz 0 l).2.2 = 0 then (zag (gz 0 l).1, (gz 0 l).2.1, 0) else (0, 0, (gz 0 l).2.2)

theorem gi_cases (l : List UInt8) : ((gi l).2.2 = 0 ∧ 1 ≤ (gi l).2.1 ∧ (gi l).2.1 ≤ 10 ∧ (gi l).2.1 ≤ l.length ∧ l.take (gi l).2.1 = enc (gi l).1 ∧ -9223372036854775808 ≤ (gi l).1 ∧ (gi l).1 ≤ 9223372036854775807) ∨ gi l = (0, 0, 10) ∨ gi l = (0, 0, 11) := by
  unfold gi
  by_cases h : (gz 0 l).2.2 = 0
  · left
    rw [if_pos h]
    obtain ⟨a, b, c⟩ := gz_used l 0 (by omega) h
    obtain ⟨d, e, _⟩ := gz_dig l 0 (by omega) h
    have hz : (gz 0 l).1 < 18446744073709551616 := by simpa using e
    have := zag_in hz
    refine ⟨rfl, a, by simpa using c, b, ?_, this.1, this.2⟩
    show l.take (gz 0 l).2.1 = dig (zig (zag (gz 0 l).1))
    rw [zig_zag]; exact d
  · right
    rw [if_neg h]
    rcases gz_err l 0 with h1 | h1 | h1
    · exact absurd h1 h
    · left; rw [h1]
    · right; rw [h1]

theorem gi_enc {n : Int} (h : -9223372036854775808 ≤ n) (h' : n ≤ 9223372036854775807) (r : List UInt8) : gi (enc n ++ r) = (n, (enc n).length, 0) := by
  unfold gi enc
  have hz := zig_lt h h'
  rw [gz_of (zig n) 0 r (by omega) (by simpa using hz) (by omega)]
  simp [zag_zig]
theorem gi_short {n : Int} (h : -9223372036854775808 ≤ n) (h' : n ≤ 9223372036854775807) {k : Nat} (hk : k < (enc n).length) : gi ((enc n).take k) = (0, 0, 10) := by
  unfold gi
  have hz := zig_lt h h'
  rw [show (enc n).take k = (dig (zig n)).take k from rfl, gz_short (zig n) 0 k (by omega) (by simpa using hz) (by omega) hk]
  simp

/-- Of two different integers no encoding begins the other's. -/
theorem enc_begin {m n : Int} (hm : -9223372036854775808 ≤ m) (hm' : m ≤ 9223372036854775807) (hn : -9223372036854775808 ≤ n) (hn' : n ≤ 9223372036854775807)
    (h : (enc m).take (min (enc m).length (enc n).length) = (enc n).take (min (enc m).length (enc n).length)) : m = n := by
  rcases Nat.le_total (enc m).length (enc n).length with hl | hl
  · rw [Nat.min_eq_left hl, List.take_length] at h
    have e : enc n = enc m ++ (enc n).drop (enc m).length := by
      have := (List.take_append_drop (enc m).length (enc n)).symm
      rw [← h] at this; exact this
    have h1 := gi_enc hm hm' ((enc n).drop (enc m).length)
    rw [← e] at h1
    have h2 := gi_enc hn hn' []
    rw [List.append_nil] at h2
    rw [h2] at h1
    exact (Prod.mk.inj h1).1.symm
  · rw [Nat.min_eq_right hl, List.take_length] at h
    have e : enc m = enc n ++ (enc m).drop (enc n).length := by
      have := (List.take_append_drop (enc n).length (enc m)).symm
      rw [h] at this; exact this
    have h1 := gi_enc hn hn' ((enc m).drop (enc n).length)
    rw [← e] at h1
    have h2 := gi_enc hm hm' []
    rw [List.append_nil] at h2
    rw [h2] at h1
    exact (Prod.mk.inj h1).1

end Go.Proofs.YtpmlihhofmblpaaGreatDoor.Wm

/- Words for memory: a slice that reads as a list of cells; rows of bytes. -/
namespace Go.Proofs.YtpmlihhofmblpaaGreatDoor
open Go.RowKit

/-- The cells of a list of bytes. -/
def bc (l : List UInt8) : List Value := l.map fun b => Value.int .u8 b.toNat
theorem bc_len (l : List UInt8) : (bc l).length = l.length := by simp [bc]
theorem bc_app (l r : List UInt8) : bc (l ++ r) = bc l ++ bc r := by simp [bc]
theorem bc_drop (l : List UInt8) (k : Nat) : bc (l.drop k) = (bc l).drop k := by simp [bc, List.map_drop]
theorem bc_take (l : List UInt8) (k : Nat) : bc (l.take k) = (bc l).take k := by simp [bc, List.map_take]
theorem bc_one (l : List UInt8) : ∀ u ∈ bc l, u.oneCell' = true := by
  intro u hu
  simp only [bc, List.mem_map] at hu
  obtain ⟨b, _, rfl⟩ := hu
  rfl
theorem bc_at {l : List UInt8} {k : Nat} (h : k < l.length) : (bc l)[k]? = some (.int .u8 l[k].toNat) := by simp [bc, h]

/-- A slice at A whose first cells are xs. -/
def Rd (w : World) (A : Option Addr) (xs : List Value) : Prop :=
  xs ≠ [] → ∃ b off, A = some ⟨b, off, none⟩ ∧ ∀ (k : Nat) u, xs[k]? = some u → w.cell? ⟨b, off + k, none⟩ = some u

section
variable {w w' : World} {A : Option Addr} {xs : List Value}
theorem Rd.nil (w : World) (A : Option Addr) : Rd w A [] := fun h => absurd rfl h
theorem Rd.at_ (h : Rd w A xs) {k : Nat} {u : Value} (hk : xs[k]? = some u) : ∃ b off, A = some ⟨b, off, none⟩ ∧ w.cell? ⟨b, off + k, none⟩ = some u := by
  have hne : xs ≠ [] := by rintro rfl; simp at hk
  obtain ⟨b, off, hA, hc⟩ := h hne
  exact ⟨b, off, hA, hc k u hk⟩
theorem Rd.below (h : Rd w A xs) (hb : Below w.heap.size w w') : Rd w' A xs := fun hne => by
  obtain ⟨b, off, hA, hc⟩ := h hne
  refine ⟨b, off, hA, fun k u hu => ?_⟩
  have h1 := hc k u hu
  have hlt : b < w.heap.size := World.block_lt_of_cell? w _ h1
  rw [hb.cell (p := ⟨b, off + k, none⟩) hlt]; exact h1
theorem Rd.take (h : Rd w A xs) (n : Nat) : Rd w A (xs.take n) := fun hne => by
  have hx : xs ≠ [] := by rintro rfl; simp at hne
  obtain ⟨b, off, hA, hc⟩ := h hx
  refine ⟨b, off, hA, fun k u hu => hc k u ?_⟩
  rw [List.getElem?_take] at hu
  split at hu
  · exact hu
  · cases hu
theorem Rd.cut (h : Rd w A xs) {k cap : Nat} (hc : xs.length ≤ cap) : Rd w (if cap = k then A else A.map (·.add k)) (xs.drop k) := fun hne => by
  have hlt : k < xs.length := by
    rcases Nat.lt_or_ge k xs.length with h1 | h1
    · exact h1
    · exact absurd (List.drop_eq_nil_of_le h1) hne
  have hx : xs ≠ [] := by rintro rfl; simp at hlt
  obtain ⟨b, off, hA, hcell⟩ := h hx
  subst hA
  rw [if_neg (by omega)]
  refine ⟨b, off + k, ?_, fun j u hu => ?_⟩
  · simp only [Option.map_some]
    congr 1
    unfold Addr.add
    split <;> simp_all
  · rw [List.getElem?_drop] at hu
    have := hcell (k + j) u hu
    rw [Nat.add_assoc]; exact this
theorem Rd.of_row {base : Nat} {e : TypeId} {size n c : Nat} (h : w.ownsRow base e size (.slice A n c) n xs) : Rd w A xs := fun hne => by
  rcases h.2 with ⟨hv, h0⟩ | ⟨g, cap, cur, hv, _, hg, _, _, _, _⟩
  · have := h.1
    subst h0
    exact absurd (List.eq_nil_of_length_eq_zero (by simpa using this)) hne
  · have hA : A = some ⟨g, 0, none⟩ := by injection hv
    subst hA
    refine ⟨g, 0, rfl, fun k u hu => ?_⟩
    have := h.cells (g := g) rfl k u hu
    have hadd : (⟨g, 0, none⟩ : Addr).add k = ⟨g, k, none⟩ := by unfold Addr.add; split <;> simp_all
    rw [hadd] at this
    simpa using this
/-- A new block holds its cells. -/
theorem Rd.of_new (w : World) (cs : List Value) (t : TypeId) : Rd (w.alloc (.cells cs.toArray t)) (some ⟨w.heap.size, 0, none⟩) cs := fun _ => by
  refine ⟨w.heap.size, 0, rfl, fun k u hu => ?_⟩
  rw [cell_of_row (w.alloc (.cells cs.toArray t)) w.heap.size (0 + k) cs.toArray t (0, 0) (heap_alloc_new w _)]
  simpa using hu
theorem Rd.news (h : Rd w A xs) (hne : xs ≠ []) : ∃ a, A = some a ∧ ∀ j u, xs[j]? = some u → w.cell? (a.add j) = some u := by
  obtain ⟨b, off, hA, hc⟩ := h hne
  refine ⟨⟨b, off, none⟩, hA, fun j u hu => ?_⟩
  have hadd : (⟨b, off, none⟩ : Addr).add j = ⟨b, off + j, none⟩ := by unfold Addr.add; split <;> simp_all
  rw [hadd]; exact hc j u hu
end

/-- An own row of bytes, and where its block lies: in the old one's, or among those made since. -/
def OwnB (w : World) (base : Nat) (v : Value) (l : List UInt8) : Prop := w.ownsRow base 5 1 v l.length (bc l)

theorem u8_info : (Tryz.prog.info? 5).map (fun i => (i.zero, i.size, i.bytes)) = some (some (.int .u8 0), 1, 1) := by kernel_rfl

theorem OwnB.nil (w : World) (base : Nat) : OwnB w base (.slice none 0 0) [] := World.ownsRow_nil _ _ _ _
theorem OwnB.rd {w : World} {base : Nat} {A : Option Addr} {c : Nat} {l : List UInt8} (h : OwnB w base (.slice A l.length c) l) : Rd w A (bc l) := Rd.of_row h
/-- What an own row's value looks like. -/
theorem OwnB.form {w : World} {base : Nat} {v : Value} {l : List UInt8} (h : OwnB w base v l) :
    ∃ A c, v = .slice A l.length c ∧ (∀ a, A = some a → base ≤ a.block ∧ a.block < w.heap.size) ∧ l.length ≤ c := by
  rcases h.2 with ⟨rfl, h0⟩ | ⟨g, cap, cur, rfl, hb, hg, hle, _⟩
  · exact ⟨none, 0, by rw [h0], by simp, by omega⟩
  · exact ⟨_, cap, rfl, fun a ha => by injection ha with ha; subst ha; exact ⟨hb, (Array.getElem?_eq_some_iff.1 hg).1⟩, hle⟩
theorem OwnB.kept {w w' : World} {base : Nat} {v : Value} {l : List UInt8} (h : OwnB w base v l) (hb : Below w.heap.size w w') : OwnB w' base v l := by
  refine ⟨h.1, ?_⟩
  rcases h.2 with hn | ⟨g, cap, cur, rfl, hbg, hg, rest⟩
  · exact .inl hn
  · exact .inr ⟨g, cap, cur, rfl, hbg, (hb.block g (Array.getElem?_eq_some_iff.1 hg).1).trans hg, rest⟩

/-- 'append(b, x)' onto an own row of bytes. -/
theorem wpList_push {w : World} {ops : Array Oper} {rest : List Oper} {o : Oper} {a : Act} {Q : Exit → Act → World → Prop} (hgd : o.guard = none) (s x : Operand)
    (ho : o.op = .call { callee := .builtin .append, args := #[s, x], argTypes := #[50, 50] })
    (base : Nat) (v : Value) (l : List UInt8) (hs : a.eval s = v) (hown : OwnB w base v l) (u : Int) (b : UInt8) (hu : u = b.toNat) (hb : base ≤ w.heap.size) (hl : l.length ≤ 70368744177664)
    (hx : a.eval x = .slice (some ⟨w.heap.size, 0, none⟩) 1 1)
    (h : ∀ v' w', OwnB w' base v' (l ++ [b]) → Below base w w' → wpList Tryz.prog ops Q rest (a.put o.dst v') w') :
    wpList Tryz.prog ops Q (o :: rest) a (w.alloc (.cells #[.int .u8 u] 5)) := by
  obtain ⟨i0, hi, hz0, hz1, hz2⟩ := info_parts u8_info
  subst hu
  refine wpList_append_own _ hgd s x 50 ho base 5 i0 (.int .u8 0) 1 1 Tryz.underlying50 hi hz0 hz1 hz2 rfl (by decide) v l.length (bc l) hs (World.ownsRow.alloc hown _)
    ⟨w.heap.size, 0, none⟩ 1 1 [.int .u8 b.toNat] hx rfl (cell_one_new _ _ _) ?_ ?_ ?_ ?_ ?_
  · intro u hu; simp at hu; subst hu; rfl
  · unfold maxLen; omega
  · omega
  · simp; omega
  · intro v' w' h1 h2 _
    refine h v' w' ?_ ?_
    · unfold OwnB
      rw [List.length_append, bc_app]
      exact h1
    · exact (((Below.refl base w).alloc hb _).grown h2 (by simp; omega) (fun k hk => (World.ownsRow.lt hown k hk).1))
end Go.Proofs.YtpmlihhofmblpaaGreatDoor

/- Words for memory: blocks that are known whole; loads, stores and results of arrays and structs in them. -/
namespace Go.Proofs.YtpmlihhofmblpaaGreatDoor
open Go.RowKit Hm

/-- Block g holds just the cells cs, none frozen. -/
def Blk (w : World) (g : Nat) (t : TypeId) (cs : List Value) : Prop := w.heap[g]? = some (.cells cs.toArray t (0, 0))
/-- Nothing but block g has turned. -/
structure Only (g : Nat) (w w' : World) : Prop where
  os : w'.os = w.os
  tape : w'.tape = w.tape
  output : w'.output = w.output
  size : w'.heap.size = w.heap.size
  block : ∀ k, k ≠ g → w'.heap[k]? = w.heap[k]?

section
variable {w w' : World} {g k B : Nat} {t : TypeId} {cs : List Value}
theorem Only.setRow (w : World) (g : Nat) (c : Array Value) : Only g w (w.setRow g c) := ⟨rfl, rfl, rfl, by simp [World.setRow], fun k hk => setRow_other w g k c hk⟩
theorem Only.below (h : Only g w w') (hB : B ≤ g) : Below B w w' := ⟨h.os, h.tape, h.output, Nat.le_of_eq h.size.symm, fun k hk => h.block k (by omega)⟩
theorem Only.blk (h : Only g w w') (hb : Blk w k t cs) (hk : k ≠ g) : Blk w' k t cs := (h.block k hk).trans hb
theorem Blk.lt (h : Blk w g t cs) : g < w.heap.size := by
  rcases Nat.lt_or_ge g w.heap.size with hlt | hge
  · exact hlt
  · unfold Blk at h; rw [Array.getElem?_eq_none hge] at h; cases h
theorem Blk.cell (h : Blk w g t cs) (i : Nat) : w.cell? ⟨g, i, none⟩ = cs[i]? := by
  rw [cell_of_row w g i _ t (0, 0) h]; simp
theorem Blk.frozen (h : Blk w g t cs) (i : Nat) : w.frozen? ⟨g, i, none⟩ = false := by
  unfold Blk at h
  simp [World.frozen?, h]
theorem Blk.new (w : World) (t : TypeId) (cs : List Value) : Blk (w.alloc (.cells cs.toArray t)) w.heap.size t cs := heap_alloc_new w _
theorem Blk.drew (h : Blk w g t cs) : Blk w.drew g t cs := h
theorem Blk.drewN (h : Blk w g t cs) (n : Nat) : Blk (w.drewN n) g t cs := h
theorem Blk.alloc (h : Blk w g t cs) (o : Obj) : Blk (w.alloc o) g t cs := (Below.heap_alloc w o g h.lt).trans h
theorem Blk.far (h : Blk w g t cs) {p : Addr} (hp : g ≠ p.block) (u : Value) : Blk (w.setCell p u) g t cs := (Below.heap_setCell w p u g hp).trans h
theorem Blk.set_ (h : Blk w g t cs) (i : Nat) (u : Value) : Blk (w.setCell ⟨g, i, none⟩ u) g t (cs.set i u) := by
  unfold Blk at h ⊢
  simp [World.setCell, Array.getElem?_modify, h]
theorem Blk.below (h : Blk w g t cs) (hb : Below B w w') (hg : g < B) : Blk w' g t cs := (hb.block g hg).trans h
theorem Blk.next (h : Blk w g t cs) (hb : Below w.heap.size w w') : Blk w' g t cs := h.below hb h.lt
theorem Blk.range (h : Blk w g t cs) (o n : Nat) : w.rangeAt g o ((cs.drop o).take n) := fun j v hv => by
  rw [h.cell (o + j)]
  rw [List.getElem?_take] at hv
  split at hv
  · rwa [List.getElem?_drop] at hv
  · cases hv
theorem drewN_below (h : Below B w w') (n : Nat) : Below B w (w'.drewN n) := ⟨h.os, h.tape, h.output, h.size, h.block⟩
end

section
variable {P : Program}
theorem run_store_part (w : World) (ty : TypeId) (g o : Nat) (t : TypeId) (cur cells : List Value) (hb : Blk w g t cur) (hfit : o + cells.length ≤ cur.length) (hi : (P.info? ty).map (·.size) = some cells.length)
    (h1 : ∀ v ∈ cells, v.oneCell' = true) : (Instr.storeAt ty (.pointer (some ⟨g, o, none⟩)) (.agg cells.toArray)).run P w = .ok () (w.setRow g (splice cur o cells).toArray) := by
  have h := run_storeCells_at P g o t cells 0 cur.toArray w hb (by simpa using hfit) h1
  cases hq : P.info? ty with
  | none => simp [hq] at hi
  | some i =>
    have hs : i.size = cells.length := by simpa [hq] using hi
    have e : (splice cur o cells).toArray = (cur.toArray.toList.take (o + 0) ++ cells ++ cur.toArray.toList.drop (o + 0 + cells.length)).toArray := by simp [splice]
    rw [e, ← h]
    simp [Instr.storeAt, Instr.sureAddr, storeVar, sizeOf, typeInfo, hq, Value.cells, hs]

theorem wp_store_part {w : World} {op : Oper} {a : Act} {K : Act → World → Prop} {Q : Exit → Act → World → Prop} (ty : TypeId) (x y : Operand) (ho : op.op = .store ty x y)
    (g o : Nat) (t : TypeId) (cur cells : List Value) (hx : a.eval x = .pointer (some ⟨g, o, none⟩)) (hy : a.eval y = .agg cells.toArray) (hb : Blk w g t cur) (hfit : o + cells.length ≤ cur.length)
    (hi : (P.info? ty).map (·.size) = some cells.length) (h1 : ∀ v ∈ cells, v.oneCell' = true)
    (h : ∀ w', Blk w' g t (splice cur o cells) → Only g w w' → K (a.put op.dst undef) w') : op.wp P a w K Q := by
  have hrun := run_store_part (P := P) w ty g o t cur cells hb hfit hi h1
  unfold Oper.wp execOp
  simp only [ho, hx, hy, Sem.run_bind, hrun, Result.andThen_ok]
  exact h _ (setRow_heap w g _ _ t _ hb) (Only.setRow w g _)
theorem wpList_store_part {w : World} {ops : Array Oper} {rest : List Oper} {op : Oper} {a : Act} {Q : Exit → Act → World → Prop} (hgd : op.guard = none) (ty : TypeId) (x y : Operand) (ho : op.op = .store ty x y)
    (g o : Nat) (t : TypeId) (cur cells : List Value) (hx : a.eval x = .pointer (some ⟨g, o, none⟩)) (hy : a.eval y = .agg cells.toArray) (hb : Blk w g t cur) (hfit : o + cells.length ≤ cur.length)
    (hi : (P.info? ty).map (·.size) = some cells.length) (h1 : ∀ v ∈ cells, v.oneCell' = true)
    (h : ∀ w', Hid (Blk w' g t (splice cur o cells)) → Only g w w' → wpList P ops Q rest (a.put op.dst undef) w') : wpList P ops Q (op :: rest) a w :=
  wpList_plain hgd fun _ hK => wp_store_part ty x y ho g o t cur cells hx hy hb hfit hi h1 fun w' e1 e2 => hK _ _ (h w' e1 e2)

/-- A whole variable is stored. -/
theorem splice_all {α : Type} (cur cells : List α) (h : cells.length = cur.length) : splice cur 0 cells = cells := by
  unfold splice
  rw [List.drop_eq_nil_of_le (by omega)]; simp
theorem wpList_store_all {w : World} {ops : Array Oper} {rest : List Oper} {op : Oper} {a : Act} {Q : Exit → Act → World → Prop} (hgd : op.guard = none) (ty : TypeId) (x y : Operand) (ho : op.op = .store ty x y)
    (g : Nat) (t : TypeId) (cur cells : List Value) (hx : a.eval x = .pointer (some ⟨g, 0, none⟩)) (hy : a.eval y = .agg cells.toArray) (hb : Blk w g t cur) (hfit : cells.length = cur.length)
    (hi : (P.info? ty).map (·.size) = some cells.length) (h1 : ∀ v ∈ cells, v.oneCell' = true)
    (h : ∀ w', Hid (Blk w' g t cells) → Only g w w' → wpList P ops Q rest (a.put op.dst undef) w') : wpList P ops Q (op :: rest) a w :=
  wpList_store_part hgd ty x y ho g 0 t cur cells hx hy hb (by omega) hi h1 fun w' e1 e2 => h w' (by have := e1.out; rwa [splice_all _ _ hfit] at this) e2

theorem run_load_part (w : World) (ty : TypeId) (g o n : Nat) (t : TypeId) (cur : List Value) (d : TypeDesc) (hb : Blk w g t cur) (hfit : o + n ≤ cur.length) (hu : P.underlying ty = some d) (hd : d.isRow = true)
    (hi : (P.info? ty).map (·.size) = some n) : (Instr.loadAt ty (.pointer (some ⟨g, o, none⟩))).run P w = .ok (.agg ((cur.drop o).take n).toArray) w :=
  run_loadAt_mid w g o ty _ d (hb.range o n) hu hd (by rw [hi, List.length_take, List.length_drop, Nat.min_eq_left (by omega)])
theorem wpList_load_part {w : World} {ops : Array Oper} {rest : List Oper} {op : Oper} {a : Act} {Q : Exit → Act → World → Prop} (hgd : op.guard = none) (ty : TypeId) (x : Operand) (ho : op.op = .load ty x)
    (g o : Nat) (t : TypeId) (cur cs : List Value) (d : TypeDesc) (hx : a.eval x = .pointer (some ⟨g, o, none⟩)) (hb : Blk w g t cur) (hcs : (cur.drop o).take cs.length = cs) (hu : P.underlying ty = some d) (hd : d.isRow = true)
    (hi : (P.info? ty).map (·.size) = some cs.length)
    (h : wpList P ops Q rest (a.put op.dst (.agg cs.toArray)) w) : wpList P ops Q (op :: rest) a w :=
  wpList_load_mid hgd ty x ho g o hx cs d (by have := hb.range o cs.length; rwa [hcs] at this) hu hd hi h
theorem wpList_load_all {w : World} {ops : Array Oper} {rest : List Oper} {op : Oper} {a : Act} {Q : Exit → Act → World → Prop} (hgd : op.guard = none) (ty : TypeId) (x : Operand) (ho : op.op = .load ty x)
    (g : Nat) (t : TypeId) (cs : List Value) (d : TypeDesc) (hx : a.eval x = .pointer (some ⟨g, 0, none⟩)) (hb : Blk w g t cs) (hu : P.underlying ty = some d) (hd : d.isRow = true)
    (hi : (P.info? ty).map (·.size) = some cs.length)
    (h : wpList P ops Q rest (a.put op.dst (.agg cs.toArray)) w) : wpList P ops Q (op :: rest) a w :=
  wpList_load_part hgd ty x ho g 0 t cs cs d hx hb (by simp) hu hd hi h

theorem results_blk {fn : Func} {p : Tmp} {ty : TypeId} (h : fn.results = #[.cell p ty]) (tmps : Array Value) (w : World) (g : Nat) (t : TypeId) (cs : List Value) (d : TypeDesc)
    (hp : tmps.getD p undef = .pointer (some ⟨g, 0, none⟩)) (hg : Blk w g t cs) (hu : P.underlying ty = some d) (hd : d.isRow = true) (hi : (P.info? ty).map (·.size) = some cs.length) :
    (results fn tmps).run P w = .ok (.agg cs.toArray) w :=
  results_cell_row h tmps w g t cs.toArray (0, 0) d hp hg hu (by cases d <;> first | rfl | cases hd) (by simpa using hi)
end

/-- A new variable: its zero value. -/
theorem run_alloc_zero {P : Program} (w : World) (t : TypeId) (Z : List Value) (h : (P.info? t).map (·.zero) = some (some (.agg Z.toArray))) :
    (Instr.alloc t true (.tuple #[])).run P w = .ok (.pointer (some ⟨w.heap.size, 0, none⟩)) (w.alloc (.cells Z.toArray t)) := by
  cases hq : P.info? t with
  | none => simp [hq] at h
  | some i =>
    have hz : i.zero = some (.agg Z.toArray) := by simpa [hq] using h
    have hzv : ∀ W, (zeroValue t).run P W = .ok (.agg Z.toArray) W := fun W => by simp [zeroValue, typeInfo, hq, hz]
    simp only [Instr.alloc, Sem.run_bind, hzv, Result.andThen_ok]
    simp [newVar, newRow, Value.cells]
theorem wpList_alloc_zero {P : Program} {w : World} {ops : Array Oper} {rest : List Oper} {op : Oper} {a : Act} {Q : Exit → Act → World → Prop} (hgd : op.guard = none) (t : TypeId) (ho : op.op = .alloc t) (Z : List Value)
    (hi : (P.info? t).map (·.zero) = some (some (.agg Z.toArray)))
    (h : wpList P ops Q rest (a.put op.dst (.pointer (some ⟨w.heap.size, 0, none⟩))) (w.alloc (.cells Z.toArray t))) : wpList P ops Q (op :: rest) a w :=
  wpList_plain hgd fun K hK => by
    have hrun := run_alloc_zero (P := P) w t Z hi
    unfold Oper.wp execOp
    simp only [ho, Sem.run_bind, hrun, Result.andThen_ok]
    exact hK _ _ h
/-- Zero bytes, zero words, a zero stream. -/
def zb (n : Nat) : List Value := bc (List.replicate n 0)
theorem zb_len (n : Nat) : (zb n).length = n := by simp [zb, bc_len]

/-- The cells of words. -/
def wc (l : List UInt32) : List Value := l.map fun x => Value.int .u32 x.toNat
theorem wc_len (l : List UInt32) : (wc l).length = l.length := by simp [wc]
theorem wc_one (l : List UInt32) : ∀ u ∈ wc l, u.oneCell' = true := by
  intro u hu
  simp only [wc, List.mem_map] at hu
  obtain ⟨b, _, rfl⟩ := hu
  rfl
theorem wc_at {l : List UInt32} {k : Nat} (h : k < l.length) : (wc l)[k]? = some (.int .u32 l[k].toNat) := by simp [wc, h]

theorem a32_size : (Tryz.prog.info? 173).map (·.size) = some 32 := by kernel_rfl
theorem a32_under : Tryz.prog.underlying 173 = some (.array 32 5) := by kernel_rfl
def zw (n : Nat) : List Value := wc (List.replicate n 0)
theorem zw_len (n : Nat) : (zw n).length = n := by simp [zw, wc_len]
def zs : List Value := zw 8 ++ (zb 64 ++ [.int .u64 0])
theorem zs_len : zs.length = 73 := by simp [zs, zw_len, zb_len]
theorem a32_zero : (Tryz.prog.info? 173).map (·.zero) = some (some (.agg (zb 32).toArray)) := by kernel_rfl
/-- The end of an array of bytes, from place k on. -/
theorem run_slice_from (t : TypeId) (n : Nat) (hu : Tryz.prog.underlying t = some (.array n 5)) (W : World) (g o : Nat) (kl : IntKind) (l : Int) (k : Nat) (hl : l = k) (hk : k < n) :
    (Instr.sliceAt t (.pointer (some ⟨g, o, none⟩)) (some (.int kl l)) none none).run Tryz.prog W = .ok (.slice (some ⟨g, o + k, none⟩) (n - k) (n - k)) W := by
  have e : (⟨g, o, none⟩ : Addr).add k = ⟨g, o + k, none⟩ := by unfold Addr.add; split <;> simp_all
  subst hl
  simp [Instr.sliceAt, Instr.sureAddr, run_underlying hu, Instr.sliceBounds, run_sliceBound, (by omega : (k : Int) ≤ n), e]
  omega

theorem run_arrayAt (t : TypeId) (n : Nat) (e : TypeId) (hu : Tryz.prog.underlying t = some (.array n e)) (w : World) (A : Option Addr) (m c : Nat) (hm : n ≤ m) : (Instr.arrayAt t (.slice A m c)).run Tryz.prog w = .ok (.pointer A) w := by
  simp [Instr.arrayAt, run_underlying hu, Nat.not_lt.2 hm]
end Go.Proofs.YtpmlihhofmblpaaGreatDoor

/- Laws: a region that draws its order, taken by hand: what only reads first, then the calls and the store that are forced. -/
namespace Go.Proofs.YtpmlihhofmblpaaGreatDoor
open Go.RowKit Hm

section
variable {P : Program} {md : Region.Mode} {ops : Array Oper} {Q : Exit → Act → World → Prop} {S : World → Prop} {i fuel : Nat} {oi : Oper} {listed : Array Bool} {a : Act} {w : World}
/-- An operation that yields its value in every world that meets S is taken first. -/
theorem reg_take (d : Option Tmp) (hi : ops[i]? = some oi) (hd : oi.dst = d) (hgd : oi.guard = none) (hs : Region.noSelect ops = true) (hf : Region.free md ops listed i = true) (hr : (Region.ready md ops listed).contains i = true)
    (v : Value) (hQ : ∀ c a w, Q (.panic c) (a.put d v) w → Q (.panic c) a w) (hy : ∀ W, S W → (execOp a.eval oi).run P W = .ok (.value v) W) (hS : S w)
    (h : wpAnyH P md ops Q S fuel (listed.setIfInBounds i true) (a.put d v) w) : wpAnyH P md ops Q S (fuel + 1) listed a w := by
  subst hd
  exact wpAnyH_take hi hs hf hr hQ (.inl ⟨by simp [Region.wanted, hgd], hy⟩) hS h
/-- The one operation that may come up. -/
theorem reg_one (hi : ops[i]? = some oi) (hgd : oi.guard = none) (hr : Region.ready md ops listed = [i])
    (h : oi.wp P a w (fun a' w' => S w' ∧ wpAnyH P md ops Q S fuel (listed.setIfInBounds i true) a' w') Q) : wpAnyH P md ops Q S (fuel + 1) listed a w :=
  wpAnyH_all hr (by simp) fun j hj => by
    obtain rfl : j = i := by simpa using hj
    unfold wpOp
    rw [hi]
    simp only
    rw [if_pos (by simp [Region.wanted, hgd])]
    exact .inl h
theorem callFunc_enter {F : FuncId} {fn : Func} (hf : P.funcs[F]? = some fn) (hn : (fn.name == "runtime.NumGoroutine") = false) (hb : fn.body.isNone = false) (vs : Array Value) : (callFunc F vs).run P w = .ok (.enter F vs) w := by
  have h1 : ¬ fn.name = "runtime.NumGoroutine" := by simpa using hn
  have h2 : ¬ fn.body = none := by intro e; rw [e] at hb; cases hb
  simp [callFunc, hf, h1, h2]
theorem wp_call_fn {K : Act → World → Prop} {F : FuncId} {xs : Array Operand} {ts : Array TypeId} (ho : oi.op = .call { callee := .value (.func F), args := xs, argTypes := ts }) {fn : Func} (hf : P.funcs[F]? = some fn) (hn : (fn.name == "runtime.NumGoroutine") = false) (hb : fn.body.isNone = false) (vs : Array Value) (hvs : xs.toList.map a.eval = vs.toList)
    {R : Ending → World → Prop} (hc : Calls P F vs w R) (h : ∀ e w', R e w' → ∃ v, e = .returned v ∧ K (a.put oi.dst v) w') : oi.wp P a w K Q := by
  obtain rfl : xs.map a.eval = vs := by apply Array.toList_inj.1; simpa using hvs
  have hrun : (execOp a.eval oi).run P w = .ok (.enter F (xs.map a.eval)) w := by
    simp [execOp, ho, resolve, invoke, Deferred.ofValue, Act.eval, callFunc_enter hf hn hb]
  unfold Oper.wp
  rw [hrun]
  refine Calls.mono hc fun e w' hR => ?_
  obtain ⟨v, rfl, hk⟩ := h e w' hR
  exact hk
theorem reg_call (d : Option Tmp) {F : FuncId} {xs : Array Operand} {ts : Array TypeId} (hi : ops[i]? = some oi) (hd : oi.dst = d) (hgd : oi.guard = none) (hr : Region.ready md ops listed = [i]) (ho : oi.op = .call { callee := .value (.func F), args := xs, argTypes := ts })
    {fn : Func} (hf : P.funcs[F]? = some fn) (hn : (fn.name == "runtime.NumGoroutine") = false) (hb : fn.body.isNone = false) (vs : Array Value) (hvs : xs.toList.map a.eval = vs.toList) {R : Ending → World → Prop} (hc : Calls P F vs w R)
    (h : ∀ e w', R e w' → ∃ v, e = .returned v ∧ S w' ∧ wpAnyH P md ops Q S fuel (listed.setIfInBounds i true) (a.put d v) w') : wpAnyH P md ops Q S (fuel + 1) listed a w := by
  subst hd
  exact reg_one hi hgd hr (wp_call_fn ho hf hn hb vs hvs hc h)
theorem reg_value (d : Option Tmp) (hi : ops[i]? = some oi) (hd : oi.dst = d) (hgd : oi.guard = none) (hr : Region.ready md ops listed = [i]) (v : Value) (hrun : (execOp a.eval oi).run P w = .ok (.value v) w) (hS : S w)
    (h : wpAnyH P md ops Q S fuel (listed.setIfInBounds i true) (a.put d v) w) : wpAnyH P md ops Q S (fuel + 1) listed a w := by
  subst hd
  exact reg_one hi hgd hr (by unfold Oper.wp; rw [hrun]; exact ⟨hS, h⟩)
theorem reg_store_all (hi : ops[i]? = some oi) (hd : oi.dst = none) (hgd : oi.guard = none) (hr : Region.ready md ops listed = [i]) (ty : TypeId) (x y : Operand) (ho : oi.op = .store ty x y)
    (g : Nat) (t : TypeId) (cur cells : List Value) (hx : a.eval x = .pointer (some ⟨g, 0, none⟩)) (hy : a.eval y = .agg cells.toArray) (hb : Blk w g t cur) (hfit : cells.length = cur.length)
    (hsz : (P.info? ty).map (·.size) = some cells.length) (h1 : ∀ v ∈ cells, v.oneCell' = true)
    (h : ∀ w', Blk w' g t cells → Only g w w' → S w' ∧ wpAnyH P md ops Q S fuel (listed.setIfInBounds i true) (a.put none undef) w') : wpAnyH P md ops Q S (fuel + 1) listed a w := by
  refine reg_one hi hgd hr (wp_store_part ty x y ho g 0 t cur cells hx hy hb (by omega) hsz h1 fun w' e1 e2 => ?_)
  rw [splice_all _ _ hfit] at e1
  rw [hd]
  exact h w' e1 e2
theorem exec_load (ty : TypeId) (x : Operand) (ho : oi.op = .load ty x) (p v : Value) (hx : a.eval x = p) (hl : (Instr.loadAt ty p).run P w = .ok v w) : (execOp a.eval oi).run P w = .ok (.value v) w := by
  subst hx
  simp [execOp, ho, hl]
theorem exec_field (ty : TypeId) (x : Operand) (n : Nat) (ho : oi.op = .field ty x n) (p v : Value) (hx : a.eval x = p) (hl : (Instr.field ty p n).run P w = .ok v w) : (execOp a.eval oi).run P w = .ok (.value v) w := by
  subst hx
  simp [execOp, ho, hl]
theorem exec_fieldAddr (ty : TypeId) (x : Operand) (n : Nat) (ho : oi.op = .fieldAddr ty x n) (p v : Value) (hx : a.eval x = p) (hl : (Instr.fieldAt ty p n).run P w = .ok v w) : (execOp a.eval oi).run P w = .ok (.value v) w := by
  subst hx
  simp [execOp, ho, hl]
theorem exec_move (x : Operand) (ho : oi.op = .move x) (v : Value) (hx : a.eval x = v) : (execOp a.eval oi).run P w = .ok (.value v) w := by
  subst hx
  simp [execOp, ho]
/-! The same without a held S: 'wpAny'. -/
theorem any_take (d : Option Tmp) (hi : ops[i]? = some oi) (hd : oi.dst = d) (hgd : oi.guard = none) (hs : Region.noSelect ops = true) (hf : Region.free md ops listed i = true) (hr : (Region.ready md ops listed).contains i = true)
    (v : Value) (hQ : ∀ c a w, Q (.panic c) (a.put d v) w → Q (.panic c) a w) (hy : ∀ W, (execOp a.eval oi).run P W = .ok (.value v) W)
    (h : wpAny P md ops Q fuel (listed.setIfInBounds i true) (a.put d v) w) : wpAny P md ops Q (fuel + 1) listed a w := by
  subst hd
  exact wpAny_take hi hs hf hr hQ (.inl ⟨by simp [Region.wanted, hgd], hy⟩) h
theorem op_wp {K : Act → World → Prop} (hi : ops[i]? = some oi) (hgd : oi.guard = none) (h : oi.wp P a w K Q) : wpOp P ops Q i K a w := by
  unfold wpOp
  rw [hi]
  simp only
  rw [if_pos (by simp [Region.wanted, hgd])]
  exact .inl h
theorem op_value {K : Act → World → Prop} (d : Option Tmp) (hi : ops[i]? = some oi) (hd : oi.dst = d) (hgd : oi.guard = none) (v : Value) (hrun : (execOp a.eval oi).run P w = .ok (.value v) w) (h : K (a.put d v) w) : wpOp P ops Q i K a w := by
  subst hd
  exact op_wp hi hgd (by unfold Oper.wp; rw [hrun]; exact h)
theorem op_call {K : Act → World → Prop} (d : Option Tmp) {F : FuncId} {xs : Array Operand} {ts : Array TypeId} (hi : ops[i]? = some oi) (hd : oi.dst = d) (hgd : oi.guard = none) (ho : oi.op = .call { callee := .value (.func F), args := xs, argTypes := ts })
    {fn : Func} (hf : P.funcs[F]? = some fn) (hn : (fn.name == "runtime.NumGoroutine") = false) (hb : fn.body.isNone = false) (vs : Array Value) (hvs : xs.toList.map a.eval = vs.toList) {R : Ending → World → Prop} (hc : Calls P F vs w R)
    (h : ∀ e w', R e w' → ∃ v, e = .returned v ∧ K (a.put d v) w') : wpOp P ops Q i K a w := by
  subst hd
  exact op_wp hi hgd (wp_call_fn ho hf hn hb vs hvs hc h)
theorem op_store_all {K : Act → World → Prop} (hi : ops[i]? = some oi) (hd : oi.dst = none) (hgd : oi.guard = none) (ty : TypeId) (x y : Operand) (ho : oi.op = .store ty x y)
    (g : Nat) (t : TypeId) (cur cells : List Value) (hx : a.eval x = .pointer (some ⟨g, 0, none⟩)) (hy : a.eval y = .agg cells.toArray) (hb : Blk w g t cur) (hfit : cells.length = cur.length)
    (hsz : (P.info? ty).map (·.size) = some cells.length) (h1 : ∀ v ∈ cells, v.oneCell' = true)
    (h : ∀ w', Blk w' g t cells → Only g w w' → K (a.put none undef) w') : wpOp P ops Q i K a w := by
  refine op_wp hi hgd (wp_store_part ty x y ho g 0 t cur cells hx hy hb (by omega) hsz h1 fun w' e1 e2 => ?_)
  rw [splice_all _ _ hfit] at e1
  rw [hd]
  exact h w' e1 e2
theorem any_one (hr : Region.ready md ops listed = [i]) (h : wpOp P ops Q i (wpAny P md ops Q fuel (listed.setIfInBounds i true)) a w) : wpAny P md ops Q (fuel + 1) listed a w :=
  wpAny_all hr (by simp) fun j hj => by
    obtain rfl : j = i := by simpa using hj
    exact h
theorem any_two {k : Nat} (hr : Region.ready md ops listed = [i, k]) (h : wpOp P ops Q i (wpAny P md ops Q fuel (listed.setIfInBounds i true)) a w) (h' : wpOp P ops Q k (wpAny P md ops Q fuel (listed.setIfInBounds k true)) a w) : wpAny P md ops Q (fuel + 1) listed a w :=
  wpAny_all hr (by simp) fun j hj => by
    simp only [List.mem_cons, List.not_mem_nil, or_false] at hj
    rcases hj with rfl | rfl
    · exact h
    · exact h'
theorem regH_one (hr : Region.ready md ops listed = [i]) (h : wpOp P ops Q i (fun a' w' => S w' ∧ wpAnyH P md ops Q S fuel (listed.setIfInBounds i true) a' w') a w) : wpAnyH P md ops Q S (fuel + 1) listed a w :=
  wpAnyH_all hr (by simp) fun j hj => by
    obtain rfl : j = i := by simpa using hj
    exact h
theorem reg_two {k : Nat} (hr : Region.ready md ops listed = [i, k]) (h : wpOp P ops Q i (fun a' w' => S w' ∧ wpAnyH P md ops Q S fuel (listed.setIfInBounds i true) a' w') a w)
    (h' : wpOp P ops Q k (fun a' w' => S w' ∧ wpAnyH P md ops Q S fuel (listed.setIfInBounds k true) a' w') a w) : wpAnyH P md ops Q S (fuel + 1) listed a w :=
  wpAnyH_all hr (by simp) fun j hj => by
    simp only [List.mem_cons, List.not_mem_nil, or_false] at hj
    rcases hj with rfl | rfl
    · exact h
    · exact h'
theorem op_alloc {K : Act → World → Prop} (d : Option Tmp) (hi : ops[i]? = some oi) (hd : oi.dst = d) (hgd : oi.guard = none) (t : TypeId) (ho : oi.op = .alloc t) (Z : List Value) (hz : (P.info? t).map (·.zero) = some (some (.agg Z.toArray)))
    (h : K (a.put d (.pointer (some ⟨w.heap.size, 0, none⟩))) (w.alloc (.cells Z.toArray t))) : wpOp P ops Q i K a w := by
  subst hd
  have hrun := run_alloc_zero (P := P) w t Z hz
  refine op_wp hi hgd ?_
  unfold Oper.wp execOp
  simp only [ho, Sem.run_bind, hrun, Result.andThen_ok]
  exact h
end
end Go.Proofs.YtpmlihhofmblpaaGreatDoor

/- What the laws need besides: variables that hold arrays; sanity's contract. -/
namespace Go.Proofs.YtpmlihhofmblpaaGreatDoor
open Go.RowKit Hm Wm

section
variable {P : Program}
/-- A variable is made and filled at once. -/
theorem wpList_var {w : World} {ops : Array Oper} {rest : List Oper} {o1 o2 : Oper} {a : Act} {Q : Exit → Act → World → Prop} (h1 : o1.guard = none) (h2 : o2.guard = none) (t : TypeId) (d : Tmp) (hd : o1.dst = some d) (hn : o2.dst = none) (ho1 : o1.op = .alloc t)
    (y : Operand) (ho2 : o2.op = .store t (.tmp d) y) (Z cells : List Value) (hz : (P.info? t).map (·.zero) = some (some (.agg Z.toArray))) (hx : (a.put (some d) (.pointer (some ⟨w.heap.size, 0, none⟩))).eval (.tmp d) = .pointer (some ⟨w.heap.size, 0, none⟩))
    (hy : (a.put (some d) (.pointer (some ⟨w.heap.size, 0, none⟩))).eval y = .agg cells.toArray) (hl : cells.length = Z.length) (hs : (P.info? t).map (·.size) = some cells.length) (hone : ∀ v ∈ cells, v.oneCell' = true)
    (h : ∀ w', Hid (Blk w' w.heap.size t cells) → Hid (Below w.heap.size w w') → wpList P ops Q rest ((a.put (some d) (.pointer (some ⟨w.heap.size, 0, none⟩))).put none undef) w') : wpList P ops Q (o1 :: o2 :: rest) a w := by
  refine wpList_alloc_zero h1 t ho1 Z hz ?_
  rw [hd]
  refine wpList_store_all h2 t (.tmp d) y ho2 w.heap.size t Z cells hx hy (Blk.new w t Z) hl hs hone ?_
  intro w' hb ho
  rw [hn]
  exact h w' hb (Lib.hid (((Below.refl w.heap.size w).alloc (Nat.le_refl _) _).trans (ho.below (Nat.le_refl _))))
/-- A whole variable is loaded where a guard says yes. -/
theorem wpList_want {ops : Array Oper} {rest : List Oper} {o : Oper} {a : Act} {w : World} {Q : Exit → Act → World → Prop} (hw : Region.wanted o (yielded ops a.tmps) = true)
    (h : ∀ K : Act → World → Prop, (∀ a w, wpList P ops Q rest a w → K a w) → o.wp P a w K Q) : wpList P ops Q (o :: rest) a w :=
  wpList_step fun K hK => by simp only [hw, if_true]; exact h K hK
theorem wpList_loadG {w : World} {ops : Array Oper} {rest : List Oper} {op : Oper} {a : Act} {Q : Exit → Act → World → Prop} (hw : Region.wanted op (yielded ops a.tmps) = true) (ty : TypeId) (x : Operand) (ho : op.op = .load ty x)
    (g : Nat) (t : TypeId) (cs : List Value) (d : TypeDesc) (hx : a.eval x = .pointer (some ⟨g, 0, none⟩)) (hb : Blk w g t cs) (hu : P.underlying ty = some d) (hd : d.isRow = true)
    (hi : (P.info? ty).map (·.size) = some cs.length)
    (h : wpList P ops Q rest (a.put op.dst (.agg cs.toArray)) w) : wpList P ops Q (op :: rest) a w :=
  wpList_want hw fun _ hK => wp_load_mid ty x ho g 0 hx cs d (by have := hb.range 0 cs.length; simpa using this) hu hd hi (hK _ _ h)
end

theorem rd_fr (w : World) (C : Array Value) (cs : List Value) (t : TypeId) (fr : Nat × Nat) (h : C = cs.toArray) : Rd (w.alloc (.cells C t fr)) (some ⟨w.heap.size, 0, none⟩) cs := fun _ => by
  subst h
  refine ⟨w.heap.size, 0, rfl, fun k u hu => ?_⟩
  rw [cell_of_row _ w.heap.size (0 + k) _ t fr (heap_alloc_new w _)]
  simpa using hu

end Go.Proofs.YtpmlihhofmblpaaGreatDoor

namespace Go.Proofs.YtpmlihhofmblpaaGreatDoor
open Go.RowKit Hm Wm
theorem madeCells_zero (n : Nat) : madeCells #[.int .u8 0] n = (bc (List.replicate n (0 : UInt8))).toArray := by
  apply Array.ext
  · simp [madeCells, bc]
  · intro i h1 h2
    have e : i % 1 = 0 := Nat.mod_one i
    simp [madeCells, bc, e]

end Go.Proofs.YtpmlihhofmblpaaGreatDoor

/- Contracts of the reference's Bytes32 and Text, and of the law's hex. -/
namespace Go.Proofs.YtpmlihhofmblpaaGreatDoor
open Go.RowKit Hm

/-- A string of bytes. -/
def sb (l : List UInt8) : ByteArray := ⟨l.toArray⟩
theorem sb_size (l : List UInt8) : (sb l).size = l.length := by simp [sb, ByteArray.size]
theorem sb_list (l : List UInt8) : (sb l).data.toList = l := by simp [sb]
theorem sb_of (s : ByteArray) : sb s.data.toList = s := by simp [sb]

/-- Bytes turned into a string. -/
theorem run_str {w : World} {A : Option Addr} {l : List UInt8} (h : Rd w A (bc l)) (c : Nat) : (convert 50 9 (.slice A l.length c)).run Tryz.prog w = .ok (.string (sb l)) w := by
  rw [run_convert_bytes_string w 50 9 5 A l.length c Tryz.underlying50 Tryz.underlying5 Tryz.underlying9]
  cases A with
  | none =>
    have hn : l = [] := by
      rcases l with _ | ⟨x, r⟩
      · rfl
      · obtain ⟨b, off, hA, _⟩ := h (by simp [bc])
        cases hA
    subst hn
    simp [Conv.bytesToString]
    rfl
  | some a =>
    have hl : (loadCells a l.length).run Tryz.prog w = .ok ((l.map fun b => (b.toNat : Int)).map (Value.int .u8)).toArray w := by
      have e : (l.map fun b => (b.toNat : Int)).map (Value.int .u8) = bc l := by simp [bc]
      rw [e, ← bc_len l]
      apply run_loadCells_list
      intro j v hj
      have hne : bc l ≠ [] := by intro e0; rw [e0] at hj; simp at hj
      obtain ⟨a', ha, hc⟩ := h.news hne
      injection ha with ha
      subst ha
      exact hc j v hj
    rw [run_bytesToString w a l.length c _ hl, foldl_push_bytes]
    have e2 : (l.map fun b => (b.toNat : Int)).map (fun n => UInt8.ofNat n.toNat) = l := by
      rw [List.map_map]
      conv => rhs; rw [← List.map_id l]
      apply List.map_congr_left
      intro b _
      show UInt8.ofNat ((b.toNat : Int).toNat) = b
      rw [Int.toNat_natCast]; simp
    rw [e2]
    simp [ByteArray.empty, ByteArray.emptyWithCapacity, sb]
    rfl

section
variable {Q : Exit → Act → World → Prop} {i : Nat} {oi : Oper} {ops : Array Oper} {a : Act} {w : World} {K : Act → World → Prop}
theorem exec_assign {P : Program} (x : Operand) (ho : oi.op = .assign x) (v : Value) (hx : a.eval x = v) : (execOp a.eval oi).run P w = .ok (.value v) w := by
  subst hx
  simp [execOp, ho]
theorem run_build2 (w : World) (b c : UInt8) : (Instr.buildSlice 50 2 #[(0, .int .u8 b.toNat), (1, .int .u8 c.toNat)]).run Tryz.prog w = .ok (.slice (some ⟨w.heap.size, 0, none⟩) 2 2) (w.alloc (.cells (bc [b, c]).toArray 5)) := by
  obtain ⟨i0, hi, hz0, hz1, hz2⟩ := info_parts u8_info
  refine run_buildSlice w _ _ 2 _ _ i0 _ Tryz.underlying50 hi hz0 (by rw [hz1]; omega) (by rw [hz1]; omega) ?_
  rw [hz1]
  rw [show (Array.map (fun x => (Value.int IntKind.u8 0).cells[x % (Value.int IntKind.u8 0).cells.size]!) (Array.range (2 * 1))) = #[.int .u8 0, .int .u8 0] from by kernel_rfl]
  rfl
theorem op_build2 (d : Option Tmp) (hi : ops[i]? = some oi) (hd : oi.dst = d) (hgd : oi.guard = none) (x y : Operand) (ho : oi.op = .buildSlice 50 2 #[(0, x), (1, y)]) (b c : UInt8) (hx : a.eval x = .int .u8 b.toNat) (hy : a.eval y = .int .u8 c.toNat)
    (h : K (a.put d (.slice (some ⟨w.heap.size, 0, none⟩) 2 2)) (w.alloc (.cells (bc [b, c]).toArray 5))) : wpOp Tryz.prog ops Q i K a w := by
  subst hd
  refine op_wp hi hgd ?_
  unfold Oper.wp execOp
  simp only [ho, List.map_toArray, List.map_cons, List.map_nil, hx, hy, Sem.run_bind, run_build2, Result.andThen_ok]
  exact h
/-- A row of bytes that was just made is appended. -/
theorem op_push2 (d : Option Tmp) (hi : ops[i]? = some oi) (hd : oi.dst = d) (hgd : oi.guard = none) (s x : Operand)
    (ho : oi.op = .call { callee := .builtin .append, args := #[s, x], argTypes := #[50, 50] })
    (base : Nat) (v : Value) (l : List UInt8) (hs : a.eval s = v) (hown : OwnB w base v l) (b c : UInt8) (hb : base ≤ w.heap.size) (hl : l.length ≤ 70368744177664)
    (hx : a.eval x = .slice (some ⟨w.heap.size, 0, none⟩) 2 2)
    (h : ∀ v' w', OwnB w' base v' (l ++ [b, c]) → Below base w w' → K (a.put d v') w') :
    wpOp Tryz.prog ops Q i K a (w.alloc (.cells (bc [b, c]).toArray 5)) := by
  obtain ⟨i0, hi0, hz0, hz1, hz2⟩ := info_parts u8_info
  subst hd
  refine op_wp hi hgd ?_
  have hnews : ∀ j u, (bc [b, c])[j]? = some u → (w.alloc (.cells (bc [b, c]).toArray 5)).cell? ((⟨w.heap.size, 0, none⟩ : Addr).add j) = some u := by
    intro j u hu
    rw [Addr.add_mid, Nat.zero_add, (Blk.new w 5 (bc [b, c])).cell j]
    exact hu
  obtain ⟨v', w', hrun, h2, h3, _⟩ := run_append_own_at (P := Tryz.prog) (w.alloc (.cells (bc [b, c]).toArray 5)) base 50 oi.type 5 i0 (.int .u8 0) 1 1 Tryz.underlying50 hi0 hz0 hz1 hz2 rfl (by decide) v l.length (bc l) (World.ownsRow.alloc hown _)
    ⟨w.heap.size, 0, none⟩ 2 2 (bc [b, c]) rfl hnews (bc_one _) (by unfold maxLen; omega) (by omega) (by simp; omega)
  unfold Oper.wp execOp
  simp only [ho, resolve, invoke, builtin, Sem.run_bind, Sem.run_pure, Result.andThen_ok, List.map_toArray, List.map_cons, List.map_nil, hs, hx, hrun]
  refine h v' w' ?_ ?_
  · unfold OwnB
    rw [List.length_append, bc_app]
    exact h2
  · exact (((Below.refl base w).alloc hb _).grown h3 (by simp; omega) (fun k hk => (World.ownsRow.lt hown k hk).1))
end

/-- The hexadecimal digit of a number less than 16. -/
def hd (n : Nat) : UInt8 := if n < 10 then UInt8.ofNat (48 + n) else UInt8.ofNat (87 + n)
def hexB (l : List UInt8) : List UInt8 := l.flatMap fun x => [hd (x.toNat / 16), hd (x.toNat % 16)]
def digs : ByteArray := { data := #[48, 49, 50, 51, 52, 53, 54, 55, 56, 57, 97, 98, 99, 100, 101, 102] }
theorem digs_at : ∀ n : Fin 16, digs[n.val]'(by have := n.isLt; exact this) = hd n.val := by decide
theorem run_digit (w : World) (k : IntKind) (n : Nat) (h : n < 16) : (Instr.index 9 (.string { data := #[48, 49, 50, 51, 52, 53, 54, 55, 56, 57, 97, 98, 99, 100, 101, 102] }) (.int k n)).run Tryz.prog w = .ok (.int .u8 (hd n).toNat) w := by
  rw [run_index_string w 9 _ k n Tryz.underlying9]
  rw [dif_pos ⟨by omega, by show (n : Int) < 16; omega⟩]
  have e : ({ data := #[48, 49, 50, 51, 52, 53, 54, 55, 56, 57, 97, 98, 99, 100, 101, 102] } : ByteArray)[((n : Int)).toNat]'(by show (n : Int).toNat < 16; omega) = hd n := by
    have := digs_at ⟨n, h⟩
    simpa [digs] using this
  rw [e]
section
variable {P : Program} {oi : Oper} {a : Act} {w : World}
theorem exec_index (ty : TypeId) (x y : Operand) (ho : oi.op = .index ty x y) (p q v : Value) (hx : a.eval x = p) (hy : a.eval y = q) (hl : (Instr.index ty p q).run P w = .ok v w) : (execOp a.eval oi).run P w = .ok (.value v) w := by
  subst hx; subst hy
  simp [execOp, ho, hl]
theorem exec_bin (op : BinOp) (ty rt : TypeId) (x y : Operand) (ho : oi.op = .binOp op ty x y rt) (p q v : Value) (hx : a.eval x = p) (hy : a.eval y = q) (hg : (eqGuard op ty x y p q).run P w = .ok () w) (hl : (binOp op ty p q).run P w = .ok v w) : (execOp a.eval oi).run P w = .ok (.value v) w := by
  subst hx; subst hy
  simp [execOp, ho, hg, hl]
end
theorem run_quo16 (w : World) (x : UInt8) : (binOp .quo 5 (.int .u8 x.toNat) (.int .u8 16)).run Tryz.prog w = .ok (.int .u8 (x.toNat / 16 : Nat)) w := by
  have h := x.toNat_lt
  simp [binOp, go_sem]
  simp [IntKind.wrap, IntKind.bits, IntKind.signed]; omega
theorem run_rem16 (w : World) (x : UInt8) : (binOp .rem 5 (.int .u8 x.toNat) (.int .u8 16)).run Tryz.prog w = .ok (.int .u8 (x.toNat % 16 : Nat)) w := by
  have h := x.toNat_lt
  simp [binOp, go_sem]
  exact Int.tmod_eq_emod_of_nonneg (by omega)
theorem hexB_take (l : List UInt8) (k : Nat) (x : UInt8) (h : l[k]? = some x) : hexB (l.take k) ++ [hd (x.toNat / 16), hd (x.toNat % 16)] = hexB (l.take (k + 1)) := by
  obtain ⟨h1, h2⟩ := List.getElem?_eq_some_iff.1 h
  unfold hexB
  rw [List.take_succ_eq_append_getElem h1, List.flatMap_append, h2]; simp
theorem hexB_len (l : List UInt8) : (hexB l).length = 2 * l.length := by
  unfold hexB
  induction l with
  | nil => rfl
  | cons a r ih => rw [List.flatMap_cons, List.length_append, ih]; simp; omega

end Go.Proofs.YtpmlihhofmblpaaGreatDoor

/- Laws: a region that draws its order, some of its operations guarded, taken by hand. -/
namespace Go.Proofs.YtpmlihhofmblpaaGreatDoor
open Go.RowKit Hm Wm

section
variable {P : Program} {md : Region.Mode} {ops : Array Oper} {Q : Exit → Act → World → Prop} {S : World → Prop} {i fuel : Nat} {oi : Oper} {listed : Array Bool} {a : Act} {w : World}
theorem reg_takeG (d : Option Tmp) (hi : ops[i]? = some oi) (hd : oi.dst = d) (hw : Region.wanted oi (yielded ops a.tmps) = true) (hs : Region.noSelect ops = true) (hf : Region.free md ops listed i = true) (hr : (Region.ready md ops listed).contains i = true)
    (v : Value) (hQ : ∀ c a w, Q (.panic c) (a.put d v) w → Q (.panic c) a w) (hy : ∀ W, S W → (execOp a.eval oi).run P W = .ok (.value v) W) (hS : S w)
    (h : wpAnyH P md ops Q S fuel (listed.setIfInBounds i true) (a.put d v) w) : wpAnyH P md ops Q S (fuel + 1) listed a w := by
  subst hd
  exact wpAnyH_take hi hs hf hr hQ (.inl ⟨hw, hy⟩) hS h
theorem reg_oneG (hi : ops[i]? = some oi) (hw : Region.wanted oi (yielded ops a.tmps) = true) (hr : Region.ready md ops listed = [i])
    (h : oi.wp P a w (fun a' w' => S w' ∧ wpAnyH P md ops Q S fuel (listed.setIfInBounds i true) a' w') Q) : wpAnyH P md ops Q S (fuel + 1) listed a w :=
  wpAnyH_all hr (by simp) fun j hj => by
    obtain rfl : j = i := by simpa using hj
    unfold wpOp
    rw [hi]
    simp only
    rw [if_pos hw]
    exact .inl h
theorem reg_callG (d : Option Tmp) {F : FuncId} {xs : Array Operand} {ts : Array TypeId} (hi : ops[i]? = some oi) (hd : oi.dst = d) (hw : Region.wanted oi (yielded ops a.tmps) = true) (hr : Region.ready md ops listed = [i]) (ho : oi.op = .call { callee := .value (.func F), args := xs, argTypes := ts })
    {fn : Func} (hf : P.funcs[F]? = some fn) (hn : (fn.name == "runtime.NumGoroutine") = false) (hb : fn.body.isNone = false) (vs : Array Value) (hvs : xs.toList.map a.eval = vs.toList) {R : Ending → World → Prop} (hc : Calls P F vs w R)
    (h : ∀ e w', R e w' → ∃ v, e = .returned v ∧ S w' ∧ wpAnyH P md ops Q S fuel (listed.setIfInBounds i true) (a.put d v) w') : wpAnyH P md ops Q S (fuel + 1) listed a w := by
  subst hd
  exact reg_oneG hi hw hr (wp_call_fn ho hf hn hb vs hvs hc h)
theorem reg_valueG (d : Option Tmp) (hi : ops[i]? = some oi) (hd : oi.dst = d) (hw : Region.wanted oi (yielded ops a.tmps) = true) (hr : Region.ready md ops listed = [i]) (v : Value) (hrun : (execOp a.eval oi).run P w = .ok (.value v) w) (hS : S w)
    (h : wpAnyH P md ops Q S fuel (listed.setIfInBounds i true) (a.put d v) w) : wpAnyH P md ops Q S (fuel + 1) listed a w := by
  subst hd
  exact reg_oneG hi hw hr (by unfold Oper.wp; rw [hrun]; exact ⟨hS, h⟩)
/-- One that makes memory: its value in a world with one block more. -/
theorem reg_makeG (d : Option Tmp) (hi : ops[i]? = some oi) (hd : oi.dst = d) (hw : Region.wanted oi (yielded ops a.tmps) = true) (hr : Region.ready md ops listed = [i]) (v : Value) (w' : World) (hrun : (execOp a.eval oi).run P w = .ok (.value v) w') (hS : S w')
    (h : wpAnyH P md ops Q S fuel (listed.setIfInBounds i true) (a.put d v) w') : wpAnyH P md ops Q S (fuel + 1) listed a w := by
  subst hd
  exact reg_oneG hi hw hr (by unfold Oper.wp; rw [hrun]; exact ⟨hS, h⟩)
theorem any_takeG (d : Option Tmp) (hi : ops[i]? = some oi) (hd : oi.dst = d) (hw : Region.wanted oi (yielded ops a.tmps) = true) (hs : Region.noSelect ops = true) (hf : Region.free md ops listed i = true) (hr : (Region.ready md ops listed).contains i = true)
    (v : Value) (hQ : ∀ c a w, Q (.panic c) (a.put d v) w → Q (.panic c) a w) (hy : ∀ W, (execOp a.eval oi).run P W = .ok (.value v) W)
    (h : wpAny P md ops Q fuel (listed.setIfInBounds i true) (a.put d v) w) : wpAny P md ops Q (fuel + 1) listed a w := by
  subst hd
  exact wpAny_take hi hs hf hr hQ (.inl ⟨hw, hy⟩) h
theorem exec_indexAddr (ty : TypeId) (x y : Operand) (ho : oi.op = .indexAddr ty x y) (p q v : Value) (hx : a.eval x = p) (hy : a.eval y = q) (hl : (Instr.indexAt ty p q).run P w = .ok v w) : (execOp a.eval oi).run P w = .ok (.value v) w := by
  subst hx; subst hy
  simp [execOp, ho, hl]
theorem exec_min (x y : Operand) (ts : Array TypeId) (ho : oi.op = .call { callee := .builtin .min, args := #[x, y], argTypes := ts }) (k : IntKind) (m n z : Int) (hx : a.eval x = .int k m) (hy : a.eval y = .int k n) (hz : min m n = z) : (execOp a.eval oi).run P w = .ok (.value (.int k z)) w := by
  have e : (if n < m then n else m) = z := by split <;> omega
  simp [execOp, ho, resolve, invoke, builtin, hx, hy, run_min_int2, e]
theorem exec_max (x y : Operand) (ts : Array TypeId) (ho : oi.op = .call { callee := .builtin .max, args := #[x, y], argTypes := ts }) (k : IntKind) (m n z : Int) (hx : a.eval x = .int k m) (hy : a.eval y = .int k n) (hz : max m n = z) : (execOp a.eval oi).run P w = .ok (.value (.int k z)) w := by
  have e : (if n > m then n else m) = z := by split <;> omega
  simp [execOp, ho, resolve, invoke, builtin, hx, hy, run_max_int2, e]
theorem exec_slice_hi (ty : TypeId) (x y : Operand) (ho : oi.op = .slice ty x none (some y) none) (p q v : Value) (hx : a.eval x = p) (hy : a.eval y = q) (hl : (Instr.sliceAt ty p none (some q) none).run P w = .ok v w) : (execOp a.eval oi).run P w = .ok (.value v) w := by
  subst hx; subst hy
  simp [execOp, ho, hl]
theorem exec_pick (c x y : Operand) (ho : oi.op = .pick c x y) (v : Value) (hc : a.eval c = .bool true) (hx : a.eval x = v) : (execOp a.eval oi).run P w = .ok (.value v) w := by
  subst hx
  simp [execOp, ho, hc, asBool]
theorem exec_convert (s t : TypeId) (x : Operand) (ho : oi.op = .convert s t x) (p v : Value) (hx : a.eval x = p) {w' : World} (hl : (convert s t p).run P w = .ok v w') : (execOp a.eval oi).run P w = .ok (.value v) w' := by
  subst hx
  simp [execOp, ho, hl]
theorem exec_makeSlice (t : TypeId) (l c : Operand) (ho : oi.op = .makeSlice t l c) (p q v : Value) (hx : a.eval l = p) (hy : a.eval c = q) {w' : World} (hl : (Instr.makeSlice t p q).run P w = .ok v w') : (execOp a.eval oi).run P w = .ok (.value v) w' := by
  subst hx; subst hy
  simp [execOp, ho, hl]
end
section
variable {oi : Oper} {a : Act} {w : World}
end
/-- A string turned into bytes. -/
theorem run_bytes (w : World) (s : ByteArray) : ∃ A c w', (convert 9 50 (.string s)).run Tryz.prog w = .ok (.slice A s.data.toList.length c) w' ∧ Rd w' A (bc s.data.toList) ∧ s.data.toList.length ≤ c ∧ Below w.heap.size w w' := by
  have hl : s.data.toList.length = s.size := Array.length_toList
  refine ⟨some ⟨w.heap.size, 0, none⟩, grownCap w s.size 0 5, Lib.bytesWorld w 5 s, ?_, ?_, ?_, ?_⟩
  · rw [hl]
    exact Lib.run_convert_string_bytes w 9 50 5 s Tryz.underlying9 Tryz.underlying50 Tryz.underlying5
  · intro _
    refine ⟨w.heap.size, 0, rfl, fun k u hu => ?_⟩
    have hk : k < s.data.toList.length := by
      rcases Nat.lt_or_ge k s.data.toList.length with h | h
      · exact h
      · rw [List.getElem?_eq_none (by rw [bc_len]; exact h)] at hu; cases hu
    have e : s.data.toList.getD k 0 = s.data.toList[k] := by rw [List.getD_eq_getElem?_getD, List.getElem?_eq_getElem hk]; rfl
    rw [Nat.zero_add, Lib.bytesWorld_cell w 5 s k (by omega), ← hu, bc_at hk, e]
  · rw [hl]; exact grownCap_ge w s.size 0 5
  · exact ⟨rfl, rfl, rfl, by rw [Lib.bytesWorld_size]; omega, fun j hj => Lib.bytesWorld_at_old w _ s j hj⟩
theorem wpList_bytes {w : World} {ops : Array Oper} {rest : List Oper} {o : Oper} {a : Act} {Q : Exit → Act → World → Prop} (hw : Region.wanted o (yielded ops a.tmps) = true) (x : Operand) (ho : o.op = .convert 9 50 x) (s : ByteArray) (hx : a.eval x = .string s)
    (h : ∀ A c w', Rd w' A (bc s.data.toList) → s.data.toList.length ≤ c → Below w.heap.size w w' → wpList Tryz.prog ops Q rest (a.put o.dst (.slice A s.data.toList.length c)) w') : wpList Tryz.prog ops Q (o :: rest) a w := by
  obtain ⟨A, c, w', hr, h1, h2, h3⟩ := run_bytes w s
  refine wpList_want hw fun K hK => ?_
  unfold Oper.wp execOp
  simp only [ho, hx, Sem.run_bind, hr, Result.andThen_ok]
  exact hK _ _ (h A c w' h1 h2 h3)
/-- A row of zero bytes. -/
theorem run_zeros (w : World) (n : Nat) (h : n ≤ 1000000) : (Instr.makeSlice 50 (.int .i64 n) (.int .i64 n)).run Tryz.prog w = .ok (.slice (some ⟨w.heap.size, 0, none⟩) n n) (w.alloc (.cells (bc (List.replicate n 0)).toArray 5)) := by
  obtain ⟨i0, hi, hz0, hz1, hz2⟩ := info_parts u8_info
  have := run_make (P := Tryz.prog) w 50 5 i0 _ Tryz.underlying50 hi hz0 .i64 .i64 n n (by omega) (by omega) (by rw [hz2]; omega) (by omega)
  rw [hz1, Nat.mul_one, Int.toNat_natCast, show (Value.int IntKind.u8 0).cells = #[.int .u8 0] from rfl, madeCells_zero] at this
  exact this
theorem run_concat (w : World) (s t : ByteArray) (h : s.size + t.size ≤ 1000000) : (binOp .add 9 (.string s) (.string t)).run Tryz.prog w = .ok (.string (sb (s.data.toList ++ t.data.toList))) w := by
  have h1 : s.data.toList.length = s.size := Array.length_toList
  have h2 : t.data.toList.length = t.size := Array.length_toList
  have e := run_string_add_lists (P := Tryz.prog) w s.data.toList t.data.toList (by omega) (by omega)
  rw [binOp_string_add]
  exact e
theorem run_str_hi (w : World) (l : List UInt8) (n : Nat) (h : n ≤ l.length) : (Instr.sliceAt 9 (.string (sb l)) none (some (.int .i64 n)) none).run Tryz.prog w = .ok (.string (sb (l.take n))) w := by
  have hs : (sb l).size = l.length := sb_size l
  have e : (sb l).extract 0 n = sb (l.take n) := by
    apply ByteArray.ext
    rw [ByteArray.data_extract]
    simp [sb]
  simp [go_sem, run_sliceAt_string, Tryz.underlying9, hs]
  rw [if_pos h, e]
theorem run_eql_str (w : World) (l r : List UInt8) : (binOp .eql 9 (.string (sb l)) (.string (sb r))).run Tryz.prog w = .ok (.bool (decide (l = r))) w := by
  rw [binOp_string_eql]
  have h1 : (sb l).toList = l := by simp [sb]
  have h2 : (sb r).toList = r := by simp [sb]
  rw [h1, h2, Sem.run_pure]
  congr 2
  rw [Bool.eq_iff_iff]; simp
end Go.Proofs.YtpmlihhofmblpaaGreatDoor

namespace Go.Proofs.YtpmlihhofmblpaaGreatDoor
open Go.RowKit Hm Wm
section
variable {P : Program} {md : Region.Mode} {ops : Array Oper} {Q : Exit → Act → World → Prop} {S : World → Prop} {i k fuel : Nat} {oi ok : Oper} {listed : Array Bool} {a : Act} {w : World}
/-- Two operations may come next. -/
theorem reg_twoG (hi : ops[i]? = some oi) (hk : ops[k]? = some ok) (hw : Region.wanted oi (yielded ops a.tmps) = true) (hw2 : Region.wanted ok (yielded ops a.tmps) = true) (hr : Region.ready md ops listed = [i, k])
    (h1 : oi.wp P a w (fun a' w' => S w' ∧ wpAnyH P md ops Q S fuel (listed.setIfInBounds i true) a' w') Q)
    (h2 : ok.wp P a w (fun a' w' => S w' ∧ wpAnyH P md ops Q S fuel (listed.setIfInBounds k true) a' w') Q) : wpAnyH P md ops Q S (fuel + 1) listed a w :=
  wpAnyH_all hr (by simp) fun j hj => by
    simp only [List.mem_cons, List.not_mem_nil, or_false] at hj
    rcases hj with rfl | rfl
    · unfold wpOp
      rw [hi]
      simp only
      rw [if_pos hw]
      exact .inl h1
    · unfold wpOp
      rw [hk]
      simp only
      rw [if_pos hw2]
      exact .inl h2
theorem opG_call {K : Act → World → Prop} (d : Option Tmp) {F : FuncId} {xs : Array Operand} {ts : Array TypeId} (hd : oi.dst = d) (ho : oi.op = .call { callee := .value (.func F), args := xs, argTypes := ts })
    {fn : Func} (hf : P.funcs[F]? = some fn) (hn : (fn.name == "runtime.NumGoroutine") = false) (hb : fn.body.isNone = false) (vs : Array Value) (hvs : xs.toList.map a.eval = vs.toList) {R : Ending → World → Prop} (hc : Calls P F vs w R)
    (h : ∀ e w', R e w' → ∃ v, e = .returned v ∧ K (a.put d v) w') : oi.wp P a w K Q := by
  subst hd
  exact wp_call_fn ho hf hn hb vs hvs hc h
theorem opG_alloc {K : Act → World → Prop} (d : Option Tmp) (hd : oi.dst = d) (t : TypeId) (ho : oi.op = .alloc t) (Z : List Value) (hz : (P.info? t).map (·.zero) = some (some (.agg Z.toArray)))
    (h : K (a.put d (.pointer (some ⟨w.heap.size, 0, none⟩))) (w.alloc (.cells Z.toArray t))) : oi.wp P a w K Q := by
  subst hd
  have hrun := run_alloc_zero (P := P) w t Z hz
  unfold Oper.wp execOp
  simp only [ho, Sem.run_bind, hrun, Result.andThen_ok]
  exact h
theorem reg_allocG (d : Option Tmp) (hi : ops[i]? = some oi) (hd : oi.dst = d) (hw : Region.wanted oi (yielded ops a.tmps) = true) (hr : Region.ready md ops listed = [i]) (t : TypeId) (ho : oi.op = .alloc t) (Z : List Value) (hz : (P.info? t).map (·.zero) = some (some (.agg Z.toArray)))
    (h : S (w.alloc (.cells Z.toArray t)) ∧ wpAnyH P md ops Q S fuel (listed.setIfInBounds i true) (a.put d (.pointer (some ⟨w.heap.size, 0, none⟩))) (w.alloc (.cells Z.toArray t))) : wpAnyH P md ops Q S (fuel + 1) listed a w :=
  reg_oneG hi hw hr (opG_alloc d hd t ho Z hz h)
end
theorem exec_extract {P : Program} {oi : Oper} {a : Act} {w : World} (x : Operand) (j : Nat) (ho : oi.op = .extract x j) (vs : Array Value) (v : Value) (hx : a.eval x = .tuple vs) (hv : vs[j]? = some v) : (execOp a.eval oi).run P w = .ok (.value v) w := by
  simp [execOp, ho, hx, Instr.extract, hv]
theorem exec_eqI {P : Program} {oi : Oper} {a : Act} {w : World} (t : TypeId) (x y : Operand) (rt : TypeId) (ho : oi.op = .binOp .eql t x y rt) (k : IntKind) (m n : Int) (hx : a.eval x = .int k m) (hy : a.eval y = .int k n) : (execOp a.eval oi).run P w = .ok (.value (.bool (m == n))) w :=
  exec_bin .eql t rt x y ho _ _ _ hx hy (by simp [go_sem]) (by simp [go_sem])
theorem exec_neqI {P : Program} {oi : Oper} {a : Act} {w : World} (t : TypeId) (x y : Operand) (rt : TypeId) (ho : oi.op = .binOp .neq t x y rt) (k : IntKind) (m n : Int) (hx : a.eval x = .int k m) (hy : a.eval y = .int k n) : (execOp a.eval oi).run P w = .ok (.value (.bool (m != n))) w :=
  exec_bin .neq t rt x y ho _ _ _ hx hy (by simp [go_sem]) (by simp [go_sem])
theorem exec_pickF {P : Program} {oi : Oper} {a : Act} {w : World} (c x y : Operand) (ho : oi.op = .pick c x y) (v : Value) (hc : a.eval c = .bool false) (hy : a.eval y = v) : (execOp a.eval oi).run P w = .ok (.value v) w := by
  subst hy
  simp [execOp, ho, hc, asBool]
theorem wpList_run {w : World} {ops : Array Oper} {rest : List Oper} {o : Oper} {a : Act} {Q : Exit → Act → World → Prop} (d : Tmp) (hd : o.dst = some d) (hgd : o.guard = none) (v : Value) (hrun : (execOp a.eval o).run Tryz.prog w = .ok (.value v) w) (h : wpList Tryz.prog ops Q rest (a.put (some d) v) w) : wpList Tryz.prog ops Q (o :: rest) a w := by
  refine wpList_plain hgd fun K hK => ?_
  unfold Oper.wp
  rw [hrun]
  refine hK _ _ ?_
  rw [hd]; exact h
theorem exec_lenD {P : Program} {oi : Oper} {a : Act} {w : World} (t : TypeId) (x : Operand) (ho : oi.op = .call { callee := .builtin .len, args := #[x], argTypes := #[t] }) (hu : P.underlying t = some (.slice (P.elem t))) (A : Option Addr) (n c : Nat) (hx : a.eval x = .slice A n c) : (execOp a.eval oi).run P w = .ok (.value (.int .i64 n)) w := by
  unfold execOp
  simp only [ho, resolve, invoke, builtin, Sem.run_bind, Sem.run_pure, Result.andThen_ok, List.map_toArray, List.map_cons, List.map_nil, hx, run_len_slice w t _ A n c hu]
  rfl
theorem exec_subI {P : Program} {oi : Oper} {a : Act} {w : World} (t : TypeId) (x y : Operand) (rt : TypeId) (ho : oi.op = .binOp .sub t x y rt) (m n z : Int) (hx : a.eval x = .int .i64 m) (hy : a.eval y = .int .i64 n) (hz : IntKind.i64.wrap (m - n) = z) : (execOp a.eval oi).run P w = .ok (.value (.int .i64 z)) w :=
  exec_bin .sub t rt x y ho _ _ _ hx hy (by simp [go_sem]) (by rw [← hz]; simp [go_sem])
theorem exec_addI {P : Program} {oi : Oper} {a : Act} {w : World} (t : TypeId) (x y : Operand) (rt : TypeId) (ho : oi.op = .binOp .add t x y rt) (m n z : Int) (hx : a.eval x = .int .i64 m) (hy : a.eval y = .int .i64 n) (hz : IntKind.i64.wrap (m + n) = z) : (execOp a.eval oi).run P w = .ok (.value (.int .i64 z)) w :=
  exec_bin .add t rt x y ho _ _ _ hx hy (by simp [go_sem]) (by rw [← hz]; simp [go_sem])

theorem put_ne {a : Act} {d j : Tmp} {u : Value} (h : (d == j) = false) : (a.put (some d) u).eval (.tmp j) = a.eval (.tmp j) := by
  have h' : d ≠ j := by simpa using h
  simp [Act.put, Act.eval, Array.getElem?_setIfInBounds_ne h']
theorem put_eq {a : Act} {d : Tmp} {u : Value} (h : decide (d < a.tmps.size) = true) : (a.put (some d) u).eval (.tmp d) = u := by
  have h' : d < a.tmps.size := of_decide_eq_true h
  simp [Act.put, Act.eval, h']
theorem exec_not {P : Program} {oi : Oper} {a : Act} {w : World} (t : TypeId) (x : Operand) (ho : oi.op = .unOp .not t x) (b : Bool) (hx : a.eval x = .bool b) : (execOp a.eval oi).run P w = .ok (.value (.bool (!b))) w := by
  unfold execOp
  simp only [ho, hx]
  simp [go_sem]
theorem own_below {w w' : World} {base : Nat} {e : TypeId} {size : Nat} {v : Value} {n : Nat} {xs : List Value} (h : w.ownsRow base e size v n xs) (hb : Below w.heap.size w w') : w'.ownsRow base e size v n xs := by
  refine ⟨h.1, ?_⟩
  rcases h.2 with hn | ⟨g, cap, cur, rfl, hbg, hg, rest⟩
  · exact .inl hn
  · exact .inr ⟨g, cap, cur, rfl, hbg, (hb.block g (Array.getElem?_eq_some_iff.1 hg).1).trans hg, rest⟩
theorem own_only {w w' : World} {base g0 : Nat} {e : TypeId} {size : Nat} {v : Value} {n : Nat} {xs : List Value} (h : w.ownsRow base e size v n xs) (ho : Only g0 w w') (hg0 : g0 < base) : w'.ownsRow base e size v n xs := by
  refine ⟨h.1, ?_⟩
  rcases h.2 with hn | ⟨g, cap, cur, rfl, hbg, hg, rest⟩
  · exact .inl hn
  · exact .inr ⟨g, cap, cur, rfl, hbg, (ho.block g (by omega)).trans hg, rest⟩
theorem own_lower {w : World} {b1 b2 : Nat} {e : TypeId} {size : Nat} {v : Value} {n : Nat} {xs : List Value} (h : w.ownsRow b2 e size v n xs) (hb : b1 ≤ b2) : w.ownsRow b1 e size v n xs := by
  refine ⟨h.1, ?_⟩
  rcases h.2 with hn | ⟨g, cap, cur, rfl, hbg, hg, rest⟩
  · exact .inl hn
  · exact .inr ⟨g, cap, cur, rfl, Nat.le_trans hb hbg, hg, rest⟩
end Go.Proofs.YtpmlihhofmblpaaGreatDoor


/- The library contracts that nat calls, laid at this program. -/
namespace Go.Proofs.YtpmlihhofmblpaaGreatDoor
open Go.Shelf Go.RowKit Go.Sort Go.Lib
def Tryz.lays169_ren : Go.Shelf.Ren := ⟨fun | 169 => 30 | n => n, fun | 70 => 49 | 9 => 9 | 0 => 0 | 72 => 52 | 37 => 50 | 127 => 92 | 3 => 3 | 5 => 5 | n => n, fun | n => n⟩
theorem Tryz.lays169 : Go.Proofs.Lays.n169 Tryz.prog Tryz.lays169_ren := {
  mixed := by kernel_rfl
  f169 := Tryz.func30.trans (congrArg some (by kernel_rfl))
  t0 := Tryz.underlying0
  a0 := Tryz.isAgg0
  z0 := Tryz.sizeOf0
  v0 := Tryz.zeroValue0
  t3 := Tryz.underlying3
  a3 := Tryz.isAgg3
  z3 := Tryz.sizeOf3
  v3 := Tryz.zeroValue3
  t9 := Tryz.underlying9
  a9 := Tryz.isAgg9
  z9 := Tryz.sizeOf9
  v9 := Tryz.zeroValue9
  t37 := Tryz.underlying50
  a37 := Tryz.isAgg50
  z37 := Tryz.sizeOf50
  v37 := Tryz.zeroValue50
  t70 := Tryz.underlying49
  a70 := Tryz.isAgg49
  z70 := Tryz.sizeOf49
  v70 := Tryz.zeroValue49
  t72 := Tryz.underlying52
  a72 := Tryz.isAgg52
  z72 := Tryz.sizeOf52
  v72 := Tryz.zeroValue52
  t127 := Tryz.underlying92
  a127 := Tryz.isAgg92
  z127 := Tryz.sizeOf92
  v127 := Tryz.zeroValue92 }
theorem Tryz.Builder_Extra_169 : Builder.Extra Tryz.prog Tryz.lays169_ren := {
  sizeBuilder := by kernel_rfl
  liesBuilder := by kernel_rfl
  t5 := Tryz.underlying5
  a5 := Tryz.isAgg5
  z5 := Tryz.sizeOf5
  v5 := Tryz.zeroValue5
  infoByte := by kernel_rfl
  cellsByte := by kernel_rfl
  sizeByte := by kernel_rfl
  neB5 := by decide }
theorem Tryz.Builder_String_any (B b : Nat) (l : List UInt8) (w : World) (h : Lib.IsBuilder 52 5 B b (Lib.byteCells l) w) (hBw : B ≤ w.heap.size) :
    Calls Tryz.prog 30 #[.pointer (some ⟨b, 0, none⟩)] w fun e w' => e = .returned (.string ⟨l.toArray⟩) ∧ Below B w w' := Any.Builder_String_any Tryz.lays169 Tryz.Builder_Extra_169 B b l w h hBw
def Tryz.lays161_ren : Go.Shelf.Ren := ⟨fun | 161 => 108 | 231 => 133 | 227 => 134 | 233 => 135 | 235 => 136 | 228 => 148 | 197 => 149 | 151 => 150 | 260 => 153 | 152 => 154 | 137 => 155 | 119 => 156 | 224 => 123 | 225 => 122 | 217 => 121 | 266 => 145 | n => n, fun | 9 => 9 | 4 => 4 | 3 => 3 | 5 => 5 | 117 => 157 | 116 => 156 | 0 => 0 | 124 => 160 | 105 => 168 | 21 => 21 | 119 => 175 | 46 => 111 | 139 => 178 | 138 => 177 | n => n, fun | 3 => 6 | 4 => 7 | n => n⟩
theorem Tryz.lays161 : Go.Proofs.Lays.n161 Tryz.prog Tryz.lays161_ren := {
  mixed := by kernel_rfl
  f119 := Tryz.func156.trans (congrArg some (by kernel_rfl))
  f137 := Tryz.func155.trans (congrArg some (by kernel_rfl))
  f151 := Tryz.func150.trans (congrArg some (by kernel_rfl))
  f152 := Tryz.func154.trans (congrArg some (by kernel_rfl))
  f161 := Tryz.func108.trans (congrArg some (by kernel_rfl))
  f197 := Tryz.func149.trans (congrArg some (by kernel_rfl))
  f217 := Tryz.func121.trans (congrArg some (by kernel_rfl))
  f224 := Tryz.func123.trans (congrArg some (by kernel_rfl))
  f225 := Tryz.func122.trans (congrArg some (by kernel_rfl))
  f227 := Tryz.func134.trans (congrArg some (by kernel_rfl))
  f228 := Tryz.func148.trans (congrArg some (by kernel_rfl))
  f231 := Tryz.func133.trans (congrArg some (by kernel_rfl))
  f233 := Tryz.func135.trans (congrArg some (by kernel_rfl))
  f235 := Tryz.func136.trans (congrArg some (by kernel_rfl))
  f260 := Tryz.func153.trans (congrArg some (by kernel_rfl))
  f266 := Tryz.func145.trans (congrArg some (by kernel_rfl))
  t0 := Tryz.underlying0
  a0 := Tryz.isAgg0
  z0 := Tryz.sizeOf0
  v0 := Tryz.zeroValue0
  t3 := Tryz.underlying3
  a3 := Tryz.isAgg3
  z3 := Tryz.sizeOf3
  v3 := Tryz.zeroValue3
  t4 := Tryz.underlying4
  a4 := Tryz.isAgg4
  z4 := Tryz.sizeOf4
  v4 := Tryz.zeroValue4
  t5 := Tryz.underlying5
  a5 := Tryz.isAgg5
  z5 := Tryz.sizeOf5
  v5 := Tryz.zeroValue5
  t9 := Tryz.underlying9
  a9 := Tryz.isAgg9
  z9 := Tryz.sizeOf9
  v9 := Tryz.zeroValue9
  t21 := Tryz.underlying21
  a21 := Tryz.isAgg21
  z21 := Tryz.sizeOf21
  v21 := Tryz.zeroValue21
  t46 := Tryz.underlying111
  a46 := Tryz.isAgg111
  z46 := Tryz.sizeOf111
  v46 := Tryz.zeroValue111
  t105 := Tryz.underlying168
  a105 := Tryz.isAgg168
  z105 := Tryz.sizeOf168
  v105 := Tryz.zeroValue168
  t116 := Tryz.underlying156
  a116 := Tryz.isAgg156
  z116 := Tryz.sizeOf156
  t117 := Tryz.underlying157
  a117 := Tryz.isAgg157
  z117 := Tryz.sizeOf157
  v117 := Tryz.zeroValue157
  t119 := Tryz.underlying175
  a119 := Tryz.isAgg175
  z119 := Tryz.sizeOf175
  t124 := Tryz.underlying160
  a124 := Tryz.isAgg160
  z124 := Tryz.sizeOf160
  v124 := Tryz.zeroValue160
  t138 := Tryz.underlying177
  a138 := Tryz.isAgg177
  z138 := Tryz.sizeOf177
  v138 := Tryz.zeroValue177
  t139 := Tryz.underlying178
  a139 := Tryz.isAgg178
  z139 := Tryz.sizeOf178
  v139 := Tryz.zeroValue178
  g3 := by kernel_rfl
  g4 := by kernel_rfl }
theorem Tryz.strings_TrimLeft_one (s : ByteArray) (c : UInt8) (hc : c.toNat < 128) (w : World) :
    Calls Tryz.prog 108 #[.string s, .string ⟨#[c]⟩] w fun e w' => e = .returned (.string ⟨(Lib.trimLeftB s.data.toList c).toArray⟩) ∧ w' = w := Any.strings_TrimLeft_one Tryz.lays161 s c hc w
def Tryz.lays134_ren : Go.Shelf.Ren := ⟨fun | 134 => 109 | 129 => 137 | n => n, fun | 53 => 89 | 3 => 3 | 4 => 4 | 46 => 111 | 5 => 5 | 9 => 9 | n => n, fun | n => n⟩
theorem Tryz.lays134 : Go.Proofs.Lays.n134 Tryz.prog Tryz.lays134_ren := {
  mixed := by kernel_rfl
  f129 := Tryz.func137.trans (congrArg some (by kernel_rfl))
  f134 := Tryz.func109.trans (congrArg some (by kernel_rfl))
  t3 := Tryz.underlying3
  a3 := Tryz.isAgg3
  z3 := Tryz.sizeOf3
  v3 := Tryz.zeroValue3
  t4 := Tryz.underlying4
  a4 := Tryz.isAgg4
  z4 := Tryz.sizeOf4
  v4 := Tryz.zeroValue4
  t5 := Tryz.underlying5
  a5 := Tryz.isAgg5
  z5 := Tryz.sizeOf5
  v5 := Tryz.zeroValue5
  t9 := Tryz.underlying9
  a9 := Tryz.isAgg9
  z9 := Tryz.sizeOf9
  v9 := Tryz.zeroValue9
  t46 := Tryz.underlying111
  a46 := Tryz.isAgg111
  z46 := Tryz.sizeOf111
  v46 := Tryz.zeroValue111
  t53 := Tryz.underlying89
  a53 := Tryz.isAgg89
  z53 := Tryz.sizeOf89
  v53 := Tryz.zeroValue89 }
theorem Tryz.bits_LeadingZeros64 (x : Int) (w : World) (h0 : 0 ≤ x) (h1 : x ≤ 18446744073709551615) :
    Calls Tryz.prog 109 #[.int .u64 x] w fun e w' => e = .returned (.int .i64 (64 - (Lib.bitLen x.toNat : Int))) ∧ w' = w := Any.bits_LeadingZeros64 Tryz.lays134 x w h0 h1
def Tryz.lays106_ren : Go.Shelf.Ren := ⟨fun | 106 => 102 | 213 => 129 | 265 => 147 | n => n, fun | 9 => 9 | 3 => 3 | n => n, fun | n => n⟩
theorem Tryz.lays106 : Go.Proofs.Lays.n106 Tryz.prog Tryz.lays106_ren := {
  mixed := by kernel_rfl
  f106 := Tryz.func102.trans (congrArg some (by kernel_rfl))
  f213 := Tryz.func129.trans (congrArg some (by kernel_rfl))
  f265 := Tryz.func147.trans (congrArg some (by kernel_rfl))
  t3 := Tryz.underlying3
  a3 := Tryz.isAgg3
  z3 := Tryz.sizeOf3
  v3 := Tryz.zeroValue3
  t9 := Tryz.underlying9
  a9 := Tryz.isAgg9
  z9 := Tryz.sizeOf9
  v9 := Tryz.zeroValue9 }
theorem Tryz.strings_Compare (a b : ByteArray) (w : World) :
    Calls Tryz.prog 102 #[.string a, .string b] w fun e w' => e = .returned (.int .i64 (Lib.compareBytes a.data.toList b.data.toList)) ∧ w' = w := Any.strings_Compare Tryz.lays106 a b w
def Tryz.lays103_ren : Go.Shelf.Ren := ⟨fun | 103 => 34 | 210 => 62 | 206 => 94 | n => n, fun | 9 => 9 | 4 => 4 | 24 => 63 | 3 => 3 | n => n, fun | n => n⟩
theorem Tryz.lays103 : Go.Proofs.Lays.n103 Tryz.prog Tryz.lays103_ren := {
  mixed := by kernel_rfl
  f103 := Tryz.func34.trans (congrArg some (by kernel_rfl))
  f206 := Tryz.func94.trans (congrArg some (by kernel_rfl))
  f210 := Tryz.func62.trans (congrArg some (by kernel_rfl))
  t3 := Tryz.underlying3
  a3 := Tryz.isAgg3
  z3 := Tryz.sizeOf3
  v3 := Tryz.zeroValue3
  t4 := Tryz.underlying4
  a4 := Tryz.isAgg4
  z4 := Tryz.sizeOf4
  v4 := Tryz.zeroValue4
  t9 := Tryz.underlying9
  a9 := Tryz.isAgg9
  z9 := Tryz.sizeOf9
  v9 := Tryz.zeroValue9
  t24 := Tryz.underlying63
  a24 := Tryz.isAgg63
  z24 := Tryz.sizeOf63
  v24 := Tryz.zeroValue63 }
theorem Tryz.strings_CutPrefix (s p : ByteArray) (w : World) :
    Calls Tryz.prog 34 #[.string s, .string p] w fun e w' => e = .returned (.tuple #[.string ⟨(Lib.trimPrefix s.data.toList p.data.toList).toArray⟩, .bool (Lib.hasPrefix s.data.toList p.data.toList)]) ∧ w' = w := Any.strings_CutPrefix Tryz.lays103 s p w
def Tryz.lays122_ren : Go.Shelf.Ren := ⟨fun | 122 => 101 | 215 => 128 | n => n, fun | 3 => 3 | 4 => 4 | n => n, fun | n => n⟩
theorem Tryz.lays122 : Go.Proofs.Lays.n122 Tryz.prog Tryz.lays122_ren := {
  mixed := by kernel_rfl
  f122 := Tryz.func101.trans (congrArg some (by kernel_rfl))
  f215 := Tryz.func128.trans (congrArg some (by kernel_rfl))
  t3 := Tryz.underlying3
  a3 := Tryz.isAgg3
  z3 := Tryz.sizeOf3
  v3 := Tryz.zeroValue3
  t4 := Tryz.underlying4
  a4 := Tryz.isAgg4
  z4 := Tryz.sizeOf4
  v4 := Tryz.zeroValue4 }
theorem Tryz.cmp_Compare_int (x y : Int) (w : World) :
    Calls Tryz.prog 101 #[.int .i64 x, .int .i64 y] w fun e w' => e = .returned (.int .i64 (Lib.compareInt x y)) ∧ w' = w := Any.cmp_Compare_int Tryz.lays122 x y w
def Tryz.lays283_ren : Go.Shelf.Ren := ⟨fun | 283 => 114 | n => n, fun | 3 => 3 | 9 => 9 | 4 => 4 | n => n, fun | n => n⟩
theorem Tryz.lays283 : Go.Proofs.Lays.n283 Tryz.prog Tryz.lays283_ren := {
  mixed := by kernel_rfl
  f283 := Tryz.func114.trans (congrArg some (by kernel_rfl))
  t3 := Tryz.underlying3
  a3 := Tryz.isAgg3
  z3 := Tryz.sizeOf3
  v3 := Tryz.zeroValue3
  t4 := Tryz.underlying4
  a4 := Tryz.isAgg4
  z4 := Tryz.sizeOf4
  v4 := Tryz.zeroValue4
  t9 := Tryz.underlying9
  a9 := Tryz.isAgg9
  z9 := Tryz.sizeOf9
  v9 := Tryz.zeroValue9 }
theorem Tryz.internal_strconv_small (i : Nat) (h : i < 100) (w : World) :
    Calls Tryz.prog 114 #[.int .i64 i] w fun e w' => e = .returned (.string ⟨(Lib.decDigits i).toArray⟩) ∧ w' = w := Any.internal_strconv_small Tryz.lays283 i h w
def Tryz.laysM284_ren : Go.Shelf.Ren := ⟨fun | 284 => 115 | 129 => 137 | 317 => 140 | 318 => 141 | n => n, fun | 53 => 89 | 3 => 3 | 212 => 162 | 0 => 0 | 4 => 4 | 46 => 111 | 5 => 5 | 9 => 9 | n => n, fun | 17 => 1 | n => n⟩
theorem Tryz.laysM284 : Go.Proofs.LaysM.n284 Tryz.prog Tryz.laysM284_ren := {
  mixed := by kernel_rfl
  f129 := Tryz.func137.trans (congrArg some (by kernel_rfl))
  f284 := Tryz.func115.trans (congrArg some (by kernel_rfl))
  f317 := Tryz.func140.trans (congrArg some (by kernel_rfl))
  f318 := Tryz.func141.trans (congrArg some (by kernel_rfl))
  t0 := Tryz.underlying0
  a0 := Tryz.isAgg0
  z0 := Tryz.sizeOf0
  v0 := Tryz.zeroValue0
  t3 := Tryz.underlying3
  a3 := Tryz.isAgg3
  z3 := Tryz.sizeOf3
  v3 := Tryz.zeroValue3
  t4 := Tryz.underlying4
  a4 := Tryz.isAgg4
  z4 := Tryz.sizeOf4
  v4 := Tryz.zeroValue4
  t5 := Tryz.underlying5
  a5 := Tryz.isAgg5
  z5 := Tryz.sizeOf5
  v5 := Tryz.zeroValue5
  t9 := Tryz.underlying9
  a9 := Tryz.isAgg9
  z9 := Tryz.sizeOf9
  v9 := Tryz.zeroValue9
  t46 := Tryz.underlying111
  a46 := Tryz.isAgg111
  z46 := Tryz.sizeOf111
  v46 := Tryz.zeroValue111
  t53 := Tryz.underlying89
  a53 := Tryz.isAgg89
  z53 := Tryz.sizeOf89
  v53 := Tryz.zeroValue89
  t212 := Tryz.underlying162
  a212 := Tryz.isAgg162
  z212 := Tryz.sizeOf162
  v212 := Tryz.zeroValue162
  g17 := by kernel_rfl
  i0 := by kernel_rfl
  i3 := by kernel_rfl
  i4 := by kernel_rfl
  i5 := by kernel_rfl
  i9 := by kernel_rfl
  i46 := by kernel_rfl
  i53 := by kernel_rfl
  i212 := by kernel_rfl
  m17 := by kernel_rfl }
theorem Tryz.internal_strconv_numDigits (u : Nat) (h1 : 1 ≤ u) (h2 : u < 18446744073709551616) (w : World) (htab : Lib.TabIs Tryz.prog w "internal/strconv.uint64pow10" .u64 Lib.pow10Tab) :
    Calls Tryz.prog 115 #[.int .u64 u] w fun e w' => e = .returned (.int .i64 (Lib.nDigits u)) ∧ w' = w := Any.internal_strconv_numDigits Tryz.laysM284 u h1 h2 w htab
def Tryz.lays285_ren : Go.Shelf.Ren := ⟨fun | 285 => 116 | n => n, fun | 37 => 50 | 53 => 89 | 3 => 3 | 4 => 4 | 51 => 142 | 9 => 9 | 5 => 5 | 0 => 0 | n => n, fun | n => n⟩
theorem Tryz.lays285 : Go.Proofs.Lays.n285 Tryz.prog Tryz.lays285_ren := {
  mixed := by kernel_rfl
  f285 := Tryz.func116.trans (congrArg some (by kernel_rfl))
  t0 := Tryz.underlying0
  a0 := Tryz.isAgg0
  z0 := Tryz.sizeOf0
  v0 := Tryz.zeroValue0
  t3 := Tryz.underlying3
  a3 := Tryz.isAgg3
  z3 := Tryz.sizeOf3
  v3 := Tryz.zeroValue3
  t4 := Tryz.underlying4
  a4 := Tryz.isAgg4
  z4 := Tryz.sizeOf4
  v4 := Tryz.zeroValue4
  t5 := Tryz.underlying5
  a5 := Tryz.isAgg5
  z5 := Tryz.sizeOf5
  v5 := Tryz.zeroValue5
  t9 := Tryz.underlying9
  a9 := Tryz.isAgg9
  z9 := Tryz.sizeOf9
  v9 := Tryz.zeroValue9
  t37 := Tryz.underlying50
  a37 := Tryz.isAgg50
  z37 := Tryz.sizeOf50
  v37 := Tryz.zeroValue50
  t51 := Tryz.underlying142
  a51 := Tryz.isAgg142
  z51 := Tryz.sizeOf142
  v51 := Tryz.zeroValue142
  t53 := Tryz.underlying89
  a53 := Tryz.isAgg89
  z53 := Tryz.sizeOf89
  v53 := Tryz.zeroValue89 }
theorem Tryz.internal_strconv_formatBase10 (blk off cap : Nat) (u : Nat) (d : Array UInt8) (w : World) (hH : Holds (fun (b : UInt8) => Value.int .u8 (b.toNat : Int)) w blk off d) (hu : u < 10 ^ d.size) (hu64 : u < 18446744073709551616) (hsz : d.size < 4611686018427387904) :
    Calls Tryz.prog 116 #[.slice (some ⟨blk, off, none⟩) d.size cap, .int .u64 u] w fun e w' =>
      e = .returned (.tuple #[]) ∧ ∃ (n v' : Nat) (dk : Array UInt8), w' = (putRow (fun (b : UInt8) => Value.int .u8 (b.toNat : Int)) w blk off dk).drewN n ∧ FmtInv d.size u 0 v' dk := Any.internal_strconv_formatBase10 Tryz.lays285 blk off cap u d w hH hu hu64 hsz
def Tryz.lays217_ren : Go.Shelf.Ren := ⟨fun | 217 => 121 | 266 => 145 | n => n, fun | 9 => 9 | 5 => 5 | 3 => 3 | n => n, fun | n => n⟩
theorem Tryz.lays217 : Go.Proofs.Lays.n217 Tryz.prog Tryz.lays217_ren := {
  mixed := by kernel_rfl
  f217 := Tryz.func121.trans (congrArg some (by kernel_rfl))
  f266 := Tryz.func145.trans (congrArg some (by kernel_rfl))
  t3 := Tryz.underlying3
  a3 := Tryz.isAgg3
  z3 := Tryz.sizeOf3
  v3 := Tryz.zeroValue3
  t5 := Tryz.underlying5
  a5 := Tryz.isAgg5
  z5 := Tryz.sizeOf5
  v5 := Tryz.zeroValue5
  t9 := Tryz.underlying9
  a9 := Tryz.isAgg9
  z9 := Tryz.sizeOf9
  v9 := Tryz.zeroValue9 }
theorem Tryz.stringslite_IndexByte (s : ByteArray) (c : Int) (w : World) :
    Calls Tryz.prog 121 #[.string s, .int .u8 c] w fun e w' => e = .returned (.int .i64 (Lib.indexByte s.data.toList c.toNat.toUInt8)) ∧ w' = w := Any.stringslite_IndexByte Tryz.lays217 s c w
def Tryz.lays219_ren : Go.Shelf.Ren := ⟨fun | 219 => 95 | 217 => 121 | 225 => 122 | 224 => 123 | 267 => 124 | 266 => 145 | 314 => 146 | n => n, fun | 9 => 9 | 3 => 3 | 4 => 4 | 5 => 5 | 46 => 111 | 146 => 143 | 51 => 142 | n => n, fun | 1 => 0 | n => n⟩
theorem Tryz.lays219 : Go.Proofs.Lays.n219 Tryz.prog Tryz.lays219_ren := {
  mixed := by kernel_rfl
  f217 := Tryz.func121.trans (congrArg some (by kernel_rfl))
  f219 := Tryz.func95.trans (congrArg some (by kernel_rfl))
  f224 := Tryz.func123.trans (congrArg some (by kernel_rfl))
  f225 := Tryz.func122.trans (congrArg some (by kernel_rfl))
  f266 := Tryz.func145.trans (congrArg some (by kernel_rfl))
  f267 := Tryz.func124.trans (congrArg some (by kernel_rfl))
  f314 := Tryz.func146.trans (congrArg some (by kernel_rfl))
  t3 := Tryz.underlying3
  a3 := Tryz.isAgg3
  z3 := Tryz.sizeOf3
  v3 := Tryz.zeroValue3
  t4 := Tryz.underlying4
  a4 := Tryz.isAgg4
  z4 := Tryz.sizeOf4
  v4 := Tryz.zeroValue4
  t5 := Tryz.underlying5
  a5 := Tryz.isAgg5
  z5 := Tryz.sizeOf5
  v5 := Tryz.zeroValue5
  t9 := Tryz.underlying9
  a9 := Tryz.isAgg9
  z9 := Tryz.sizeOf9
  v9 := Tryz.zeroValue9
  t46 := Tryz.underlying111
  a46 := Tryz.isAgg111
  z46 := Tryz.sizeOf111
  v46 := Tryz.zeroValue111
  t51 := Tryz.underlying142
  a51 := Tryz.isAgg142
  z51 := Tryz.sizeOf142
  v51 := Tryz.zeroValue142
  t146 := Tryz.underlying143
  a146 := Tryz.isAgg143
  z146 := Tryz.sizeOf143
  v146 := Tryz.zeroValue143
  g1 := by kernel_rfl }
theorem Tryz.stringslite_Index_one (s : ByteArray) (c : UInt8) (w : World) :
    Calls Tryz.prog 95 #[.string s, .string ⟨#[c]⟩] w fun e w' => e = .returned (.int .i64 (Lib.indexByte s.data.toList c)) ∧ w' = w := Any.stringslite_Index_one Tryz.lays219 s c w
def Tryz.lays145_ren : Go.Shelf.Ren := ⟨fun | 145 => 35 | 220 => 63 | 219 => 95 | 217 => 121 | 225 => 122 | 224 => 123 | 267 => 124 | 266 => 145 | 314 => 146 | n => n, fun | 9 => 9 | 4 => 4 | 59 => 65 | 3 => 3 | 5 => 5 | 46 => 111 | 146 => 143 | 51 => 142 | n => n, fun | 1 => 0 | n => n⟩
theorem Tryz.lays145 : Go.Proofs.Lays.n145 Tryz.prog Tryz.lays145_ren := {
  mixed := by kernel_rfl
  f145 := Tryz.func35.trans (congrArg some (by kernel_rfl))
  f217 := Tryz.func121.trans (congrArg some (by kernel_rfl))
  f219 := Tryz.func95.trans (congrArg some (by kernel_rfl))
  f220 := Tryz.func63.trans (congrArg some (by kernel_rfl))
  f224 := Tryz.func123.trans (congrArg some (by kernel_rfl))
  f225 := Tryz.func122.trans (congrArg some (by kernel_rfl))
  f266 := Tryz.func145.trans (congrArg some (by kernel_rfl))
  f267 := Tryz.func124.trans (congrArg some (by kernel_rfl))
  f314 := Tryz.func146.trans (congrArg some (by kernel_rfl))
  t3 := Tryz.underlying3
  a3 := Tryz.isAgg3
  z3 := Tryz.sizeOf3
  v3 := Tryz.zeroValue3
  t4 := Tryz.underlying4
  a4 := Tryz.isAgg4
  z4 := Tryz.sizeOf4
  v4 := Tryz.zeroValue4
  t5 := Tryz.underlying5
  a5 := Tryz.isAgg5
  z5 := Tryz.sizeOf5
  v5 := Tryz.zeroValue5
  t9 := Tryz.underlying9
  a9 := Tryz.isAgg9
  z9 := Tryz.sizeOf9
  v9 := Tryz.zeroValue9
  t46 := Tryz.underlying111
  a46 := Tryz.isAgg111
  z46 := Tryz.sizeOf111
  v46 := Tryz.zeroValue111
  t51 := Tryz.underlying142
  a51 := Tryz.isAgg142
  z51 := Tryz.sizeOf142
  v51 := Tryz.zeroValue142
  t59 := Tryz.underlying65
  a59 := Tryz.isAgg65
  z59 := Tryz.sizeOf65
  v59 := Tryz.zeroValue65
  t146 := Tryz.underlying143
  a146 := Tryz.isAgg143
  z146 := Tryz.sizeOf143
  v146 := Tryz.zeroValue143
  g1 := by kernel_rfl }
theorem Tryz.strings_Cut (s sep : ByteArray) (m : Int) (w : World) (hs : s.size < 4294967281) (hm : w.cell? ⟨0, 0, none⟩ = some (.int .i64 m)) :
    Calls Tryz.prog 35 #[.string s, .string sep] w fun e w' => e = .returned (.tuple #[.string ⟨(Lib.cut s.data.toList sep.data.toList).1.toArray⟩, .string ⟨(Lib.cut s.data.toList sep.data.toList).2.1.toArray⟩, .bool (Lib.cut s.data.toList sep.data.toList).2.2]) ∧ ∃ n, w' = w.drewN n := Any.strings_Cut Tryz.lays145 s sep m w hs hm
def Tryz.lays264_ren : Go.Shelf.Ren := ⟨fun | 264 => 119 | n => n, fun | 53 => 89 | 46 => 111 | n => n, fun | n => n⟩
theorem Tryz.lays264 : Go.Proofs.Lays.n264 Tryz.prog Tryz.lays264_ren := {
  mixed := by kernel_rfl
  f264 := Tryz.func119.trans (congrArg some (by kernel_rfl))
  t46 := Tryz.underlying111
  a46 := Tryz.isAgg111
  z46 := Tryz.sizeOf111
  v46 := Tryz.zeroValue111
  t53 := Tryz.underlying89
  a53 := Tryz.isAgg89
  z53 := Tryz.sizeOf89
  v53 := Tryz.zeroValue89 }
open Go.RowKit Go.Lib in
theorem Tryz.bits_Mul64 (x y : Nat) (hx : x < 18446744073709551616) (hy : y < 18446744073709551616) (w : World) :
    Calls Tryz.prog 119 #[.int .u64 x, .int .u64 y] w fun e w' => e = .returned (.tuple #[.int .u64 ((x * y / 18446744073709551616 : Nat) : Int), .int .u64 ((x * y % 18446744073709551616 : Nat) : Int)]) ∧ w' = w := Any.bits_Mul64 Tryz.lays264 x y hx hy w
def Tryz.lays105_ren : Go.Shelf.Ren := ⟨fun | 105 => 58 | 212 => 90 | 99 => 91 | 165 => 92 | 166 => 28 | 170 => 93 | 169 => 30 | 263 => 118 | 264 => 119 | 206 => 94 | 240 => 54 | 241 => 120 | 276 => 84 | 277 => 144 | n => n, fun | 9 => 9 | 3 => 3 | 4 => 4 | 20 => 20 | 0 => 0 | 46 => 111 | 109 => 112 | 5 => 5 | 72 => 52 | 76 => 55 | 51 => 142 | 146 => 143 | 53 => 89 | 148 => 131 | 70 => 49 | 37 => 50 | 75 => 54 | 127 => 92 | 164 => 105 | 80 => 59 | n => n, fun | n => n⟩
theorem Tryz.lays105 : Go.Proofs.Lays.n105 Tryz.prog Tryz.lays105_ren := {
  mixed := by kernel_rfl
  f99 := Tryz.func91.trans (congrArg some (by kernel_rfl))
  f105 := Tryz.func58.trans (congrArg some (by kernel_rfl))
  f165 := Tryz.func92.trans (congrArg some (by kernel_rfl))
  f166 := Tryz.func28.trans (congrArg some (by kernel_rfl))
  f169 := Tryz.func30.trans (congrArg some (by kernel_rfl))
  f170 := Tryz.func93.trans (congrArg some (by kernel_rfl))
  f206 := Tryz.func94.trans (congrArg some (by kernel_rfl))
  f212 := Tryz.func90.trans (congrArg some (by kernel_rfl))
  f240 := Tryz.func54.trans (congrArg some (by kernel_rfl))
  f241 := Tryz.func120.trans (congrArg some (by kernel_rfl))
  f263 := Tryz.func118.trans (congrArg some (by kernel_rfl))
  f264 := Tryz.func119.trans (congrArg some (by kernel_rfl))
  f276 := Tryz.func84.trans (congrArg some (by kernel_rfl))
  f277 := Tryz.func144.trans (congrArg some (by kernel_rfl))
  t0 := Tryz.underlying0
  a0 := Tryz.isAgg0
  z0 := Tryz.sizeOf0
  v0 := Tryz.zeroValue0
  t3 := Tryz.underlying3
  a3 := Tryz.isAgg3
  z3 := Tryz.sizeOf3
  v3 := Tryz.zeroValue3
  t4 := Tryz.underlying4
  a4 := Tryz.isAgg4
  z4 := Tryz.sizeOf4
  v4 := Tryz.zeroValue4
  t5 := Tryz.underlying5
  a5 := Tryz.isAgg5
  z5 := Tryz.sizeOf5
  v5 := Tryz.zeroValue5
  t9 := Tryz.underlying9
  a9 := Tryz.isAgg9
  z9 := Tryz.sizeOf9
  v9 := Tryz.zeroValue9
  t20 := Tryz.underlying20
  a20 := Tryz.isAgg20
  z20 := Tryz.sizeOf20
  v20 := Tryz.zeroValue20
  t37 := Tryz.underlying50
  a37 := Tryz.isAgg50
  z37 := Tryz.sizeOf50
  v37 := Tryz.zeroValue50
  t46 := Tryz.underlying111
  a46 := Tryz.isAgg111
  z46 := Tryz.sizeOf111
  v46 := Tryz.zeroValue111
  t51 := Tryz.underlying142
  a51 := Tryz.isAgg142
  z51 := Tryz.sizeOf142
  v51 := Tryz.zeroValue142
  t53 := Tryz.underlying89
  a53 := Tryz.isAgg89
  z53 := Tryz.sizeOf89
  v53 := Tryz.zeroValue89
  t70 := Tryz.underlying49
  a70 := Tryz.isAgg49
  z70 := Tryz.sizeOf49
  v70 := Tryz.zeroValue49
  t72 := Tryz.underlying52
  a72 := Tryz.isAgg52
  z72 := Tryz.sizeOf52
  v72 := Tryz.zeroValue52
  t75 := Tryz.underlying54
  a75 := Tryz.isAgg54
  z75 := Tryz.sizeOf54
  v75 := Tryz.zeroValue54
  t76 := Tryz.underlying55
  a76 := Tryz.isAgg55
  z76 := Tryz.sizeOf55
  v76 := Tryz.zeroValue55
  t109 := Tryz.underlying112
  a109 := Tryz.isAgg112
  z109 := Tryz.sizeOf112
  v109 := Tryz.zeroValue112
  t127 := Tryz.underlying92
  a127 := Tryz.isAgg92
  z127 := Tryz.sizeOf92
  v127 := Tryz.zeroValue92
  t146 := Tryz.underlying143
  a146 := Tryz.isAgg143
  z146 := Tryz.sizeOf143
  v146 := Tryz.zeroValue143
  t148 := Tryz.underlying131
  a148 := Tryz.isAgg131
  z148 := Tryz.sizeOf131
  v148 := Tryz.zeroValue131
  t164 := Tryz.underlying105
  a164 := Tryz.isAgg105
  z164 := Tryz.sizeOf105
  v164 := Tryz.zeroValue105 }
theorem Tryz.Builder_Extra_105 : Builder.Extra Tryz.prog Tryz.lays105_ren := {
  sizeBuilder := by kernel_rfl
  liesBuilder := by kernel_rfl
  t5 := Tryz.underlying5
  a5 := Tryz.isAgg5
  z5 := Tryz.sizeOf5
  v5 := Tryz.zeroValue5
  infoByte := by kernel_rfl
  cellsByte := by kernel_rfl
  sizeByte := by kernel_rfl
  neB5 := by decide }
theorem Tryz.strings_Repeat (s : ByteArray) (c : Nat) (w : World) (hc : c ≤ 9223372036854775807) (hlen : s.size * c ≤ 140737488355328) :
    Calls Tryz.prog 58 #[.string s, .int .i64 c] w fun e w' => e = .returned (.string ⟨(Lib.repeatL s.data.toList c).toArray⟩) ∧ Below w.heap.size w w' := Any.strings_Repeat Tryz.lays105 Tryz.Builder_Extra_105 s c w hc hlen
def Tryz.laysSlE35_f88_ren : Go.Shelf.Ren := ⟨fun | 35 => 88 | n => n, fun | 22 => 85 | 23 => 89 | 3 => 3 | 4 => 4 | 0 => 0 | n => n, fun | n => n⟩
theorem Tryz.laysSlE35_f88 : Go.Proofs.SlLaysE.n35 Tryz.prog Tryz.laysSlE35_f88_ren := {
  mixed := by kernel_rfl
  f35 := ⟨Tryz.f88.name, by decide, Tryz.func88.trans (congrArg some (by kernel_rfl))⟩
  t0 := Tryz.underlying0
  a0 := Tryz.isAgg0
  z0 := Tryz.sizeOf0
  v0 := Tryz.zeroValue0
  t3 := Tryz.underlying3
  a3 := Tryz.isAgg3
  z3 := Tryz.sizeOf3
  v3 := Tryz.zeroValue3
  t4 := Tryz.underlying4
  a4 := Tryz.isAgg4
  z4 := Tryz.sizeOf4
  v4 := Tryz.zeroValue4
  t22 := Tryz.underlying85
  a22 := Tryz.isAgg85
  z22 := Tryz.sizeOf85
  v22 := Tryz.zeroValue85
  a23 := Tryz.isAgg89
  z23 := Tryz.sizeOf89 }
theorem Tryz.slices_Reverse {α : Type} [Inhabited α] (enc : α → Value) (h1 : OneCell enc) (blk off cap : Nat) (zs : List α) (w : World) (hH : Holds enc w blk off zs.toArray) (hsz : zs.length ≤ 9223372036854775807) :
    Calls Tryz.prog 88 #[.slice (some ⟨blk, off, none⟩) zs.length cap] w fun e w' => e = .returned (.tuple #[]) ∧ ∃ n, w' = putRow enc (Sort.ahead w n) blk off zs.reverse.toArray := AnyE.slices_Reverse Tryz.laysSlE35_f88 enc h1 blk off cap zs w hH hsz
end Go.Proofs.YtpmlihhofmblpaaGreatDoor

/- A region that draws its order, whose last stores change what its loads read: 'S' is asked only until the first of those stores. -/
namespace Go.Proofs.YtpmlihhofmblpaaGreatDoor
open Go.RowKit Hm Wm

section
variable {P : Program} {md : Region.Mode} {ops : Array Oper} {Q : Exit → Act → World → Prop} {S : Array Bool → World → Prop} {late : List Nat}
def lateFree (late : List Nat) (listed : Array Bool) : Prop := ∀ s ∈ late, listed.getD s true = false
/-- Whatever order is picked from here on, and 'S' (of what has come up, and the world) holds behind every operation. -/
def wpAnyT (P : Program) (md : Region.Mode) (ops : Array Oper) (Q : Exit → Act → World → Prop) (S : Array Bool → World → Prop) : Nat → Array Bool → Act → World → Prop
  | 0, listed, a, w => Region.ready md ops listed = [] ∧ Q .normal a w
  | fuel + 1, listed, a, w =>
    (Region.ready md ops listed = [] → Q .normal a w) ∧
    ∀ i ∈ Region.ready md ops listed, wpOp P ops Q i (fun a' w' => S (listed.setIfInBounds i true) w' ∧ wpAnyT P md ops Q S fuel (listed.setIfInBounds i true) a' w') a w
theorem wpAny_of_late : ∀ (fuel : Nat) (listed : Array Bool) (a : Act) (w : World), wpAnyT P md ops Q S fuel listed a w → wpAny P md ops Q fuel listed a w
  | 0, _, _, _, h => h
  | fuel + 1, _, _, _, h => ⟨h.1, fun i hi => wpOp_mono (fun a' w' h' => wpAny_of_late fuel _ a' w' h'.2) (h.2 i hi)⟩
theorem wpAnyT_first {i : Nat} {oi : Oper} {v : Value} (hi : ops[i]? = some oi) (hsel : ∀ (j : Nat) (o : Oper) cs b, ops[j]? = some o → o.op ≠ .select cs b)
    (hQ : ∀ c a w, Q (.panic c) (a.put oi.dst v) w → Q (.panic c) a w) (hlate : ∀ s ∈ late, s ≠ i ∧ ∀ o, ops[s]? = some o → ∃ e ∈ o.after, Region.binds md e = true ∧ (e.on = i ∨ e.on ∈ late))
    (hSi : ∀ L W, S (L.setIfInBounds i true) W → S L W) :
    ∀ (fuel : Nat) (listed : Array Bool) (a : Act) (w : World),
      (∀ j oj, ops[j]? = some oj → j ≠ i → listed.getD j true = false → (∀ e ∈ oj.after, Region.binds md e = true → e.on ≠ i) → oi.apart ops oj = true) →
      i ∈ Region.ready md ops listed → YieldsIf P ops (fun W => ∃ L, lateFree late L ∧ S L W) oi v a → lateFree late listed → S listed w → S (listed.setIfInBounds i true) w →
      wpAnyT P md ops Q S fuel (listed.setIfInBounds i true) (a.put oi.dst v) w → wpAnyT P md ops Q S (fuel + 1) listed a w := by
  intro fuel
  induction fuel with
  | zero =>
    intro listed a w _ hr hy hl hS hS' H
    refine ⟨fun h => (by rw [h] at hr; cases hr), fun j hj => ?_⟩
    by_cases hji : j = i
    · subst hji; exact hy.wpOp hi ⟨listed, hl, hS⟩ ⟨hS', H⟩
    · have := ready_mono hj hji
      rw [H.1] at this
      cases this
  | succ fuel ih =>
    intro listed a w hfree hr hy hl hS hS' H
    refine ⟨fun h => (by rw [h] at hr; cases hr), fun j hj => ?_⟩
    by_cases hji : j = i
    · subst hji; exact hy.wpOp hi ⟨listed, hl, hS⟩ ⟨hS', H⟩
    · have h1 := H.2 j (ready_mono hj hji)
      obtain ⟨hjun, oj, hoj, hall⟩ := mem_ready.1 hj
      have hnot : ∀ e ∈ oj.after, Region.binds md e = true → e.on ≠ i := fun e he hb heq => by
        have h1 := hall e he hb
        have h0 := (mem_ready.1 hr).1
        rw [heq] at h1
        rcases Nat.lt_or_ge i listed.size with h' | h'
        · simp [h'] at h0 h1; rw [h0] at h1; cases h1
        · simp [Array.getElem?_eq_none h'] at h1
      have hlj : ∀ s ∈ late, s ≠ j := fun s hs e => by
        subst e
        obtain ⟨e, he, hb, hon⟩ := (hlate s hs).2 oj hoj
        rcases hon with hon | hon
        · exact hnot e he hb hon
        · have h1 := hall e he hb
          have h0 := hl e.on hon
          rcases Nat.lt_or_ge e.on listed.size with h' | h'
          · simp [h'] at h0 h1; rw [h0] at h1; cases h1
          · simp [Array.getElem?_eq_none h'] at h1
      have hl1 : lateFree late (listed.setIfInBounds j true) := fun s hs => by rw [getD_set_ne true (Ne.symm (hlj s hs))]; exact hl s hs
      have h2 := wpOp_putIf hoj (hfree j oj hoj hji hjun hnot) (fun cs b => hsel i oi cs b hi) (fun cs b => hsel j oj cs b hoj) hQ hy h1
      have hfree' : ∀ k ok, ops[k]? = some ok → k ≠ i → (listed.setIfInBounds j true).getD k true = false →
          (∀ e ∈ ok.after, Region.binds md e = true → e.on ≠ i) → oi.apart ops ok = true := fun k ok hk hki hun hno => by
        refine hfree k ok hk hki ?_ hno
        by_cases hjk : j = k
        · subst hjk; exact hjun
        · rw [getD_set_ne true hjk] at hun; exact hun
      refine wpOp_mono (fun a' w' h3 => ?_) h2
      have hs3 := h3.2.1
      have hw3 := h3.2.2
      rw [Array.setIfInBounds_comm _ _ (Ne.symm hji)] at hs3 hw3
      exact ⟨hSi _ _ hs3, ih (listed.setIfInBounds j true) a' w' hfree' (ready_mono hr (Ne.symm hji)) h3.1 hl1 (hSi _ _ hs3) hs3 hw3⟩
/-- Whether the late ones wait for number i (for the kernel). -/
def waitsFor (md : Region.Mode) (ops : Array Oper) (late : List Nat) (i : Nat) : Bool := late.all fun s => s != i && (match ops[s]? with | some o => o.after.any fun e => Region.binds md e && (e.on == i || late.contains e.on) | none => true)
theorem waitsFor_spec {i : Nat} (h : waitsFor md ops late i = true) : ∀ s ∈ late, s ≠ i ∧ ∀ o, ops[s]? = some o → ∃ e ∈ o.after, Region.binds md e = true ∧ (e.on = i ∨ e.on ∈ late) := by
  intro s hs
  have h1 := List.all_eq_true.1 h s hs
  simp only [Bool.and_eq_true, bne_iff_ne, ne_eq] at h1
  refine ⟨h1.1, fun o ho => ?_⟩
  have h2 := h1.2
  rw [ho] at h2
  simp only [Array.any_eq_true, Bool.and_eq_true, Bool.or_eq_true, beq_iff_eq, List.contains_iff_mem] at h2
  obtain ⟨k, hk, h3, h4⟩ := h2
  exact ⟨_, Array.getElem_mem hk, h3, h4⟩
def lateFreeB (late : List Nat) (listed : Array Bool) : Bool := late.all fun s => listed.getD s true == false
theorem lateFreeB_spec {listed : Array Bool} (h : lateFreeB late listed = true) : lateFree late listed := fun s hs => by
  have h1 := List.all_eq_true.1 h s hs
  simpa using h1
variable {i fuel : Nat} {oi : Oper} {listed : Array Bool} {a : Act} {w : World}
theorem late_take (late : List Nat) (d : Option Tmp) (hi : ops[i]? = some oi) (hd : oi.dst = d) (hw : Region.wanted oi (yielded ops a.tmps) = true) (hs : Region.noSelect ops = true) (hf : Region.free md ops listed i = true) (hr : (Region.ready md ops listed).contains i = true)
    (hwt : waitsFor md ops late i = true) (hlf : lateFreeB late listed = true) (hSi : ∀ L W, S (L.setIfInBounds i true) W → S L W) (v : Value) (hQ : ∀ c a w, Q (.panic c) (a.put d v) w → Q (.panic c) a w) (hy : ∀ L W, lateFree late L → S L W → (execOp a.eval oi).run P W = .ok (.value v) W) (hS : S listed w) (hS' : S (listed.setIfInBounds i true) w)
    (h : wpAnyT P md ops Q S fuel (listed.setIfInBounds i true) (a.put d v) w) : wpAnyT P md ops Q S (fuel + 1) listed a w := by
  subst hd
  exact wpAnyT_first hi (Region.noSelect_spec hs) hQ (waitsFor_spec hwt) hSi fuel listed a w (Region.free_spec hi hf) (by simpa using hr) (.inl ⟨hw, fun W ⟨L, h1, h2⟩ => hy L W h1 h2⟩) (lateFreeB_spec hlf) hS hS' h
theorem late_one (hr : Region.ready md ops listed = [i]) (h : wpOp P ops Q i (fun a' w' => S (listed.setIfInBounds i true) w' ∧ wpAnyT P md ops Q S fuel (listed.setIfInBounds i true) a' w') a w) : wpAnyT P md ops Q S (fuel + 1) listed a w :=
  ⟨fun h0 => (by rw [hr] at h0; cases h0), fun j hj => by
    rw [hr] at hj
    obtain rfl : j = i := by simpa using hj
    exact h⟩
theorem late_done (hr : Region.ready md ops listed = []) (h : Q .normal a w) : ∀ fuel, wpAnyT P md ops Q S fuel listed a w
  | 0 => ⟨hr, h⟩
  | _ + 1 => ⟨fun _ => h, by rw [hr]; simp⟩
/-- The beginning. -/
theorem late_begin {id : Nat} (hm : P.follows .mixedOrders = true) (h : wpAnyT P .any ops Q S ops.size (Array.replicate ops.size false) a w.drew) : (Code.region id ops true).wp P Q a w :=
  wp_region_any hm (wpAny_of_late _ _ _ _ h)
end
/-- A fact on the world that stands till the operation k has come up. -/
def TillQ (k : Nat) (S0 : World → Prop) (L : Array Bool) (W : World) : Prop := L.getD k true = false → S0 W
theorem TillQ.off {k i : Nat} {S0 : World → Prop} {L : Array Bool} {W : World} (hk : i ≠ k) (h : TillQ k S0 (L.setIfInBounds i true) W) : TillQ k S0 L W := fun h' => h (by rw [getD_set_ne true hk]; exact h')
end Go.Proofs.YtpmlihhofmblpaaGreatDoor

/- Rows of words; the library's carries; digit and product. -/
namespace Go.Proofs.YtpmlihhofmblpaaGreatDoor
open Go.RowKit Hm Wm Wn

/-- A word. -/
def wu (d : Nat) : Value := .int .u64 (d : Int)
def ws (l : List Nat) : List Value := l.map wu
theorem ws_len (l : List Nat) : (ws l).length = l.length := List.length_map _
theorem ws_app (l r : List Nat) : ws (l ++ r) = ws l ++ ws r := List.map_append
theorem ws_one (l : List Nat) : ∀ v ∈ ws l, v.oneCell' = true := by intro v hv; obtain ⟨d, -, rfl⟩ := List.mem_map.1 hv; rfl
theorem ws_at {l : List Nat} {k : Nat} (h : k < l.length) : (ws l)[k]? = some (wu l[k]) := by simp [ws, h]
/-- A row of words that can be read. -/
def RdW (w : World) (A : Option Addr) (l : List Nat) : Prop := Rd w A (ws l)
theorem RdW.below {w w' : World} {A : Option Addr} {l : List Nat} (h : RdW w A l) (hb : Below w.heap.size w w') : RdW w' A l := Rd.below h hb
theorem RdW.next {w w' : World} {A : Option Addr} {l : List Nat} (h : RdW w A l) (hb : Below w.heap.size w w') : RdW w' A l := Rd.below h hb
theorem RdW.cell {w : World} {A : Option Addr} {l : List Nat} (h : RdW w A l) {k : Nat} (hk : k < l.length) : ∃ b off, A = some ⟨b, off, none⟩ ∧ w.cell? ⟨b, off + k, none⟩ = some (.int .u64 (l[k] : Int)) :=
  Rd.at_ h (k := k) (u := wu l[k]) (ws_at hk)

theorem exec_extern {P : Program} {oi : Oper} {a : Act} {w : World} {F : FuncId} {xs : Array Operand} {ts : Array TypeId} (ho : oi.op = .call { callee := .value (.func F), args := xs, argTypes := ts }) (vs : Array Value) (hvs : xs.toList.map a.eval = vs.toList) (v : Value) (hrun : (callFunc F vs).run P w = .ok (.value v) w) : (execOp a.eval oi).run P w = .ok (.value v) w := by
  obtain rfl : xs.map a.eval = vs := by apply Array.toList_inj.1; simpa using hvs
  simp [execOp, ho, resolve, invoke, Deferred.ofValue, Act.eval, hrun]
theorem call_add64 (m n : Nat) (w : World) : (callFunc 126 #[.int .u64 m, .int .u64 n, .int .u64 0]).run Tryz.prog w = .ok (.value (.tuple #[.int .u64 (((m + n) % B : Nat) : Int), .int .u64 (((m + n) / B : Nat) : Int)])) w := by
  rw [run_callFunc_extern Tryz.func126 (by kernel_rfl) (by kernel_rfl) (by kernel_rfl) (e := add64Entry) (by kernel_rfl), run_add64 m n 0 (by omega) (by omega) (by omega) (by omega)]
  simp only [Result.andThen, B]
  congr 5 <;> omega
theorem exec_add64 {oi : Oper} {a : Act} {w : World} (x y : Operand) (ts : Array TypeId) (ho : oi.op = .call { callee := .value (.func 126), args := #[x, y, .const (.int .u64 0)], argTypes := ts }) (m n s t : Nat) (hs : (m + n) % B = s) (ht : (m + n) / B = t) (hx : a.eval x = .int .u64 m) (hy : a.eval y = .int .u64 n) :
    (execOp a.eval oi).run Tryz.prog w = .ok (.value (.tuple #[.int .u64 (s : Int), .int .u64 (t : Int)])) w := by
  subst hs
  subst ht
  exact exec_extern ho #[.int .u64 m, .int .u64 n, .int .u64 0] (by show [a.eval x, a.eval y, _] = _; rw [hx, hy]; rfl) _ (call_add64 m n w)

set_option maxRecDepth 100000 in
set_option maxHeartbeats 400000 in
theorem digit_any (A : Option Addr) (c : Nat) (l : List Nat) (i : Nat) (w : World) (hr : RdW w A l) :
    Calls Tryz.prog 86 #[.slice A l.length c, .int .i64 i] w fun e w' => e = .returned (.int .u64 (l.getD i 0 : Nat)) ∧ w' = w := by
  by_cases h : i < l.length
  · obtain ⟨b, off, rfl, hc⟩ := hr.cell h
    have d1 : decide ((l.length : Int) ≤ (i : Int)) = false := decide_eq_false (by omega)
    have d1' : decide (l.length ≤ i) = false := decide_eq_false (by omega)
    have HX := Lib.hid (show l.getD i 0 = l[i] by simp [List.getD_eq_getElem?_getD, h])
    obtain ⟨x, hx⟩ : ∃ x, l[i] = x := ⟨_, rfl⟩
    rw [hx] at hc HX
    clear hr hx
    go_enter Tryz.func86, Tryz.ntmps86
    go_wp2
    go_ret
    exact ⟨by rw [HX.out]; rfl, rfl⟩
  · have d1 : decide ((l.length : Int) ≤ (i : Int)) = true := decide_eq_true (by omega)
    have d1' : decide (l.length ≤ i) = true := decide_eq_true (by omega)
    have HX := Lib.hid (show l.getD i 0 = 0 by simp [List.getD_eq_getElem?_getD, List.getElem?_eq_none (show l.length ≤ i by omega)])
    clear hr
    go_enter Tryz.func86, Tryz.ntmps86
    go_wp2
    go_ret
    exact ⟨by rw [HX.out]; rfl, rfl⟩

theorem mul_lt {x f c : Nat} (hx : x < B) (hf : f < B) (hc : c < B) : (x * f + c) / B < B ∧ x * f / B + (x * f % B + c) / B = (x * f + c) / B ∧ (x * f % B + c) % B = (x * f + c) % B := by
  have h1 : x * f ≤ (B - 1) * (B - 1) := Nat.mul_le_mul (by omega) (by omega)
  have h2 : (B - 1) * (B - 1) + (B - 1) < B * B := by decide
  refine ⟨?_, ?_, ?_⟩
  · rw [Nat.div_lt_iff_lt_mul B_pos]; omega
  · have h3 := Nat.div_add_mod (x * f) B
    conv => rhs; rw [← h3, Nat.add_assoc, Nat.mul_add_div B_pos]
  · rw [Nat.add_mod, Nat.mod_mod, ← Nat.add_mod]
set_option maxRecDepth 100000 in
set_option maxHeartbeats 400000 in
/-- The two digits of f times a digit, and what is carried to it. -/
theorem product_any (A : Option Addr) (c : Nat) (l : List Nat) (i f k : Nat) (w : World) (hr : RdW w A l) (hd : Dig l) (hf : f < B) (hk : k < B) :
    Calls Tryz.prog 125 #[.slice A l.length c, .int .i64 i, .int .u64 f, .int .u64 k] w fun e w' => e = .returned (.tuple #[.int .u64 ((l.getD i 0 * f + k) / B : Nat), .int .u64 ((l.getD i 0 * f + k) % B : Nat)]) ∧ w' = w := by
  have hx : l.getD i 0 < B := by
    rw [List.getD_eq_getElem?_getD]
    by_cases h : i < l.length
    · simp only [List.getElem?_eq_getElem h, Option.getD_some]; exact hd _ (List.getElem_mem h)
    · rw [List.getElem?_eq_none (by omega)]; exact B_pos
  have HC := Lib.hid (digit_any A c l i w hr)
  obtain ⟨x, hxx⟩ : ∃ x, l.getD i 0 = x := ⟨_, rfl⟩
  rw [hxx] at HC hx ⊢
  obtain ⟨h1, h2, h3⟩ := mul_lt hx hf hk
  have hm := Tryz.bits_Mul64 x f hx hf w
  have e0 : (18446744073709551616 : Nat) = B := rfl
  rw [e0] at hm
  obtain ⟨q, hq⟩ : ∃ q, x * f / B = q := ⟨_, rfl⟩
  obtain ⟨r, hr'⟩ : ∃ r, x * f % B = r := ⟨_, rfl⟩
  rw [hq] at hm h2
  rw [hr'] at hm h2 h3
  obtain ⟨s, hs⟩ : ∃ s, (r + k) % B = s := ⟨_, rfl⟩
  obtain ⟨t, ht⟩ : ∃ t, (r + k) / B = t := ⟨_, rfl⟩
  rw [ht] at h2
  rw [hs] at h3
  rw [← h2] at h1
  have hqt : q + t ≤ 18446744073709551615 := Nat.le_of_lt_succ h1
  have HM := Lib.hid hm
  have HS := Lib.hid hs
  have HT := Lib.hid ht
  have HP2 := Lib.hid h2
  have HP3 := Lib.hid h3
  clear hr hd hxx h1 h2 h3 hx hf hk hm hq hr' hs ht e0
  go_enter Tryz.func125, Tryz.ntmps125
  go_wp2_with fail
  refine HC.out.mono ?_
  rintro e w' ⟨rfl, rfl⟩
  go_wp2_with fail
  refine HM.out.mono ?_
  rintro e w' ⟨rfl, rfl⟩
  go_wp2_with (refine wpList_run 22 rfl rfl _ (exec_add64 (.tmp 20) (.tmp 21) _ rfl r k s t HS.out HT.out rfl rfl) ?_)
  go_ret2
  exact ⟨by rw [← HP2.out, ← HP3.out]; rfl, rfl⟩
end Go.Proofs.YtpmlihhofmblpaaGreatDoor

/- addTimes and takeTimes: rows changed in place. -/
namespace Go.Proofs.YtpmlihhofmblpaaGreatDoor
open Go.RowKit Hm Wm Wn

theorem Only.refl (g : Nat) (w : World) : Only g w w := ⟨rfl, rfl, rfl, rfl, fun _ _ => rfl⟩
theorem Only.trans {g : Nat} {w w1 w2 : World} (h1 : Only g w w1) (h2 : Only g w1 w2) : Only g w w2 :=
  ⟨h2.os.trans h1.os, h2.tape.trans h1.tape, h2.output.trans h1.output, h2.size.trans h1.size, fun k hk => (h2.block k hk).trans (h1.block k hk)⟩
/-- An address lies outside a block. -/
def Off (g : Nat) (A : Option Addr) : Prop := ∀ a, A = some a → a.block ≠ g
theorem RdW.only {g : Nat} {w w' : World} {A : Option Addr} {l : List Nat} (h : RdW w A l) (ho : Only g w w') (hA : l = [] ∨ Off g A) : RdW w' A l := by
  rcases hA with rfl | hA
  · exact Rd.nil _ _
  intro hne
  obtain ⟨b, off, rfl, hc⟩ := h hne
  refine ⟨b, off, rfl, fun k u hu => ?_⟩
  have h1 := hc k u hu
  have hb := ho.block b (hA _ rfl)
  unfold World.cell? at h1 ⊢
  rw [hb]
  exact h1
theorem ws_set (l : List Nat) (n v : Nat) : (ws l).set n (wu v) = ws (l.set n v) := (List.map_set ..).symm
theorem set_mid (pre dn rest post : List Nat) (x s : Nat) : (pre ++ (dn ++ x :: rest) ++ post).set (pre.length + dn.length) s = pre ++ ((dn ++ [s]) ++ rest) ++ post := by
  have e : pre ++ (dn ++ x :: rest) ++ post = (pre ++ dn) ++ x :: (rest ++ post) := by simp
  rw [e, ← List.length_append, List.set_append_right _ _ (Nat.le_refl _), Nat.sub_self, List.set_cons_zero]
  simp
theorem get_mid (pre dn rest post : List Nat) (x : Nat) : (pre ++ (dn ++ x :: rest) ++ post)[pre.length + dn.length]? = some x := by
  have e : pre ++ (dn ++ x :: rest) ++ post = (pre ++ dn) ++ x :: (rest ++ post) := by simp
  rw [e, ← List.length_append, List.getElem?_append_right (Nat.le_refl _), Nat.sub_self]
  rfl
/-- A word is stored into a block known whole. -/
theorem wpList_store_w {w : World} {ops : Array Oper} {rest : List Oper} {op : Oper} {a : Act} {Q : Exit → Act → World → Prop} (hgd : op.guard = none) (x y : Operand) (ho : op.op = .store 89 x y)
    (g o : Nat) (t : TypeId) (l : List Nat) (v : Nat) (hx : a.eval x = .pointer (some ⟨g, o, none⟩)) (hy : a.eval y = .int .u64 v) (hb : Blk w g t (ws l)) (hl : o < l.length)
    (h : ∀ w', Hid (Blk w' g t (ws (l.set o v))) → Only g w w' → wpList Tryz.prog ops Q rest (a.put op.dst undef) w') : wpList Tryz.prog ops Q (op :: rest) a w := by
  have hfit : o + 1 ≤ (ws l).length := by rw [ws_len]; omega
  have hs := run_storeCells_at Tryz.prog g o t [wu v] 0 (ws l).toArray w hb (by simpa using hfit) (by intro u hu; rw [List.mem_singleton.1 hu]; rfl)
  have hi : (Tryz.prog.info? 89).map (·.size) = some 1 := by kernel_rfl
  have hrun : (Instr.storeAt 89 (.pointer (some ⟨g, o, none⟩)) (wu v)).run Tryz.prog w = .ok () (w.setRow g (splice (ws l) o [wu v]).toArray) := by
    cases hq : Tryz.prog.info? 89 with
    | none => simp [hq] at hi
    | some i =>
      have hsz : i.size = 1 := by simpa [hq] using hi
      have e : (splice (ws l) o [wu v]).toArray = ((ws l).toArray.toList.take (o + 0) ++ [wu v] ++ (ws l).toArray.toList.drop (o + 0 + [wu v].length)).toArray := by simp [splice]
      rw [e, ← hs]
      simp [Instr.storeAt, Instr.sureAddr, storeVar, sizeOf, typeInfo, hq, Value.cells, hsz, wu]
  have hsp : splice (ws l) o [wu v] = ws (l.set o v) := by
    rw [← ws_set]
    unfold splice
    rw [List.set_eq_take_append_cons_drop, if_pos (by rw [ws_len]; exact hl)]
    simp
  rw [hsp] at hrun
  refine wpList_plain hgd fun K hK => ?_
  unfold Oper.wp execOp
  simp only [ho, hx, hy, Sem.run_bind]
  have e2 : (Value.int IntKind.u64 (v : Int)) = wu v := rfl
  rw [e2, hrun]
  exact hK _ _ (h _ (Lib.hid (setRow_heap w g _ _ t _ hb)) (Only.setRow w g _))

theorem add_step {x y f c q r s t : Nat} (hq : (y * f + c) / B = q) (hr : (y * f + c) % B = r) (hs : (x + r) % B = s) (ht : (x + r) / B = t) : (x + (y * f + c)) % B = s ∧ (x + (y * f + c)) / B = t + q := by
  have h := Nat.div_add_mod (y * f + c) B
  rw [hq, hr] at h
  rw [← h, ← hs, ← ht]
  constructor
  · rw [show x + (B * q + r) = (x + r) + B * q by omega, Nat.add_mul_mod_self_left]
  · rw [show x + (B * q + r) = (x + r) + B * q by omega, Nat.add_mul_div_left _ _ B_pos]
/-- What stands in the loop of addTimes. -/
def AdR (w : World) (g : Nat) (pre X post Y : List Nat) (f : Nat) (cv iv : Value) (wr : World) : Prop :=
  ∃ (i c : Nat) (dn : List Nat), iv = .int .i64 i ∧ cv = .int .u64 c ∧ i ≤ X.length ∧ c ≤ 18446744073709551615 ∧ dn.length = i ∧
    Hid ((dn ++ (addTL (X.drop i) (Y.drop i) f c).1, (addTL (X.drop i) (Y.drop i) f c).2) = addTL X Y f 0) ∧ Hid (Blk wr g 89 (ws (pre ++ (dn ++ X.drop i) ++ post))) ∧ Hid (Only g w wr)
set_option maxRecDepth 100000 in
set_option maxHeartbeats 400000 in
theorem addT_any (g : Nat) (pre X post Y : List Nat) (cap : Nat) (A2 : Option Addr) (c2 f : Nat) (w : World) (hk : Blk w g 89 (ws (pre ++ X ++ post))) (hr : RdW w A2 Y) (hA : Y = [] ∨ Off g A2) (hX : Dig X) (hY : Dig Y) (hf : f < B) (hl : X.length ≤ 1000000) :
    Calls Tryz.prog 96 #[.slice (some ⟨g, pre.length, none⟩) X.length cap, .slice A2 Y.length c2, .int .u64 f] w fun e w' => e = .returned (.int .u64 (addTL X Y f 0).2) ∧ Blk w' g 89 (ws (pre ++ (addTL X Y f 0).1 ++ post)) ∧ Only g w w' := by
  have HR := Lib.hid hr
  have HA := Lib.hid hA
  have HX := Lib.hid hX
  have HY := Lib.hid hY
  have HF := Lib.hid hf
  have HK := Lib.hid hk
  clear hr hA hX hY hf hk
  go_enter Tryz.func96, Tryz.ntmps96
  go_wp2_with fail
  go_loopw [6, 12] (AdR w g pre X post Y f) (fun _ iv _ => X.length - (intOf iv).toNat)
  case atStart => exact ⟨0, 0, [], rfl, rfl, Nat.zero_le _, by omega, rfl, Lib.hid (by simp), Lib.hid (by simpa using HK.out), Lib.hid (Only.refl _ _)⟩
  case round =>
    obtain ⟨i, c, dn, rfl, rfl, hi, hc, hdn, HAD, HB, HO⟩ := hrel
    by_cases hlt : i < X.length
    · have d1 : decide ((i : Int) < (X.length : Int)) = true := decide_eq_true (by omega)
      have d1' : decide (i < X.length) = true := decide_eq_true hlt
      have hxd : X.drop i = X[i] :: X.drop (i + 1) := List.drop_eq_getElem_cons hlt
      have hxB := HX.out _ (List.getElem_mem hlt)
      obtain ⟨x, hx⟩ : ∃ x, X[i] = x := ⟨_, rfl⟩
      rw [hx] at hxd hxB
      have hyd : (Y.drop i).headD 0 = Y.getD i 0 := by simp [List.headD_eq_head?_getD, List.head?_drop, List.getD_eq_getElem?_getD]
      have hyt : (Y.drop i).tail = Y.drop (i + 1) := List.tail_drop
      have hP := product_any A2 c2 Y i f c wr (HR.out.only HO.out HA.out) HY.out HF.out (Nat.lt_succ_of_le hc)
      obtain ⟨y, hy⟩ : ∃ y, Y.getD i 0 = y := ⟨_, rfl⟩
      rw [hy] at hP hyd
      obtain ⟨q, hq⟩ : ∃ q, (y * f + c) / B = q := ⟨_, rfl⟩
      obtain ⟨r, hr⟩ : ∃ r, (y * f + c) % B = r := ⟨_, rfl⟩
      obtain ⟨s, hs⟩ : ∃ s, (x + r) % B = s := ⟨_, rfl⟩
      obtain ⟨t, ht⟩ : ∃ t, (x + r) / B = t := ⟨_, rfl⟩
      obtain ⟨h1, h2⟩ := add_step hq hr hs ht
      have hyB : y < B := by rw [← hyd]; exact headD_lt (HY.out.drop i)
      have hnc := carry_lt hxB hyB HF.out (Nat.lt_succ_of_le hc)
      rw [h2] at hnc
      have hnc' : t + q ≤ 18446744073709551615 := Nat.le_of_lt_succ hnc
      rw [hq, hr] at hP
      have had := HAD.out
      rw [hxd] at had
      have hstep : addTL (x :: X.drop (i + 1)) (Y.drop i) f c = (s :: (addTL (X.drop (i + 1)) (Y.drop (i + 1)) f (t + q)).1, (addTL (X.drop (i + 1)) (Y.drop (i + 1)) f (t + q)).2) := by
        simp only [addTL]
        rw [hyd, hyt, h1, h2]
      rw [hstep] at had
      have HAD2 : Hid (((dn ++ [s]) ++ (addTL (X.drop (i + 1)) (Y.drop (i + 1)) f (t + q)).1, (addTL (X.drop (i + 1)) (Y.drop (i + 1)) f (t + q)).2) = addTL X Y f 0) := Lib.hid (by rw [← had]; simp)
      have hB := HB.out
      rw [hxd] at hB
      have hgm := get_mid pre dn (X.drop (i + 1)) post x
      have hst := set_mid pre dn (X.drop (i + 1)) post x s
      rw [hdn] at hgm hst
      have hlen : pre.length + i < (pre ++ (dn ++ x :: X.drop (i + 1)) ++ post).length := by
        rcases Nat.lt_or_ge (pre.length + i) (pre ++ (dn ++ x :: X.drop (i + 1)) ++ post).length with h | h
        · exact h
        · rw [List.getElem?_eq_none h] at hgm; cases hgm
      have hcell : wr.cell? ⟨g, pre.length + i, none⟩ = some (.int .u64 x) := by
        rw [hB.cell (pre.length + i)]
        unfold ws
        rw [List.getElem?_map, hgm]
        rfl
      obtain ⟨L, hL⟩ : ∃ L, pre ++ (dn ++ x :: X.drop (i + 1)) ++ post = L := ⟨_, rfl⟩
      rw [hL] at hB hst hlen
      have HBL := Lib.hid hB
      have HST := Lib.hid hst
      have HLN := Lib.hid hlen
      have HP := Lib.hid hP
      have HS := Lib.hid hs
      have HT := Lib.hid ht
      have HDN := Lib.hid (show (dn ++ [s]).length = i + 1 by rw [List.length_append, hdn]; rfl)
      clear hxd hx hyd hyt hP hy hq hr hs ht h1 h2 hyB hnc had hstep hB hgm hst hlen hL HAD HB hdn hxB
      go_wp2_with fail
      refine HP.out.mono ?_
      rintro e w' ⟨rfl, rfl⟩
      go_wp2_with (first | (refine wpList_run 31 rfl rfl _ (exec_add64 (.tmp 29) (.tmp 30) _ rfl x r s t HS.out HT.out rfl rfl) ?_) | (refine wpList_store_w rfl (.tmp 34) (.tmp 32) rfl g (pre.length + i) _ L s rfl rfl HBL.out HLN.out ?_; intro w5 HB5 ho5; have HO5 := Lib.hid (HO.out.trans ho5); clear ho5))
      go_roundw
      case rel => exact ⟨i + 1, t + q, dn ++ [s], by go_num, by go_num, by omega, hnc', HDN.out, HAD2, Lib.hid (by rw [← HST.out]; exact HB5.out), HO5⟩
      case measure => simp [intOf]; omega
    · obtain rfl : i = X.length := by omega
      have d1 : decide ((X.length : Int) < (X.length : Int)) = false := decide_eq_false (by omega)
      have had := HAD.out
      have hB := HB.out
      rw [List.drop_length] at had hB
      simp only [addTL, List.append_nil] at had hB
      have HE := Lib.hid (congrArg Prod.snd had)
      have HE1 := Lib.hid (congrArg Prod.fst had)
      have HBL := Lib.hid hB
      clear had hB HAD HB
      go_wp2
      go_ret
      exact ⟨by rw [← HE.out]; rfl, by rw [← HE1.out]; simpa [List.append_assoc] using HBL.out, HO.out⟩
theorem call_sub64 (m n : Nat) (w : World) : (callFunc 139 #[.int .u64 m, .int .u64 n, .int .u64 0]).run Tryz.prog w = .ok (.value (.tuple #[.int .u64 (((m + B - n) % B : Nat) : Int), .int .u64 ((if m < n then 1 else 0 : Nat) : Int)])) w := by
  have h0 : (Value.int IntKind.u64 0) = .int .u64 ((0 : Nat) : Int) := rfl
  rw [h0, run_callFunc_extern Tryz.func139 (by kernel_rfl) (by kernel_rfl) (by kernel_rfl) (e := sub64Entry) (by kernel_rfl), run_sub64 m n 0 (by omega)]
  rfl
theorem exec_sub64 {oi : Oper} {a : Act} {w : World} (x y : Operand) (ts : Array TypeId) (ho : oi.op = .call { callee := .value (.func 139), args := #[x, y, .const (.int .u64 0)], argTypes := ts }) (m n s t : Nat) (hs : (m + B - n) % B = s) (ht : (if m < n then 1 else 0) = t) (hx : a.eval x = .int .u64 m) (hy : a.eval y = .int .u64 n) :
    (execOp a.eval oi).run Tryz.prog w = .ok (.value (.tuple #[.int .u64 (s : Int), .int .u64 (t : Int)])) w := by
  subst hs
  subst ht
  exact exec_extern ho #[.int .u64 m, .int .u64 n, .int .u64 0] (by show [a.eval x, a.eval y, _] = _; rw [hx, hy]; rfl) _ (call_sub64 m n w)
/-- What stands in the loop of takeTimes. -/
def SuR (w : World) (g : Nat) (pre X post Y : List Nat) (f : Nat) (cv iv : Value) (wr : World) : Prop :=
  ∃ (i c : Nat) (dn : List Nat), iv = .int .i64 i ∧ cv = .int .u64 c ∧ i ≤ X.length ∧ c ≤ 18446744073709551615 ∧ dn.length = i ∧
    Hid ((dn ++ (subTL (X.drop i) (Y.drop i) f c).1, (subTL (X.drop i) (Y.drop i) f c).2) = subTL X Y f 0) ∧ Hid (Blk wr g 89 (ws (pre ++ (dn ++ X.drop i) ++ post))) ∧ Hid (Only g w wr)
set_option maxRecDepth 100000 in
set_option maxHeartbeats 400000 in
theorem subT_any (g : Nat) (pre X post Y : List Nat) (cap : Nat) (A2 : Option Addr) (c2 f : Nat) (w : World) (hk : Blk w g 89 (ws (pre ++ X ++ post))) (hr : RdW w A2 Y) (hA : Y = [] ∨ Off g A2) (hX : Dig X) (hY : Dig Y) (hf : f < B) (hl : X.length ≤ 1000000) :
    Calls Tryz.prog 112 #[.slice (some ⟨g, pre.length, none⟩) X.length cap, .slice A2 Y.length c2, .int .u64 f] w fun e w' => e = .returned (.int .u64 (subTL X Y f 0).2) ∧ Blk w' g 89 (ws (pre ++ (subTL X Y f 0).1 ++ post)) ∧ Only g w w' := by
  have HR := Lib.hid hr
  have HA := Lib.hid hA
  have HX := Lib.hid hX
  have HY := Lib.hid hY
  have HF := Lib.hid hf
  have HK := Lib.hid hk
  clear hr hA hX hY hf hk
  go_enter Tryz.func112, Tryz.ntmps112
  go_wp2_with fail
  go_loopw [6, 12] (SuR w g pre X post Y f) (fun _ iv _ => X.length - (intOf iv).toNat)
  case atStart => exact ⟨0, 0, [], rfl, rfl, Nat.zero_le _, by omega, rfl, Lib.hid (by simp), Lib.hid (by simpa using HK.out), Lib.hid (Only.refl _ _)⟩
  case round =>
    obtain ⟨i, c, dn, rfl, rfl, hi, hc, hdn, HAD, HB, HO⟩ := hrel
    by_cases hlt : i < X.length
    · have d1 : decide ((i : Int) < (X.length : Int)) = true := decide_eq_true (by omega)
      have d1' : decide (i < X.length) = true := decide_eq_true hlt
      have hxd : X.drop i = X[i] :: X.drop (i + 1) := List.drop_eq_getElem_cons hlt
      obtain ⟨x, hx⟩ : ∃ x, X[i] = x := ⟨_, rfl⟩
      rw [hx] at hxd
      have hyd : (Y.drop i).headD 0 = Y.getD i 0 := by simp [List.headD_eq_head?_getD, List.head?_drop, List.getD_eq_getElem?_getD]
      have hyt : (Y.drop i).tail = Y.drop (i + 1) := List.tail_drop
      have hP := product_any A2 c2 Y i f c wr (HR.out.only HO.out HA.out) HY.out HF.out (Nat.lt_succ_of_le hc)
      obtain ⟨y, hy⟩ : ∃ y, Y.getD i 0 = y := ⟨_, rfl⟩
      rw [hy] at hP hyd
      obtain ⟨q, hq⟩ : ∃ q, (y * f + c) / B = q := ⟨_, rfl⟩
      obtain ⟨r, hr⟩ : ∃ r, (y * f + c) % B = r := ⟨_, rfl⟩
      obtain ⟨s, hs⟩ : ∃ s, (x + B - r) % B = s := ⟨_, rfl⟩
      obtain ⟨t, ht⟩ : ∃ t, (if x < r then 1 else 0) = t := ⟨_, rfl⟩
      have hyB : y < B := by rw [← hyd]; exact headD_lt (HY.out.drop i)
      have hnc := borrow_lt (x := x) hyB HF.out (Nat.lt_succ_of_le hc)
      rw [hq, hr, ht, Nat.add_comm] at hnc
      have hnc' : t + q ≤ 18446744073709551615 := Nat.le_of_lt_succ hnc
      rw [hq, hr] at hP
      have had := HAD.out
      rw [hxd] at had
      have hstep : subTL (x :: X.drop (i + 1)) (Y.drop i) f c = (s :: (subTL (X.drop (i + 1)) (Y.drop (i + 1)) f (t + q)).1, (subTL (X.drop (i + 1)) (Y.drop (i + 1)) f (t + q)).2) := by
        simp only [subTL]
        rw [hyd, hyt, hq, hr, hs, ht, Nat.add_comm q t]
      rw [hstep] at had
      have HAD2 : Hid (((dn ++ [s]) ++ (subTL (X.drop (i + 1)) (Y.drop (i + 1)) f (t + q)).1, (subTL (X.drop (i + 1)) (Y.drop (i + 1)) f (t + q)).2) = subTL X Y f 0) := Lib.hid (by rw [← had]; simp)
      have hB := HB.out
      rw [hxd] at hB
      have hgm := get_mid pre dn (X.drop (i + 1)) post x
      have hst := set_mid pre dn (X.drop (i + 1)) post x s
      rw [hdn] at hgm hst
      have hlen : pre.length + i < (pre ++ (dn ++ x :: X.drop (i + 1)) ++ post).length := by
        rcases Nat.lt_or_ge (pre.length + i) (pre ++ (dn ++ x :: X.drop (i + 1)) ++ post).length with h | h
        · exact h
        · rw [List.getElem?_eq_none h] at hgm; cases hgm
      have hcell : wr.cell? ⟨g, pre.length + i, none⟩ = some (.int .u64 x) := by
        rw [hB.cell (pre.length + i)]
        unfold ws
        rw [List.getElem?_map, hgm]
        rfl
      obtain ⟨L, hL⟩ : ∃ L, pre ++ (dn ++ x :: X.drop (i + 1)) ++ post = L := ⟨_, rfl⟩
      rw [hL] at hB hst hlen
      have HBL := Lib.hid hB
      have HST := Lib.hid hst
      have HLN := Lib.hid hlen
      have HP := Lib.hid hP
      have HS := Lib.hid hs
      have HT := Lib.hid ht
      have HDN := Lib.hid (show (dn ++ [s]).length = i + 1 by rw [List.length_append, hdn]; rfl)
      clear hxd hx hyd hyt hP hy hq hr hs ht hyB hnc had hstep hB hgm hst hlen hL HAD HB hdn
      go_wp2_with fail
      refine HP.out.mono ?_
      rintro e w' ⟨rfl, rfl⟩
      go_wp2_with (first | (refine wpList_run 31 rfl rfl _ (exec_sub64 (.tmp 29) (.tmp 30) _ rfl x r s t HS.out HT.out rfl rfl) ?_) | (refine wpList_store_w rfl (.tmp 34) (.tmp 32) rfl g (pre.length + i) _ L s rfl rfl HBL.out HLN.out ?_; intro w5 HB5 ho5; have HO5 := Lib.hid (HO.out.trans ho5); clear ho5))
      go_roundw
      case rel => exact ⟨i + 1, t + q, dn ++ [s], by go_num, by go_num, by omega, hnc', HDN.out, HAD2, Lib.hid (by rw [← HST.out]; exact HB5.out), HO5⟩
      case measure => simp [intOf]; omega
    · obtain rfl : i = X.length := by omega
      have d1 : decide ((X.length : Int) < (X.length : Int)) = false := decide_eq_false (by omega)
      have had := HAD.out
      have hB := HB.out
      rw [List.drop_length] at had hB
      simp only [subTL, List.append_nil] at had hB
      have HE := Lib.hid (congrArg Prod.snd had)
      have HE1 := Lib.hid (congrArg Prod.fst had)
      have HBL := Lib.hid hB
      clear had hB HAD HB
      go_wp2
      go_ret
      exact ⟨by rw [← HE.out]; rfl, by rw [← HE1.out]; simpa [List.append_assoc] using HBL.out, HO.out⟩
end Go.Proofs.YtpmlihhofmblpaaGreatDoor

/- trim; rows of zeros, copies and parts of rows; plus, less and up. -/
namespace Go.Proofs.YtpmlihhofmblpaaGreatDoor
open Go.RowKit Hm Wm Wn

theorem wd_info : (Tryz.prog.info? 89).map (fun i => (i.zero, i.size, i.bytes)) = some (some (.int .u64 0), 1, 8) := by kernel_rfl
theorem dg_under : Tryz.prog.underlying 86 = some (.slice 89) := Tryz.underlying86
theorem wd_one : (Tryz.prog.info? 89).map (·.size) = some 1 := by kernel_rfl
def zd (n : Nat) : List Nat := List.replicate n 0
theorem zd_len (n : Nat) : (zd n).length = n := List.length_replicate
theorem madeCells_w (n : Nat) : madeCells #[.int .u64 0] n = (ws (zd n)).toArray := by
  apply Array.ext
  · simp [madeCells, ws, zd]
  · intro i h1 h2
    have e : i % 1 = 0 := Nat.mod_one i
    simp [madeCells, ws, zd, wu, e]
theorem run_zerosW (w : World) (n : Nat) (h : n ≤ 1000000) : (Instr.makeSlice 86 (.int .i64 n) (.int .i64 n)).run Tryz.prog w = .ok (.slice (some ⟨w.heap.size, 0, none⟩) n n) (w.alloc (.cells (ws (zd n)).toArray 89)) := by
  obtain ⟨i0, hi, hz0, hz1, hz2⟩ := info_parts wd_info
  have := run_make (P := Tryz.prog) w 86 89 i0 _ dg_under hi hz0 .i64 .i64 n n (by omega) (by omega) (by rw [hz2]; omega) (by omega)
  rw [hz1, Nat.mul_one, Int.toNat_natCast, show (Value.int IntKind.u64 0).cells = #[.int .u64 0] from rfl, madeCells_w] at this
  exact this
section
variable {w : World} {ops : Array Oper} {rest : List Oper} {o : Oper} {a : Act} {Q : Exit → Act → World → Prop}
theorem wpList_makeW (hgd : o.guard = none) (x y : Operand) (ho : o.op = .makeSlice 86 x y) (n : Nat) (hx : a.eval x = .int .i64 n) (hy : a.eval y = .int .i64 n) (hn : n ≤ 1000000)
    (h : ∀ w', Hid (Blk w' w.heap.size 89 (ws (zd n))) → Hid (Below w.heap.size w w') → wpList Tryz.prog ops Q rest (a.put o.dst (.slice (some ⟨w.heap.size, 0, none⟩) n n)) w') : wpList Tryz.prog ops Q (o :: rest) a w := by
  refine wpList_plain hgd fun K hK => ?_
  unfold Oper.wp
  rw [exec_makeSlice 86 x y ho _ _ _ hx hy (run_zerosW w n hn)]
  exact hK _ _ (h _ (Lib.hid (Blk.new w 89 (ws (zd n)))) (Lib.hid ((Below.refl _ _).alloc (Nat.le_refl _) _)))
set_option maxRecDepth 100000 in
theorem run_copyW (w : World) (ty : TypeId) (g dLen dCap : Nat) (A : Option Addr) (sCap : Nat) (t : TypeId) (z x : List Nat) (hb : Blk w g t (ws z)) (hn : x.length ≤ dLen) (hx : x ≠ []) (hr : RdW w A x) (hfit : x.length ≤ z.length) :
    (Builtin.copy_ #[86, 86] ty #[.slice (some ⟨g, 0, none⟩) dLen dCap, .slice A x.length sCap]).run Tryz.prog w = .ok (goInt x.length) (w.setRow g (ws (x ++ z.drop x.length)).toArray) := by
  have hne : ws x ≠ [] := by intro e; apply hx; have := ws_len x; rw [e] at this; exact List.eq_nil_of_length_eq_zero this.symm
  obtain ⟨ad, rfl, hc⟩ := Rd.news hr hne
  have h := run_copy_row (P := Tryz.prog) w 86 86 ty 89 g 0 dLen dCap ad x.length sCap (ws z).toArray t (ws x) dg_under wd_one hb (by rw [ws_len]; exact (Nat.min_eq_left hn).symm) (fun j v hv => hc j v hv) (by rw [ws_len]; simpa [ws_len] using hfit) (ws_one x)
  rw [ws_len] at h
  rw [h]
  congr 2
  rw [ws_app]
  simp [ws, List.map_drop]
theorem wpList_copyW (hgd : o.guard = none) (d s : Operand) (ho : o.op = .call { callee := .builtin .copy, args := #[d, s], argTypes := #[86, 86] })
    (g dLen dCap : Nat) (A : Option Addr) (sCap : Nat) (t : TypeId) (z x : List Nat) (hd : a.eval d = .slice (some ⟨g, 0, none⟩) dLen dCap) (hs : a.eval s = .slice A x.length sCap) (hb : Blk w g t (ws z)) (hn : x.length ≤ dLen) (hr : RdW w A x) (hfit : x.length ≤ z.length)
    (h : ∀ v w', Hid (Blk w' g t (ws (x ++ z.drop x.length))) → Only g w w' → wpList Tryz.prog ops Q rest (a.put o.dst v) w') : wpList Tryz.prog ops Q (o :: rest) a w := by
  refine wpList_plain hgd fun K hK => ?_
  by_cases hx : x = []
  · subst hx
    have hrun : (Builtin.copy_ #[86, 86] o.type #[.slice (some ⟨g, 0, none⟩) dLen dCap, .slice A 0 sCap]).run Tryz.prog w = .ok (goInt 0) w := by
      obtain ⟨i0, hi, -⟩ := info_parts wd_info
      cases A <;> simp [Builtin.copy_, run_underlying dg_under, Builtin.lenOf, Builtin.firstCells, sizeOf, typeInfo, hi, loadCells, loadCellsFrom, storeCells]
    unfold Oper.wp execOp
    simp only [ho, resolve, invoke, builtin, Sem.run_bind, Sem.run_pure, Result.andThen_ok, List.map_toArray, List.map_cons, List.map_nil, hd, hs, List.length_nil, hrun]
    exact hK _ _ (h _ _ (Lib.hid hb) (Only.refl _ _))
  · have hrun := run_copyW w o.type g dLen dCap A sCap t z x hb hn hx hr hfit
    unfold Oper.wp execOp
    simp only [ho, resolve, invoke, builtin, Sem.run_bind, Sem.run_pure, Result.andThen_ok, List.map_toArray, List.map_cons, List.map_nil, hd, hs, hrun]
    exact hK _ _ (h _ _ (Lib.hid (setRow_heap w g _ _ t _ hb)) (Only.setRow w g _))
theorem run_hiW (A : Option Addr) (n c k : Nat) (hk : k ≤ n) (hn : n ≤ c) (W : World) :
    (Instr.sliceAt 86 (.slice A n c) none (some (.int .i64 k)) none).run Tryz.prog W = .ok (.slice A k c) W := by
  simp [Instr.sliceAt, Instr.slice, run_underlying dg_under, Instr.sliceBounds, run_sliceBound, (by omega : (k : Int) ≤ c)]
  intro _
  rcases A with _ | ⟨b, o, i⟩
  · rfl
  · cases i <;> simp [Addr.add]
theorem wpList_hiW (hgd : o.guard = none) (x y : Operand) (ho : o.op = .slice 86 x none (some y) none) (A : Option Addr) (n c k : Nat) (hk : k ≤ n) (hn : n ≤ c) (hx : a.eval x = .slice A n c) (hy : a.eval y = .int .i64 k)
    (h : wpList Tryz.prog ops Q rest (a.put o.dst (.slice A k c)) w) : wpList Tryz.prog ops Q (o :: rest) a w := by
  have hl := run_hiW A n c k hk hn w
  rw [← hx, ← hy] at hl
  have hrun : (execOp a.eval o).run Tryz.prog w = .ok (.value (.slice A k c)) w := by simp [execOp, ho, hl]
  refine wpList_plain hgd fun K hK => ?_
  unfold Oper.wp
  rw [hrun]
  exact hK _ _ h
end

/-- What stands in the loop of trim. -/
def TmR (A : Option Addr) (c : Nat) (l : List Nat) (v : Value) : Prop := ∃ k : Nat, v = .slice A k c ∧ k ≤ l.length ∧ Hid (num (l.take k) = num l)
set_option maxRecDepth 100000 in
set_option maxHeartbeats 400000 in
theorem trim_any (A : Option Addr) (c : Nat) (l : List Nat) (w : World) (hr : RdW w A l) (hd : Dig l) (hc : l.length ≤ c) (hl : l.length ≤ 1000000) :
    Calls Tryz.prog 97 #[.slice A l.length c] w fun e w' => e = .returned (.slice A (digW (num l)).length c) ∧ w' = w := by
  have HR := Lib.hid hr
  have HD := Lib.hid hd
  clear hr hd
  go_enter Tryz.func97, Tryz.ntmps97
  go_wp2_with fail
  go_loop [0] (TmR A c l) (fun v => match v with | .slice _ n _ => n | _ => 0)
  case atStart => exact ⟨l.length, rfl, Nat.le_refl _, Lib.hid (by rw [List.take_length])⟩
  case round =>
    obtain ⟨k, rfl, hk, HN⟩ := hrel
    rcases k with _ | j
    · have HE := Lib.hid (show (digW (num l)).length = 0 by rw [← HN.out]; simp [num, digW_zero])
      go_wp2
      go_ret
      exact ⟨by rw [HE.out]; rfl, rfl⟩
    · have hj : j < l.length := by omega
      obtain ⟨b, off, rfl, hcell⟩ := HR.out.cell hj
      obtain ⟨x, hx⟩ : ∃ x, l[j] = x := ⟨_, rfl⟩
      rw [hx] at hcell
      have e1 : decide ((0 : Int) < ((j + 1 : Nat) : Int)) = true := decide_eq_true (by omega)
      by_cases h0 : x = 0
      · have e2 : ((x : Int) == 0) = true := by rw [h0]; rfl
        have e2' : (x == 0) = true := by rw [h0]; rfl
        have HN2 := Lib.hid (take_drop_zero hj HN.out (hx.trans h0))
        clear hx h0
        go_wp2_with (refine wpList_hiW rfl (.tmp 15) (.tmp 18) rfl (some ⟨b, off, none⟩) (j + 1) c j (by omega) (by omega) rfl (by go_num) ?_)
        go_round
        case rel => exact ⟨j, rfl, by omega, HN2⟩
        case measure => simp
      · have e2 : ((x : Int) == 0) = false := by rw [beq_eq_false_iff_ne]; omega
        have e2' : (x == 0) = false := by rw [beq_eq_false_iff_ne]; exact h0
        have ht : Trim (l.take (j + 1)) := by
          unfold Trim
          rw [List.take_succ_eq_append_getElem hj, hx]
          simp [h0]
        have HE := Lib.hid (show j + 1 = (digW (num l)).length by rw [← trim_take HD.out HN.out ht, List.length_take]; omega)
        clear hx h0 ht
        go_wp2
        go_ret
        exact ⟨by rw [← HE.out]; rfl, rfl⟩
/-- A row that can be read, of the digits of a number. -/
def NewW (w : World) (n : Nat) (v : Value) : Prop := ∃ A c, v = .slice A (digW n).length c ∧ RdW w A (digW n) ∧ (digW n).length ≤ c
theorem RdW.trim {w : World} {A : Option Addr} {l : List Nat} (h : RdW w A l) (hd : Dig l) : RdW w A (digW (num l)) := by
  obtain ⟨k, hk⟩ : ∃ k, digW (num l) = l.take k := by
    have h1 := dig_digW (num l)
    have h2 := num_digW (num l)
    refine ⟨(digW (num l)).length, num_inj h1 (hd.take _) ?_ ?_⟩
    · rw [List.length_take]
      have := digW_len (num_lt hd)
      omega
    · rw [h2]
      have h3 := num_append (l.take (digW (num l)).length) (l.drop (digW (num l)).length)
      rw [List.take_append_drop] at h3
      have h4 := digW_lt (num l)
      have h5 : (l.take (digW (num l)).length).length = (digW (num l)).length := by
        rw [List.length_take]
        have := digW_len (num_lt hd)
        omega
      rw [h5] at h3
      rcases Nat.eq_zero_or_pos (num (l.drop (digW (num l)).length)) with h0 | h0
      · rw [h0] at h3; omega
      · have : B ^ (digW (num l)).length * 1 ≤ B ^ (digW (num l)).length * num (l.drop (digW (num l)).length) := Nat.mul_le_mul_left _ h0
        omega
  rw [hk]
  unfold RdW ws
  rw [List.map_take]
  exact Rd.take h k
theorem rdW_blk {w : World} {g : Nat} {t : TypeId} {l : List Nat} (h : Blk w g t (ws l)) : RdW w (some ⟨g, 0, none⟩) l := fun _ => ⟨g, 0, rfl, fun k u hu => by rw [Nat.zero_add, h.cell k]; exact hu⟩
end Go.Proofs.YtpmlihhofmblpaaGreatDoor

/- plus, less, up and times. -/
namespace Go.Proofs.YtpmlihhofmblpaaGreatDoor
open Go.RowKit Hm Wm Wn

theorem addT_all (g : Nat) (S Y : List Nat) (n cap : Nat) (A2 : Option Addr) (c2 f : Nat) (w : World) (hn : S.length = n) (hk : Blk w g 89 (ws S)) (hr : RdW w A2 Y) (hA : Y = [] ∨ Off g A2) (hS : Dig S) (hY : Dig Y) (hf : f < B) (hl : n ≤ 1000000) :
    Calls Tryz.prog 96 #[.slice (some ⟨g, 0, none⟩) n cap, .slice A2 Y.length c2, .int .u64 f] w fun e w' => e = .returned (.int .u64 (addTL S Y f 0).2) ∧ Blk w' g 89 (ws (addTL S Y f 0).1) ∧ Only g w w' := by
  have h := addT_any g [] S [] Y cap A2 c2 f w (by simpa using hk) hr hA hS hY hf (by omega)
  rw [hn] at h
  simpa using h
theorem subT_all (g : Nat) (S Y : List Nat) (n cap : Nat) (A2 : Option Addr) (c2 f : Nat) (w : World) (hn : S.length = n) (hk : Blk w g 89 (ws S)) (hr : RdW w A2 Y) (hA : Y = [] ∨ Off g A2) (hS : Dig S) (hY : Dig Y) (hf : f < B) (hl : n ≤ 1000000) :
    Calls Tryz.prog 112 #[.slice (some ⟨g, 0, none⟩) n cap, .slice A2 Y.length c2, .int .u64 f] w fun e w' => e = .returned (.int .u64 (subTL S Y f 0).2) ∧ Blk w' g 89 (ws (subTL S Y f 0).1) ∧ Only g w w' := by
  have h := subT_any g [] S [] Y cap A2 c2 f w (by simpa using hk) hr hA hS hY hf (by omega)
  rw [hn] at h
  simpa using h
theorem trim_all (g : Nat) (S : List Nat) (n c : Nat) (w : World) (hn : S.length = n) (hk : Blk w g 89 (ws S)) (hd : Dig S) (hc : n ≤ c) (hl : n ≤ 1000000) :
    Calls Tryz.prog 97 #[.slice (some ⟨g, 0, none⟩) n c] w fun e w' => (∃ v, e = .returned v ∧ NewW w' (num S) v) ∧ w' = w := by
  have h := trim_any (some ⟨g, 0, none⟩) c S w (rdW_blk hk) hd (by omega) (by omega)
  rw [hn] at h
  refine h.mono ?_
  rintro e w' ⟨rfl, rfl⟩
  have := digW_len (num_lt hd)
  exact ⟨⟨_, rfl, _, _, rfl, (rdW_blk hk).trim hd, by omega⟩, rfl⟩
/-- A row that can be read lies in older blocks. -/
theorem off_old {w : World} {A : Option Addr} {l : List Nat} (h : RdW w A l) : l = [] ∨ Off w.heap.size A := by
  by_cases hne : l = []
  · exact .inl hne
  refine .inr ?_
  intro a ha
  obtain ⟨b, off, rfl, hc⟩ := h (by intro e; apply hne; have := ws_len l; rw [e] at this; exact List.eq_nil_of_length_eq_zero this.symm)
  cases ha
  rcases l with _ | ⟨d, r⟩
  · exact absurd rfl hne
  · have := World.block_lt_of_cell? w _ (hc 0 (wu d) rfl)
    simp only at this ⊢
    omega
theorem max_pow {X Y : List Nat} {M : Nat} (hM : M = max X.length Y.length) (hX : Dig X) (hY : Dig Y) : num X < B ^ M ∧ num Y < B ^ M := by
  have h1 := num_lt hX
  have h2 := num_lt hY
  exact ⟨Nat.lt_of_lt_of_le h1 (Nat.pow_le_pow_right B_pos (by omega)), Nat.lt_of_lt_of_le h2 (Nat.pow_le_pow_right B_pos (by omega))⟩
theorem num_pad (X : List Nat) (k : Nat) : num (X ++ List.replicate k 0) = num X := by rw [num_append, num_zeros, Nat.mul_zero, Nat.add_zero]
theorem dig_pad {X : List Nat} (h : Dig X) (k : Nat) : Dig (X ++ List.replicate k 0) := Dig.app.2 ⟨h, dig_zeros k⟩

set_option maxRecDepth 100000 in
set_option maxHeartbeats 400000 in
theorem plus_any (A : Option Addr) (c : Nat) (X : List Nat) (A2 : Option Addr) (c2 : Nat) (Y : List Nat) (w : World) (hr : RdW w A X) (hr2 : RdW w A2 Y) (hX : Dig X) (hY : Dig Y) (hl : X.length ≤ 100000) (hl2 : Y.length ≤ 100000) :
    Calls Tryz.prog 66 #[.slice A X.length c, .slice A2 Y.length c2] w fun e w' => ∃ v, e = .returned v ∧ NewW w' (num X + num Y) v ∧ Below w.heap.size w w' := by
  obtain ⟨M, hM⟩ : ∃ M, M = max X.length Y.length := ⟨_, rfl⟩
  obtain ⟨hp1, hp2⟩ := max_pow hM hX hY
  have HMX := Lib.hid (show (max (X.length : Int) (Y.length : Int) + 1) = ((M + 1 : Nat) : Int) by omega)
  have HM1 := Lib.hid (show X.length ≤ M + 1 by omega)
  have HM2 := Lib.hid (show Y.length ≤ M + 1 by omega)
  have HM3 := Lib.hid (show M + 1 ≤ 1000000 by omega)
  have hpow : num X + 1 * num Y < B ^ (M + 1) := by
    have : B ^ M * 2 ≤ B ^ M * B := Nat.mul_le_mul_left _ B_two
    rw [Nat.pow_succ]
    omega
  have HPW := Lib.hid hpow
  have HR := Lib.hid hr
  have HR2 := Lib.hid hr2
  have HOF := Lib.hid (off_old hr2)
  have HX := Lib.hid hX
  have HY := Lib.hid hY
  clear hr hr2 hX hY hp1 hp2 hpow hM
  go_enter Tryz.func66, Tryz.ntmps66
  go_wp2_with (first | (refine wpList_makeW rfl (.tmp 11) (.tmp 11) rfl (M + 1) (congrArg (Value.int .i64) HMX.out) (congrArg (Value.int .i64) HMX.out) HM3.out ?_; intro w1 HK1 HB1) | (refine wpList_copyW rfl (.tmp 13) (.tmp 14) rfl w.heap.size (M + 1) (M + 1) A c _ (zd (M + 1)) X rfl rfl HK1.out HM1.out (HR.out.next HB1.out) (by rw [zd_len]; exact HM1.out) ?_; intro v2 w2 HK2 ho2))
  have HB2 := Lib.hid (HB1.out.trans (ho2.below (Nat.le_refl _)))
  have hS : X ++ (zd (M + 1)).drop X.length = X ++ List.replicate (M + 1 - X.length) 0 := by unfold zd; rw [List.drop_replicate]
  have hk2 := HK2.out
  rw [hS] at hk2
  have hSl : (X ++ List.replicate (M + 1 - X.length) 0).length = M + 1 := by have := HM1.out; rw [List.length_append, List.length_replicate]; omega
  have hSd := dig_pad HX.out (M + 1 - X.length)
  have hSn := num_pad X (M + 1 - X.length)
  obtain ⟨S, hSS⟩ : ∃ S, X ++ List.replicate (M + 1 - X.length) 0 = S := ⟨_, rfl⟩
  rw [hSS] at hk2 hSl hSd hSn
  have HC := Lib.hid (addT_all w.heap.size S Y (M + 1) (M + 1) A2 c2 1 w2 hSl hk2 (HR2.out.next HB2.out) HOF.out hSd HY.out (by decide) HM3.out)
  obtain ⟨hn, -⟩ := addTL_fits (xs := S) (ys := Y) (f := 1) (by have := HM2.out; omega) (by rw [hSn, hSl]; exact HPW.out)
  have hd := addTL_dig S Y 1 0
  have hlen := addTL_len S Y 1 0
  rw [hSl] at hlen
  rw [hSn, Nat.one_mul] at hn
  obtain ⟨R, hR⟩ : ∃ R, (addTL S Y 1 0).1 = R := ⟨_, rfl⟩
  rw [hR] at HC hn hd hlen
  have HN := Lib.hid hn
  have HD := Lib.hid hd
  have HLN := Lib.hid hlen
  clear hS hk2 hSl hSd hSn hSS hn hd hlen hR HK1 HK2 ho2
  go_wp2_with fail
  refine HC.out.mono ?_
  rintro e w3 ⟨rfl, hk3, ho3⟩
  have HB3 := Lib.hid (HB2.out.trans (ho3.below (Nat.le_refl _)))
  have HT := Lib.hid (trim_all w.heap.size R (M + 1) (M + 1) w3 HLN.out hk3 HD.out (Nat.le_refl _) HM3.out)
  clear hk3 ho3 HC
  go_wp2_with fail
  refine HT.out.mono ?_
  rintro e w4 ⟨⟨v, rfl, hv⟩, rfl⟩
  rw [HN.out] at hv
  have HV := Lib.hid hv
  clear hv HT
  go_wp2
  go_ret
  exact ⟨v, rfl, HV.out, HB3.out⟩

set_option maxRecDepth 100000 in
set_option maxHeartbeats 400000 in
theorem less_any (A : Option Addr) (c : Nat) (X : List Nat) (f : Nat) (A2 : Option Addr) (c2 : Nat) (Y : List Nat) (g : Nat) (w : World) (hr : RdW w A X) (hr2 : RdW w A2 Y) (hX : Dig X) (hY : Dig Y) (hf : f < B) (hg : g < B) (hl : X.length ≤ 100000) (hl2 : Y.length ≤ 100000) (hle : g * num Y ≤ f * num X) :
    Calls Tryz.prog 132 #[.slice A X.length c, .int .u64 f, .slice A2 Y.length c2, .int .u64 g] w fun e w' => ∃ v, e = .returned v ∧ NewW w' (f * num X - g * num Y) v ∧ Below w.heap.size w w' := by
  obtain ⟨M, hM⟩ : ∃ M, M = max X.length Y.length := ⟨_, rfl⟩
  obtain ⟨hp1, hp2⟩ := max_pow hM hX hY
  have HMX := Lib.hid (show (max (X.length : Int) (Y.length : Int) + 1) = ((M + 1 : Nat) : Int) by omega)
  have HM1 := Lib.hid (show X.length ≤ M + 1 by omega)
  have HM2 := Lib.hid (show Y.length ≤ M + 1 by omega)
  have HM3 := Lib.hid (show M + 1 ≤ 1000000 by omega)
  have hoff := off_old hr
  have hoff2 := off_old hr2
  have hz : (zd (M + 1)).length = M + 1 := zd_len _
  have hzn : num (zd (M + 1)) = 0 := num_zeros _
  have hpow : num (zd (M + 1)) + f * num X < B ^ (zd (M + 1)).length := by
    rw [hz, hzn, Nat.pow_succ, Nat.zero_add, Nat.mul_comm (B ^ M) B]
    exact Nat.mul_lt_mul_of_lt_of_le hf (Nat.le_of_lt hp1) (Nat.pow_pos B_pos)
  obtain ⟨hn1, -⟩ := addTL_fits (by rw [hz]; omega) hpow
  have hd1 := addTL_dig (zd (M + 1)) X f 0
  have hl1 := addTL_len (zd (M + 1)) X f 0
  rw [hz] at hl1
  rw [hzn, Nat.zero_add] at hn1
  have HC0 := fun (w' : World) (hk : Blk w' w.heap.size 89 (ws (zd (M + 1)))) (hr' : RdW w' A X) => addT_all w.heap.size (zd (M + 1)) X (M + 1) (M + 1) A c f w' hz hk hr' hoff (dig_zeros _) hX hf (by omega)
  obtain ⟨S, hS⟩ : ∃ S, (addTL (zd (M + 1)) X f 0).1 = S := ⟨_, rfl⟩
  rw [hS] at HC0 hn1 hd1 hl1
  have HC1 := fun (w' : World) (hk : Blk w' w.heap.size 89 (ws S)) (hr' : RdW w' A2 Y) => subT_all w.heap.size S Y (M + 1) (M + 1) A2 c2 g w' hl1 hk hr' hoff2 hd1 hY hg (by omega)
  obtain ⟨hn2, -⟩ := subTL_fits (xs := S) (ys := Y) (f := g) hd1 (by omega) (by rw [hn1]; exact hle)
  have hd2 := subTL_dig S Y g 0
  have hl2' := subTL_len S Y g 0
  rw [hl1] at hl2'
  rw [hn1] at hn2
  obtain ⟨R, hR⟩ : ∃ R, (subTL S Y g 0).1 = R := ⟨_, rfl⟩
  rw [hR] at HC1 hn2 hd2 hl2'
  have HA := Lib.hid HC0
  have HS := Lib.hid HC1
  have HN := Lib.hid hn2
  have HD := Lib.hid hd2
  have HLN := Lib.hid hl2'
  have HR := Lib.hid hr
  have HR2 := Lib.hid hr2
  clear hr hr2 hoff hoff2 hX hY hp1 hp2 hpow hM hz hzn hn1 hd1 hl1 HC0 hS HC1 hn2 hd2 hl2' hR hle hf hg
  go_enter Tryz.func132, Tryz.ntmps132
  go_wp2_with (refine wpList_makeW rfl (.tmp 15) (.tmp 15) rfl (M + 1) (congrArg (Value.int .i64) HMX.out) (congrArg (Value.int .i64) HMX.out) HM3.out ?_; intro w1 HK1 HB1)
  refine (HA.out w1 HK1.out (HR.out.next HB1.out)).mono ?_
  rintro e w2 ⟨rfl, hk2, ho2⟩
  have HB2 := Lib.hid (HB1.out.trans (ho2.below (Nat.le_refl _)))
  have HK2 := Lib.hid hk2
  clear hk2 ho2 HK1 HA
  go_wp2_with fail
  refine (HS.out w2 HK2.out (HR2.out.next HB2.out)).mono ?_
  rintro e w3 ⟨rfl, hk3, ho3⟩
  have HB3 := Lib.hid (HB2.out.trans (ho3.below (Nat.le_refl _)))
  have HT := Lib.hid (trim_all w.heap.size R (M + 1) (M + 1) w3 HLN.out hk3 HD.out (Nat.le_refl _) HM3.out)
  clear hk3 ho3 HS HK2
  go_wp2_with fail
  refine HT.out.mono ?_
  rintro e w4 ⟨⟨v, rfl, hv⟩, rfl⟩
  rw [HN.out] at hv
  have HV := Lib.hid hv
  clear hv HT
  go_wp2
  go_ret
  exact ⟨v, rfl, HV.out, HB3.out⟩

end Go.Proofs.YtpmlihhofmblpaaGreatDoor

/- up and times. -/
namespace Go.Proofs.YtpmlihhofmblpaaGreatDoor
open Go.RowKit Hm Wm Wn

theorem run_midW (g n c lo hi : Nat) (h1 : lo ≤ hi) (h2 : hi ≤ c) (h3 : lo < c) (W : World) :
    (Instr.sliceAt 86 (.slice (some ⟨g, 0, none⟩) n c) (some (.int .i64 lo)) (some (.int .i64 hi)) none).run Tryz.prog W = .ok (.slice (some ⟨g, lo, none⟩) (hi - lo : Nat) (c - lo : Nat)) W := by
  have hne : c ≠ lo := by omega
  simp [Instr.sliceAt, Instr.slice, run_underlying dg_under, Instr.sliceBounds, run_sliceBound, (by omega : (hi : Int) ≤ c), (by omega : (lo : Int) ≤ hi), hne, Addr.add]
  exact fun h => h.symm
theorem pow_split {a i ly y : Nat} (ha : a < B ^ i) (hy : y < B ^ ly) : a * y < B ^ i * B ^ ly :=
  Nat.mul_lt_mul_of_lt_of_le ha (Nat.le_of_lt hy) (Nat.pow_pos B_pos)
/-- A step of the product. -/
theorem times_step {P X Y : List Nat} {i : Nat} (hP : Dig P) (hX : Dig X) (hY : Dig Y) (hi : i < X.length) (hl : P.length = X.length + Y.length) (hn : num P = num (X.take i) * num Y) :
    (P.take i).length = i ∧ ((P.drop i).take (Y.length + 1)).length = Y.length + 1 ∧ P = P.take i ++ (P.drop i).take (Y.length + 1) ++ (P.drop i).drop (Y.length + 1) ∧
    num (P.take i ++ (addTL ((P.drop i).take (Y.length + 1)) Y X[i] 0).1 ++ (P.drop i).drop (Y.length + 1)) = num (X.take (i + 1)) * num Y ∧
    Dig (P.take i ++ (addTL ((P.drop i).take (Y.length + 1)) Y X[i] 0).1 ++ (P.drop i).drop (Y.length + 1)) ∧
    (P.take i ++ (addTL ((P.drop i).take (Y.length + 1)) Y X[i] 0).1 ++ (P.drop i).drop (Y.length + 1)).length = X.length + Y.length := by
  have h1 : (P.take i).length = i := by rw [List.length_take]; omega
  have h2 : ((P.drop i).take (Y.length + 1)).length = Y.length + 1 := by rw [List.length_take, List.length_drop]; omega
  have h3 : P = P.take i ++ (P.drop i).take (Y.length + 1) ++ (P.drop i).drop (Y.length + 1) := by rw [List.append_assoc, List.take_append_drop, List.take_append_drop]
  have e1 : num P = num (P.take i) + B ^ i * num (P.drop i) := by
    conv => lhs; rw [← List.take_append_drop i P, num_append, h1]
  have e2 : num (P.drop i) = num ((P.drop i).take (Y.length + 1)) + B ^ (Y.length + 1) * num ((P.drop i).drop (Y.length + 1)) := by
    conv => lhs; rw [← List.take_append_drop (Y.length + 1) (P.drop i), num_append, h2]
  have hxt : (X.take i).length = i := by rw [List.length_take]; omega
  have ha := num_lt (hX.take i)
  rw [hxt] at ha
  have hy := num_lt hY
  have hx := hX _ (List.getElem_mem hi)
  have e3 : num (X.take (i + 1)) = num (X.take i) + B ^ i * X[i] := by rw [List.take_succ_eq_append_getElem hi, num_append, hxt]; simp [num]
  have hb : num (P.drop i) < B ^ Y.length := by
    have := pow_split ha hy
    rw [← hn, e1] at this
    exact Nat.lt_of_mul_lt_mul_left (Nat.lt_of_le_of_lt (Nat.le_add_left _ _) this)
  have hfit : num ((P.drop i).take (Y.length + 1)) + X[i] * num Y < B ^ ((P.drop i).take (Y.length + 1)).length := by
    rw [h2, Nat.pow_succ, Nat.mul_comm (B ^ Y.length) B]
    have h4 : X[i] * num Y ≤ (B - 1) * (B ^ Y.length - 1) := Nat.mul_le_mul (by omega) (by omega)
    have h5 : (B - 1) * (B ^ Y.length - 1) + (B ^ Y.length - 1) = B * (B ^ Y.length - 1) := by
      have hB1 : (B - 1) + 1 = B := by decide
      generalize B ^ Y.length - 1 = z
      calc (B - 1) * z + z = ((B - 1) + 1) * z := by rw [Nat.add_mul, Nat.one_mul]
        _ = B * z := by rw [hB1]
    have h6 : B * (B ^ Y.length - 1) + B = B * B ^ Y.length := by
      have h0 : 0 < B ^ Y.length := Nat.pow_pos B_pos
      conv => rhs; rw [show B ^ Y.length = (B ^ Y.length - 1) + 1 by omega, Nat.mul_add, Nat.mul_one]
    have := B_pos
    omega
  obtain ⟨hw, -⟩ := addTL_fits (by rw [h2]; omega) hfit
  have hwl := addTL_len ((P.drop i).take (Y.length + 1)) Y X[i] 0
  have hwd := addTL_dig ((P.drop i).take (Y.length + 1)) Y X[i] 0
  refine ⟨h1, h2, h3, ?_, ?_, ?_⟩
  · rw [List.append_assoc, num_append, num_append, h1, hwl, h2, hw, e3, Nat.add_mul]
    rw [e1] at hn
    rw [← hn, e2]
    generalize num ((P.drop i).take (Y.length + 1)) = p
    generalize B ^ (Y.length + 1) * num ((P.drop i).drop (Y.length + 1)) = q
    rw [Nat.mul_add, Nat.mul_add, Nat.mul_add, Nat.mul_assoc]
    omega
  · exact Dig.app.2 ⟨Dig.app.2 ⟨hP.take i, hwd⟩, (hP.drop i).drop _⟩
  · rw [List.length_append, List.length_append, h1, hwl, h2, List.length_drop, List.length_drop]; omega
theorem wpList_midW {w : World} {ops : Array Oper} {rest : List Oper} {o : Oper} {a : Act} {Q : Exit → Act → World → Prop} (hgd : o.guard = none) (x y z : Operand) (ho : o.op = .slice 86 x (some y) (some z) none) (g n c lo hi : Nat) (h1 : lo ≤ hi) (h2 : hi ≤ c) (h3 : lo < c) (hx : a.eval x = .slice (some ⟨g, 0, none⟩) n c) (hy : a.eval y = .int .i64 lo) (hz : a.eval z = .int .i64 hi)
    (h : wpList Tryz.prog ops Q rest (a.put o.dst (.slice (some ⟨g, lo, none⟩) (hi - lo : Nat) (c - lo : Nat))) w) : wpList Tryz.prog ops Q (o :: rest) a w := by
  have hl := run_midW g n c lo hi h1 h2 h3 w
  rw [← hx, ← hy, ← hz] at hl
  have hrun : (execOp a.eval o).run Tryz.prog w = .ok (.value (.slice (some ⟨g, lo, none⟩) (hi - lo : Nat) (c - lo : Nat))) w := by simp [execOp, ho, hl]
  refine wpList_plain hgd fun K hK => ?_
  unfold Oper.wp
  rw [hrun]
  exact hK _ _ h
/-- What stands in the loop of times. -/
def TiR (w : World) (X Y : List Nat) (iv : Value) (wr : World) : Prop :=
  ∃ (i : Nat) (P : List Nat), iv = .int .i64 i ∧ i ≤ X.length ∧ Hid (P.length = X.length + Y.length) ∧ Hid (Dig P) ∧ Hid (num P = num (X.take i) * num Y) ∧ Hid (Blk wr w.heap.size 89 (ws P)) ∧ Hid (Below w.heap.size w wr)
set_option maxRecDepth 100000 in
set_option maxHeartbeats 400000 in
theorem times_any (A : Option Addr) (c : Nat) (X : List Nat) (A2 : Option Addr) (c2 : Nat) (Y : List Nat) (w : World) (hr : RdW w A X) (hr2 : RdW w A2 Y) (hX : Dig X) (hY : Dig Y) (hl : X.length ≤ 100000) (hl2 : Y.length ≤ 100000) :
    Calls Tryz.prog 65 #[.slice A X.length c, .slice A2 Y.length c2] w fun e w' => ∃ v, e = .returned v ∧ NewW w' (num X * num Y) v ∧ Below w.heap.size w w' := by
  have HR := Lib.hid hr
  have HR2 := Lib.hid hr2
  have HOF := Lib.hid (off_old hr2)
  have HX := Lib.hid hX
  have HY := Lib.hid hY
  clear hr hr2 hX hY
  go_enter Tryz.func65, Tryz.ntmps65
  go_wp2_with (refine wpList_makeW rfl (.tmp 12) (.tmp 12) rfl (X.length + Y.length) (by go_num) (by go_num) (by omega) ?_; intro w1 HK1 HB1)
  go_loopw [16] (TiR w X Y) (fun iv _ => X.length - (intOf iv).toNat)
  case atStart => exact ⟨0, zd (X.length + Y.length), rfl, Nat.zero_le _, Lib.hid (zd_len _), Lib.hid (dig_zeros _), Lib.hid (by unfold zd; rw [num_zeros]; simp [num]), HK1, HB1⟩
  case round =>
    obtain ⟨i, P, rfl, hi, HPL, HPD, HPN, HK, HB⟩ := hrel
    by_cases hlt : i < X.length
    · have d1 : decide ((i : Int) < (X.length : Int)) = true := decide_eq_true (by omega)
      have d1' : decide (i < X.length) = true := decide_eq_true hlt
      obtain ⟨b, off, rfl, hcell⟩ := (HR.out.next HB.out).cell hlt
      obtain ⟨s1, s2, s3, s4, s5, s6⟩ := times_step HPD.out HX.out HY.out hlt HPL.out HPN.out
      have hxB := HX.out _ (List.getElem_mem hlt)
      obtain ⟨x, hx⟩ : ∃ x, X[i] = x := ⟨_, rfl⟩
      rw [hx] at hcell s4 s5 s6 hxB
      have hk := HK.out
      rw [s3] at hk
      have HC := addT_any w.heap.size (P.take i) ((P.drop i).take (Y.length + 1)) ((P.drop i).drop (Y.length + 1)) Y (X.length + Y.length - i) A2 c2 x wr hk (HR2.out.next HB.out) HOF.out ((HPD.out.drop i).take _) HY.out hxB (by omega)
      rw [s1, s2] at HC
      obtain ⟨P2, hP2⟩ : ∃ P2, P.take i ++ (addTL ((P.drop i).take (Y.length + 1)) Y x 0).1 ++ (P.drop i).drop (Y.length + 1) = P2 := ⟨_, rfl⟩
      rw [hP2] at HC s4 s5 s6
      have HCC := Lib.hid HC
      have H4 := Lib.hid s4
      have H5 := Lib.hid s5
      have H6 := Lib.hid s6
      have HE := Lib.hid (show i + Y.length + 1 - i = Y.length + 1 by omega)
      clear hk HC s1 s2 s3 s4 s5 s6 hP2 hx hxB HPL HPD HPN HK
      go_wp2_with (refine wpList_midW rfl (.tmp 21) (.tmp 22) (.tmp 27) rfl w.heap.size (X.length + Y.length) (X.length + Y.length) i (i + Y.length + 1) (by omega) (by omega) (by omega) rfl rfl (by go_num) ?_; rw [HE.out])
      refine HCC.out.mono ?_
      rintro e w3 ⟨rfl, hk3, ho3⟩
      have HK3 := Lib.hid hk3
      have HB3 := Lib.hid (HB.out.trans (ho3.below (Nat.le_refl _)))
      clear hk3 ho3 HCC
      go_wp2
      go_roundw
      case rel => exact ⟨i + 1, P2, by go_num, by omega, H6, H5, H4, HK3, HB3⟩
      case measure => simp [intOf]; omega
    · obtain rfl : i = X.length := by omega
      have d1 : decide ((X.length : Int) < (X.length : Int)) = false := decide_eq_false (by omega)
      have hn := HPN.out
      rw [List.take_length] at hn
      have HT := Lib.hid (trim_all w.heap.size P (X.length + Y.length) (X.length + Y.length) wr HPL.out HK.out HPD.out (Nat.le_refl _) (by omega))
      have HN := Lib.hid hn
      clear hn HPN HPL HPD HK
      go_wp2_with fail
      refine HT.out.mono ?_
      rintro e w4 ⟨⟨v, rfl, hv⟩, rfl⟩
      rw [HN.out] at hv
      have HV := Lib.hid hv
      clear hv HT
      go_wp2
      go_ret
      exact ⟨v, rfl, HV.out, HB.out⟩
end Go.Proofs.YtpmlihhofmblpaaGreatDoor

/- Plain mathematics of numbers as strings of bytes, the highest byte first. -/
namespace Go.Proofs.YtpmlihhofmblpaaGreatDoor
open Go.RowKit Hm Wm Wn

/-- The number of a string of bytes. -/
def numB (s : List UInt8) : Nat := s.foldl (fun n b => 256 * n + b.toNat) 0
theorem fold_numB (s : List UInt8) : ∀ a : Nat, s.foldl (fun n (b : UInt8) => 256 * n + b.toNat) a = a * 256 ^ s.length + numB s := by
  induction s with
  | nil => intro a; simp [numB]
  | cons b s ih =>
    intro a
    unfold numB
    rw [List.foldl_cons, List.foldl_cons, ih, ih (256 * 0 + b.toNat), List.length_cons, Nat.pow_succ]
    simp only [Nat.mul_zero, Nat.zero_add]
    rw [Nat.add_mul, show 256 * a * 256 ^ s.length = a * (256 ^ s.length * 256) by rw [Nat.mul_comm 256 a, Nat.mul_assoc, Nat.mul_comm 256]]
    omega
theorem numB_cons (b : UInt8) (s : List UInt8) : numB (b :: s) = b.toNat * 256 ^ s.length + numB s := by
  show (b :: s).foldl _ 0 = _
  rw [List.foldl_cons, fold_numB]; simp
theorem numB_snoc (s : List UInt8) (b : UInt8) : numB (s ++ [b]) = 256 * numB s + b.toNat := by
  unfold numB; rw [List.foldl_append]; rfl
theorem numB_nil : numB [] = 0 := rfl
theorem numB_lt (s : List UInt8) : numB s < 256 ^ s.length := by
  induction s with
  | nil => simp [numB]
  | cons b s ih =>
    rw [numB_cons, List.length_cons, Nat.pow_succ]
    have hb := b.toNat_lt
    have : b.toNat * 256 ^ s.length ≤ 255 * 256 ^ s.length := Nat.mul_le_mul_right _ (by omega)
    omega
/-- No zero byte at the beginning. -/
def CanB (s : List UInt8) : Prop := s.head? ≠ some 0
theorem canB_ge {s : List UInt8} (h : CanB s) (h0 : s ≠ []) : 256 ^ (s.length - 1) ≤ numB s := by
  rcases s with _ | ⟨b, s⟩
  · exact absurd rfl h0
  · have hb : b.toNat ≠ 0 := by intro e; apply h; simp [UInt8.toNat_inj.1 (show b.toNat = (0 : UInt8).toNat from e)]
    rw [numB_cons, List.length_cons, Nat.add_sub_cancel]
    have : 1 * 256 ^ s.length ≤ b.toNat * 256 ^ s.length := Nat.mul_le_mul_right _ (by omega)
    omega
theorem numB_inj : ∀ {s t : List UInt8}, s.length = t.length → numB s = numB t → s = t := by
  intro s
  induction s with
  | nil => intro t h _; exact (List.eq_nil_of_length_eq_zero h.symm).symm
  | cons b s ih =>
    intro t hl hn
    rcases t with _ | ⟨c, t⟩
    · simp at hl
    · simp only [List.length_cons, Nat.add_right_cancel_iff] at hl
      rw [numB_cons, numB_cons, ← hl] at hn
      have h1 := numB_lt s
      have h2 := numB_lt t
      rw [← hl] at h2
      have hp : 0 < 256 ^ s.length := Nat.pow_pos (by decide)
      have e1 : (b.toNat * 256 ^ s.length + numB s) / 256 ^ s.length = b.toNat := by rw [Nat.mul_comm, Nat.mul_add_div hp, Nat.div_eq_of_lt h1, Nat.add_zero]
      have e2 : (c.toNat * 256 ^ s.length + numB t) / 256 ^ s.length = c.toNat := by rw [Nat.mul_comm, Nat.mul_add_div hp, Nat.div_eq_of_lt h2, Nat.add_zero]
      have hbc : b.toNat = c.toNat := by rw [← e1, ← e2, hn]
      rw [UInt8.toNat_inj.1 hbc] at hn ⊢
      rw [ih hl (by omega)]
theorem pow256_lt {a b : Nat} (h : 256 ^ a < 256 ^ b) : a < b := (Nat.pow_lt_pow_iff_right (by decide)).1 h
theorem canB_inj {s t : List UInt8} (hs : CanB s) (ht : CanB t) (hn : numB s = numB t) : s = t := by
  refine numB_inj ?_ hn
  have h1 := numB_lt s
  have h2 := numB_lt t
  rcases Nat.lt_trichotomy s.length t.length with h | h | h
  · exfalso
    have := canB_ge ht (by intro e; rw [e] at h; simp at h)
    rw [← hn] at this
    have := pow256_lt (Nat.lt_of_le_of_lt this h1)
    omega
  · exact h
  · exfalso
    have := canB_ge hs (by intro e; rw [e] at h; simp at h)
    rw [hn] at this
    have := pow256_lt (Nat.lt_of_le_of_lt this h2)
    omega
/-- The canonical string of a number. -/
def canS (n : Nat) : List UInt8 := if _h : n = 0 then [] else canS (n / 256) ++ [UInt8.ofNat (n % 256)]
termination_by n
decreasing_by exact Nat.div_lt_self (by omega) (by decide)
theorem canS_zero : canS 0 = [] := by rw [canS, dif_pos rfl]
theorem canS_pos {n : Nat} (h : n ≠ 0) : canS n = canS (n / 256) ++ [UInt8.ofNat (n % 256)] := by rw [canS, dif_neg h]
theorem canS_facts (n : Nat) : numB (canS n) = n ∧ CanB (canS n) := by
  induction n using Nat.strongRecOn with
  | _ n ih =>
    by_cases h : n = 0
    · subst h; rw [canS_zero]; exact ⟨rfl, by simp [CanB]⟩
    · obtain ⟨h1, h2⟩ := ih _ (Nat.div_lt_self (by omega : 0 < n) (by decide : 1 < 256))
      have hm : (UInt8.ofNat (n % 256)).toNat = n % 256 := by simp [UInt8.toNat_ofNat']
      rw [canS_pos h]
      refine ⟨by rw [numB_snoc, h1, hm]; omega, ?_⟩
      unfold CanB at h2 ⊢
      by_cases hz : n / 256 = 0
      · rw [hz, canS_zero]
        simp only [List.nil_append, List.head?_cons, ne_eq, Option.some.injEq]
        intro e
        rw [e] at hm
        have : (0 : UInt8).toNat = 0 := rfl
        omega
      · have hne : canS (n / 256) ≠ [] := by intro e; rw [e] at h1; rw [numB_nil] at h1; omega
        obtain ⟨c, r, hcr⟩ := List.exists_cons_of_ne_nil hne
        rw [hcr] at h2 ⊢
        simpa using h2
theorem numB_canS (n : Nat) : numB (canS n) = n := (canS_facts n).1
theorem canB_canS (n : Nat) : CanB (canS n) := (canS_facts n).2
theorem canS_num {s : List UInt8} (h : CanB s) : canS (numB s) = s := canB_inj (canB_canS _) h (numB_canS _)
theorem canS_inj {m n : Nat} (h : canS m = canS n) : m = n := by rw [← numB_canS m, h, numB_canS]
theorem numB_drop0 (s : List UInt8) : numB (s.dropWhile (· == 0)) = numB s ∧ CanB (s.dropWhile (· == 0)) := by
  induction s with
  | nil => exact ⟨rfl, by simp [CanB]⟩
  | cons b s ih =>
    by_cases h : b = 0
    · subst h
      rw [List.dropWhile_cons_of_pos (by decide), numB_cons]
      exact ⟨by rw [ih.1]; simp, ih.2⟩
    · rw [List.dropWhile_cons_of_neg (by simpa using h)]
      exact ⟨rfl, by simpa [CanB] using h⟩
/-- Clean. -/
theorem clean_eq (s : List UInt8) : s.dropWhile (· == 0) = canS (numB s) := by
  obtain ⟨h1, h2⟩ := numB_drop0 s
  rw [← h1, canS_num h2]
theorem canS_len_lt (n : Nat) : n < 256 ^ (canS n).length := by have := numB_lt (canS n); rwa [numB_canS] at this
theorem canS_len_ge {n : Nat} (h : n ≠ 0) : 256 ^ ((canS n).length - 1) ≤ n := by
  have := canB_ge (canB_canS n) (by intro e; have := numB_canS n; rw [e, numB_nil] at this; exact h this.symm)
  rwa [numB_canS] at this
theorem canS_len_le {n k : Nat} (h : n < 256 ^ k) : (canS n).length ≤ k := by
  by_cases h0 : n = 0
  · subst h0; rw [canS_zero]; exact Nat.zero_le _
  · have := pow256_lt (Nat.lt_of_le_of_lt (canS_len_ge h0) h); omega

/-- One word of a row is set. -/
theorem num_set : ∀ (l : List Nat) (q v : Nat) (h : q < l.length), num (l.set q v) + B ^ q * l[q] = num l + B ^ q * v := by
  intro l
  induction l with
  | nil => intro q v h; simp at h
  | cons d l ih =>
    intro q v h
    rcases q with _ | q
    · simp only [List.set_cons_zero, num, List.getElem_cons_zero, Nat.pow_zero, Nat.one_mul]; omega
    · have := ih q v (by simpa using h)
      simp only [List.set_cons_succ, num, List.getElem_cons_succ]
      rw [Nat.pow_succ, Nat.mul_comm (B ^ q) B, Nat.mul_assoc, Nat.mul_assoc]
      have e : B * (num (l.set q v) + B ^ q * l[q]'(by simpa using h)) = B * (num l + B ^ q * v) := by rw [this]
      rw [Nat.mul_add, Nat.mul_add] at e
      omega
theorem dig_set {l : List Nat} (h : Dig l) (q : Nat) {v : Nat} (hv : v < B) : Dig (l.set q v) := by
  intro d hd
  rcases List.mem_or_eq_of_mem_set hd with h1 | h1
  · exact h d h1
  · rw [h1]; exact hv
theorem B_256 : B = 256 ^ 8 := by decide
theorem pow_B256 (q r : Nat) : B ^ q * 256 ^ r = 256 ^ (8 * q + r) := by rw [B_256, ← Nat.pow_mul, ← Nat.pow_add]
/-- The word at a place is small where the number is. -/
theorem word_lt {l : List Nat} {q : Nat} (h : q < l.length) {m : Nat} (hn : num l < B ^ q * m) : l[q] < m := by
  have e : num l = num (l.take q) + B ^ q * (l[q] + B * num (l.drop (q + 1))) := by
    conv => lhs; rw [← List.take_append_drop q l, num_append, List.length_take, Nat.min_eq_left (by omega), List.drop_eq_getElem_cons h, num]
  rw [e] at hn
  have h1 : B ^ q * (l[q] + B * num (l.drop (q + 1))) < B ^ q * m := Nat.lt_of_le_of_lt (Nat.le_add_left _ _) hn
  have := Nat.lt_of_mul_lt_mul_left h1
  omega
/-- A step of read. -/
theorem read_step {x : List Nat} {i b : Nat} (hd : Dig x) (hq : i / 8 < x.length) (hn : num x < 256 ^ i) (hb : b < 256) :
    x[i / 8] < 256 ^ (i % 8) ∧ b * 256 ^ (i % 8) + x[i / 8] < B ∧ num (x.set (i / 8) (b * 256 ^ (i % 8) + x[i / 8])) = num x + b * 256 ^ i ∧ Dig (x.set (i / 8) (b * 256 ^ (i % 8) + x[i / 8])) := by
  have e : B ^ (i / 8) * 256 ^ (i % 8) = 256 ^ i := by rw [pow_B256, Nat.div_add_mod]
  have h1 : x[i / 8] < 256 ^ (i % 8) := word_lt hq (by rw [e]; exact hn)
  have h2 : b * 256 ^ (i % 8) + x[i / 8] < B := by
    have h3 : b * 256 ^ (i % 8) ≤ 255 * 256 ^ (i % 8) := Nat.mul_le_mul_right _ (by omega)
    have h4 : 256 ^ (i % 8 + 1) ≤ 256 ^ 8 := Nat.pow_le_pow_right (by decide) (by omega)
    rw [Nat.pow_succ] at h4
    rw [B_256]
    omega
  refine ⟨h1, h2, ?_, dig_set hd _ h2⟩
  have := num_set x (i / 8) (b * 256 ^ (i % 8) + x[i / 8]) hq
  rw [Nat.mul_add, ← Nat.mul_assoc, Nat.mul_comm _ b, Nat.mul_assoc, e] at this
  omega
/-- Behind read: the row has no zero at its end. -/
theorem read_done {x : List Nat} {s : List UInt8} (hd : Dig x) (hc : CanB s) (hl : x.length = (s.length + 7) / 8) (hn : num x = numB s) : x = digW (numB s) := by
  rw [← hn, digW_num hd ?_]
  intro hz
  have hne : x ≠ [] := by intro e; rw [e] at hz; cases hz
  obtain ⟨r, rfl⟩ : ∃ r, x = r ++ [0] := by
    refine ⟨x.dropLast, ?_⟩
    rw [List.getLast?_eq_some_getLast hne] at hz
    have := List.dropLast_concat_getLast hne
    rw [Option.some.inj hz] at this
    exact this.symm
  rw [num_append] at hn
  simp only [num, Nat.mul_zero, Nat.add_zero] at hn
  have h1 := num_lt (Dig.app.1 hd).1
  rw [List.length_append, List.length_singleton] at hl
  have hs : s ≠ [] := by intro e; subst e; simp at hl
  have h2 := canB_ge hc hs
  rw [← hn] at h2
  have h3 : B ^ r.length = 256 ^ (8 * r.length) := by rw [B_256, ← Nat.pow_mul]
  rw [h3] at h1
  have := pow256_lt (Nat.lt_of_le_of_lt h2 h1)
  omega
end Go.Proofs.YtpmlihhofmblpaaGreatDoor
