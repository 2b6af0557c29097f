/- Plain mathematics of numbers as rows of words: digits to the base 2^64, the lowest one first. -/
import Derived.Lib.Mul64
namespace Go.Proofs.YtggjgikpiljoiaaDoor
namespace Wn

/-- The base. -/
def B : Nat := 18446744073709551616
theorem B_pos : 0 < B := by decide
theorem B_two : 2 ≤ B := by decide
/-- The number of a row of digits. -/
def num : List Nat → Nat
  | [] => 0
  | d :: r => d + B * num r
/-- Digits of the base. -/
def Dig (l : List Nat) : Prop := ∀ d ∈ l, d < B
/-- No zero at the end. -/
def Trim (l : List Nat) : Prop := l.getLast? ≠ some 0
theorem Dig.nil : Dig [] := fun _ h => by cases h
theorem Dig.cons {d : Nat} {l : List Nat} : Dig (d :: l) ↔ d < B ∧ Dig l := List.forall_mem_cons
theorem Dig.app {l r : List Nat} : Dig (l ++ r) ↔ Dig l ∧ Dig r := List.forall_mem_append
theorem Dig.take {l : List Nat} (h : Dig l) (k : Nat) : Dig (l.take k) := fun d hd => h d (List.mem_of_mem_take hd)
theorem Dig.drop {l : List Nat} (h : Dig l) (k : Nat) : Dig (l.drop k) := fun d hd => h d (List.mem_of_mem_drop hd)
theorem num_append (l r : List Nat) : num (l ++ r) = num l + B ^ l.length * num r := by
  induction l with
  | nil => simp [num]
  | cons d l ih => show d + B * num (l ++ r) = _; rw [ih, List.length_cons, Nat.pow_succ, num, Nat.mul_add, Nat.mul_comm (B ^ l.length) B, Nat.mul_assoc]; omega
theorem num_lt {l : List Nat} (h : Dig l) : num l < B ^ l.length := by
  induction l with
  | nil => simp [num]
  | cons d l ih =>
    obtain ⟨h1, h2⟩ := Dig.cons.1 h
    have := ih h2
    rw [num, List.length_cons, Nat.pow_succ, Nat.mul_comm (B ^ l.length) B]
    have h3 : B * (num l + 1) ≤ B * B ^ l.length := Nat.mul_le_mul_left B this
    rw [Nat.mul_add] at h3
    omega
theorem num_zeros (k : Nat) : num (List.replicate k 0) = 0 := by
  induction k with
  | zero => rfl
  | succ k ih => rw [List.replicate_succ, num, ih]; rfl
theorem dig_zeros (k : Nat) : Dig (List.replicate k 0) := fun d hd => by rw [(List.mem_replicate.1 hd).2]; exact B_pos
/-- Rows of one length with one number are one. -/
theorem num_inj : ∀ {l r : List Nat}, Dig l → Dig r → l.length = r.length → num l = num r → l = r := by
  intro l
  induction l with
  | nil => intro r _ _ hl _; exact (List.eq_nil_of_length_eq_zero hl.symm).symm
  | cons d l ih =>
    intro r h1 h2 hl hn
    rcases r with _ | ⟨e, r⟩
    · simp at hl
    · obtain ⟨h3, h4⟩ := Dig.cons.1 h1
      obtain ⟨h5, h6⟩ := Dig.cons.1 h2
      rw [num, num] at hn
      have e1 : (d + B * num l) % B = d := by rw [Nat.add_mul_mod_self_left, Nat.mod_eq_of_lt h3]
      have e2 : (e + B * num r) % B = e := by rw [Nat.add_mul_mod_self_left, Nat.mod_eq_of_lt h5]
      have hde : d = e := by rw [← e1, ← e2, hn]
      subst hde
      have : num l = num r := Nat.eq_of_mul_eq_mul_left B_pos (by omega)
      rw [ih h4 h6 (by simpa using hl) this]
/-- The digits of a number, none of them a zero at the end. -/
def digW (n : Nat) : List Nat := if _h : n = 0 then [] else n % B :: digW (n / B)
termination_by n
decreasing_by exact Nat.div_lt_self (by omega) B_two
theorem digW_zero : digW 0 = [] := by rw [digW, dif_pos rfl]
theorem digW_pos {n : Nat} (h : n ≠ 0) : digW n = n % B :: digW (n / B) := by rw [digW, dif_neg h]
theorem digW_facts (n : Nat) : num (digW n) = n ∧ Dig (digW n) ∧ Trim (digW n) := by
  induction n using Nat.strongRecOn with
  | _ n ih =>
    by_cases h : n = 0
    · subst h; rw [digW_zero]; exact ⟨rfl, Dig.nil, by simp [Trim]⟩
    · have hd := Nat.div_lt_self (by omega : 0 < n) B_two
      obtain ⟨h1, h2, h3⟩ := ih _ hd
      rw [digW_pos h]
      refine ⟨by rw [num, h1]; exact Nat.mod_add_div n B, Dig.cons.2 ⟨Nat.mod_lt _ B_pos, h2⟩, ?_⟩
      unfold Trim
      by_cases hz : n / B = 0
      · rw [hz, digW_zero]
        have : n % B = n := Nat.mod_eq_of_lt (by rcases Nat.lt_or_ge n B with h | h; exact h; have := Nat.div_pos h B_pos; omega)
        simp [this, h]
      · rw [digW_pos hz] at h3 ⊢
        unfold Trim at h3
        rw [List.getLast?_cons_cons]
        exact h3
theorem num_digW (n : Nat) : num (digW n) = n := (digW_facts n).1
theorem dig_digW (n : Nat) : Dig (digW n) := (digW_facts n).2.1
theorem trim_digW (n : Nat) : Trim (digW n) := (digW_facts n).2.2
theorem trim_ge {l : List Nat} (ht : Trim l) (h0 : l ≠ []) : B ^ (l.length - 1) ≤ num l := by
  obtain ⟨r, d, rfl⟩ : ∃ r d, l = r ++ [d] := ⟨l.dropLast, l.getLast h0, (List.dropLast_concat_getLast h0).symm⟩
  have hd : d ≠ 0 := by intro e; apply ht; simp [e]
  rw [num_append, List.length_append, List.length_singleton, Nat.add_sub_cancel]
  have : B ^ r.length * 1 ≤ B ^ r.length * num [d] := Nat.mul_le_mul_left _ (by simp [num]; omega)
  omega
theorem pow_lt_len {a b : Nat} (h : B ^ a < B ^ b) : a < b := (Nat.pow_lt_pow_iff_right B_two).1 h
/-- A trimmed row of digits is the row of its number. -/
theorem digW_num {l : List Nat} (hd : Dig l) (ht : Trim l) : digW (num l) = l := by
  have h1 := num_digW (num l)
  have h2 := dig_digW (num l)
  have h3 := trim_digW (num l)
  have hlen : (digW (num l)).length = l.length := by
    rcases Nat.lt_trichotomy (digW (num l)).length l.length with h | h | h
    · exfalso
      have hne : l ≠ [] := by intro e; subst e; simp at h
      have e1 := trim_ge ht hne
      have e2 := num_lt h2
      rw [h1] at e2
      have := pow_lt_len (Nat.lt_of_le_of_lt e1 e2)
      omega
    · exact h
    · exfalso
      have hne : digW (num l) ≠ [] := by intro e; rw [e] at h; simp at h
      have e1 := trim_ge h3 hne
      have e2 := num_lt hd
      rw [h1] at e1
      have := pow_lt_len (Nat.lt_of_le_of_lt e1 e2)
      omega
  exact num_inj h2 hd hlen h1
theorem digW_len {n k : Nat} (h : n < B ^ k) : (digW n).length ≤ k := by
  by_cases h0 : digW n = []
  · rw [h0]; exact Nat.zero_le _
  · have e1 := trim_ge (trim_digW n) h0
    rw [num_digW] at e1
    have := pow_lt_len (Nat.lt_of_le_of_lt e1 h)
    omega
theorem digW_lt (n : Nat) : n < B ^ (digW n).length := by have := num_lt (dig_digW n); rwa [num_digW] at this
theorem digW_ge {n : Nat} (h : n ≠ 0) : 0 < (digW n).length ∧ B ^ ((digW n).length - 1) ≤ n := by
  have h0 : digW n ≠ [] := by rw [digW_pos h]; simp
  have e1 := trim_ge (trim_digW n) h0
  rw [num_digW] at e1
  exact ⟨List.length_pos_iff.2 h0, e1⟩
theorem digW_one {n : Nat} (h : n ≠ 0) (hB : n < B) : digW n = [n] := by
  rw [digW_pos h, Nat.mod_eq_of_lt hB, Nat.div_eq_of_lt hB, digW_zero]
/-- The longest beginning without a zero at its end. -/
theorem trim_take {l : List Nat} (hd : Dig l) {k : Nat} (hz : num (l.take k) = num l) (ht : Trim (l.take k)) : l.take k = digW (num l) := by
  rw [← hz, digW_num (hd.take k) ht]
theorem take_drop_zero {l : List Nat} {k : Nat} (hk : k < l.length) (hz : num (l.take (k + 1)) = num l) (h0 : l[k] = 0) : num (l.take k) = num l := by
  rw [← hz, List.take_succ_eq_append_getElem hk, num_append, h0]; simp [num]

/-- Adding f times a row to a row, word by word; what is carried on. -/
def addTL : List Nat → List Nat → Nat → Nat → List Nat × Nat
  | [], _, _, c => ([], c)
  | x :: xs, ys, f, c =>
    let r := addTL xs ys.tail f ((x + (ys.headD 0 * f + c)) / B)
    ((x + (ys.headD 0 * f + c)) % B :: r.1, r.2)
theorem num_headD (ys : List Nat) : num ys = ys.headD 0 + B * num ys.tail := by cases ys <;> simp [num]
theorem addTL_len : ∀ (xs ys : List Nat) (f c : Nat), (addTL xs ys f c).1.length = xs.length := by
  intro xs
  induction xs with
  | nil => intros; rfl
  | cons x xs ih => intro ys f c; simp only [addTL, List.length_cons, ih]
theorem addTL_dig : ∀ (xs ys : List Nat) (f c : Nat), Dig (addTL xs ys f c).1 := by
  intro xs
  induction xs with
  | nil => intros; exact Dig.nil
  | cons x xs ih => intro ys f c; exact Dig.cons.2 ⟨Nat.mod_lt _ B_pos, ih _ _ _⟩
theorem addTL_num : ∀ (xs ys : List Nat) (f c : Nat), ys.length ≤ xs.length → num (addTL xs ys f c).1 + B ^ xs.length * (addTL xs ys f c).2 = num xs + f * num ys + c := by
  intro xs
  induction xs with
  | nil => intro ys f c h; obtain rfl : ys = [] := List.eq_nil_of_length_eq_zero (by simpa using h); simp [addTL, num]
  | cons x xs ih =>
    intro ys f c h
    have h1 := ih ys.tail f ((x + (ys.headD 0 * f + c)) / B) (by rw [List.length_tail]; simp at h; omega)
    simp only [addTL, num, List.length_cons]
    rw [num_headD ys, Nat.pow_succ]
    have h2 := Nat.mod_add_div (x + (ys.headD 0 * f + c)) B
    generalize (x + (ys.headD 0 * f + c)) / B = q at *
    generalize (x + (ys.headD 0 * f + c)) % B = m at *
    generalize (addTL xs ys.tail f q).1 = r1 at *
    generalize (addTL xs ys.tail f q).2 = r2 at *
    have e : B * (num r1 + B ^ xs.length * r2) = B * (num xs + f * num ys.tail + q) := by rw [h1]
    rw [Nat.mul_add, Nat.mul_add, Nat.mul_add] at e
    have e2 : B ^ xs.length * B * r2 = B * (B ^ xs.length * r2) := by rw [Nat.mul_comm (B ^ xs.length) B, Nat.mul_assoc]
    have e3 : f * (ys.headD 0 + B * num ys.tail) = ys.headD 0 * f + B * (f * num ys.tail) := by rw [Nat.mul_add, Nat.mul_comm f, Nat.mul_left_comm]
    rw [e2, e3]
    omega
theorem headD_lt {ys : List Nat} (h : Dig ys) : ys.headD 0 < B := by cases ys with | nil => exact B_pos | cons y r => exact (Dig.cons.1 h).1
/-- What is carried is a digit again. -/
theorem carry_lt {x y f c : Nat} (hx : x < B) (hy : y < B) (hf : f < B) (hc : c < B) : (x + (y * f + c)) / B < B := by
  rw [Nat.div_lt_iff_lt_mul B_pos]
  have h1 : y * f ≤ (B - 1) * (B - 1) := Nat.mul_le_mul (by omega) (by omega)
  have h2 : (B - 1) * (B - 1) + 2 * (B - 1) + 1 = B * B := by decide
  omega
theorem addTL_carry : ∀ (xs ys : List Nat) (f c : Nat), Dig xs → Dig ys → f < B → c < B → (addTL xs ys f c).2 < B := by
  intro xs
  induction xs with
  | nil => intro ys f c _ _ _ hc; exact hc
  | cons x xs ih =>
    intro ys f c hx hy hf hc
    obtain ⟨h1, h2⟩ := Dig.cons.1 hx
    exact ih ys.tail f _ h2 (fun d hd => hy d (List.mem_of_mem_tail hd)) hf (carry_lt h1 (headD_lt hy) hf hc)
/-- Nothing is carried where the sum fits. -/
theorem addTL_fits {xs ys : List Nat} {f : Nat} (hl : ys.length ≤ xs.length) (h : num xs + f * num ys < B ^ xs.length) : num (addTL xs ys f 0).1 = num xs + f * num ys ∧ (addTL xs ys f 0).2 = 0 := by
  have h1 := addTL_num xs ys f 0 hl
  rw [Nat.add_zero] at h1
  have h2 : (addTL xs ys f 0).2 = 0 := by
    rcases Nat.eq_zero_or_pos (addTL xs ys f 0).2 with h0 | h0
    · exact h0
    · have : B ^ xs.length * 1 ≤ B ^ xs.length * (addTL xs ys f 0).2 := Nat.mul_le_mul_left _ h0
      omega
  rw [h2] at h1
  exact ⟨by omega, h2⟩

/-- Taking f times a row from a row, word by word; what is borrowed. -/
def subTL : List Nat → List Nat → Nat → Nat → List Nat × Nat
  | [], _, _, c => ([], c)
  | x :: xs, ys, f, c =>
    let p := ys.headD 0 * f + c
    let r := subTL xs ys.tail f (p / B + if x < p % B then 1 else 0)
    ((x + B - p % B) % B :: r.1, r.2)
theorem subTL_len : ∀ (xs ys : List Nat) (f c : Nat), (subTL xs ys f c).1.length = xs.length := by
  intro xs
  induction xs with
  | nil => intros; rfl
  | cons x xs ih => intro ys f c; simp only [subTL, List.length_cons, ih]
theorem subTL_dig : ∀ (xs ys : List Nat) (f c : Nat), Dig (subTL xs ys f c).1 := by
  intro xs
  induction xs with
  | nil => intros; exact Dig.nil
  | cons x xs ih => intro ys f c; exact Dig.cons.2 ⟨Nat.mod_lt _ B_pos, ih _ _ _⟩
theorem subTL_num : ∀ (xs ys : List Nat) (f c : Nat), Dig xs → ys.length ≤ xs.length → num (subTL xs ys f c).1 + f * num ys + c = num xs + B ^ xs.length * (subTL xs ys f c).2 := by
  intro xs
  induction xs with
  | nil => intro ys f c _ h; obtain rfl : ys = [] := List.eq_nil_of_length_eq_zero (by simpa using h); simp [subTL, num]
  | cons x xs ih =>
    intro ys f c hd h
    obtain ⟨hx, hxs⟩ := Dig.cons.1 hd
    have h1 := ih ys.tail f ((ys.headD 0 * f + c) / B + if x < (ys.headD 0 * f + c) % B then 1 else 0) hxs (by rw [List.length_tail]; simp at h; omega)
    simp only [subTL, num, List.length_cons]
    rw [num_headD ys, Nat.pow_succ]
    have h2 := Nat.mod_add_div (ys.headD 0 * f + c) B
    have h3 := Nat.mod_lt (ys.headD 0 * f + c) B_pos
    generalize (ys.headD 0 * f + c) / B = q at *
    generalize (ys.headD 0 * f + c) % B = m at *
    have h4 : (x + B - m) % B + m = x + B * (if x < m then 1 else 0) := by
      by_cases hm : x < m
      · rw [if_pos hm, Nat.mod_eq_of_lt (by omega)]; omega
      · rw [if_neg hm, show x + B - m = (x - m) + B by omega, Nat.add_mod_right, Nat.mod_eq_of_lt (by omega)]; omega
    generalize (x + B - m) % B = z at *
    generalize (if x < m then 1 else 0) = b at *
    generalize (subTL xs ys.tail f (q + b)).1 = r1 at *
    generalize (subTL xs ys.tail f (q + b)).2 = r2 at *
    have e : B * (num r1 + f * num ys.tail + (q + b)) = B * (num xs + B ^ xs.length * r2) := by rw [h1]
    rw [Nat.mul_add, Nat.mul_add, Nat.mul_add, Nat.mul_add] at e
    have e2 : B ^ xs.length * B * r2 = B * (B ^ xs.length * r2) := by rw [Nat.mul_comm (B ^ xs.length) B, Nat.mul_assoc]
    have e3 : f * (ys.headD 0 + B * num ys.tail) = ys.headD 0 * f + B * (f * num ys.tail) := by rw [Nat.mul_add, Nat.mul_comm f, Nat.mul_left_comm]
    rw [e2, e3]
    omega
theorem borrow_lt {x y f c : Nat} (hy : y < B) (hf : f < B) (hc : c < B) : (y * f + c) / B + (if x < (y * f + c) % B then 1 else 0) < B := by
  have h1 : y * f ≤ (B - 1) * (B - 1) := Nat.mul_le_mul (by omega) (by omega)
  have h2 : (B - 1) * (B - 1) + (B - 1) = (B - 1) * B := by decide
  have h3 : (y * f + c) / B ≤ B - 1 := by
    have : y * f + c ≤ (B - 1) * B := by omega
    exact Nat.div_le_of_le_mul (by rw [Nat.mul_comm B (B - 1)]; exact this)
  by_cases h4 : (y * f + c) / B = B - 1
  · have h5 := Nat.div_add_mod (y * f + c) B
    rw [h4] at h5
    have h6 : B * (B - 1) = (B - 1) * B := Nat.mul_comm _ _
    have h7 : (y * f + c) % B = 0 := by omega
    rw [h7, if_neg (Nat.not_lt_zero _)]
    have := B_pos
    omega
  · have : (if x < (y * f + c) % B then 1 else 0) ≤ 1 := by split <;> omega
    omega
theorem subTL_fits {xs ys : List Nat} {f : Nat} (hd : Dig xs) (hl : ys.length ≤ xs.length) (h : f * num ys ≤ num xs) : num (subTL xs ys f 0).1 = num xs - f * num ys ∧ (subTL xs ys f 0).2 = 0 := by
  have h1 := subTL_num xs ys f 0 hd hl
  rw [Nat.add_zero] at h1
  have h3 := num_lt (subTL_dig xs ys f 0)
  rw [subTL_len] at h3
  have h2 : (subTL xs ys f 0).2 = 0 := by
    rcases Nat.eq_zero_or_pos (subTL xs ys f 0).2 with h0 | h0
    · exact h0
    · have : B ^ xs.length * 1 ≤ B ^ xs.length * (subTL xs ys f 0).2 := Nat.mul_le_mul_left _ h0
      omega
  rw [h2] at h1
  exact ⟨by omega, h2⟩
end Wn
end Go.Proofs.YtggjgikpiljoiaaDoor
