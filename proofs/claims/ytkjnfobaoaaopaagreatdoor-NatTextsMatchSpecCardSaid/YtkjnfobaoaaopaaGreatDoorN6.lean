/- Plain mathematics of numbers as strings of bytes, the highest byte first. -/
import Derived.Test.YtkjnfobaoaaopaaGreatDoorN5
import Derived.Lib.Hide
namespace Go.Proofs.YtkjnfobaoaaopaaGreatDoor
open Go.RowKit Hm Wm Wn

/-- The number of a string of bytes. -/
def numB (s : List UInt8) : Nat := s.foldl (fun n b => 256 * n + b.toNat) 0
theorem fold_numB (s : List UInt8) : ∀ a : Nat, s.foldl (fun n (b : UInt8) => 256 * n + b.toNat) a = a * 256 ^ s.length + numB s := by
  induction s with
  | nil => intro a; simp [numB]
  | cons b s ih =>
    intro a
    unfold numB
    rw [List.foldl_cons, List.foldl_cons, ih, ih (256 * 0 + b.toNat), List.length_cons, Nat.pow_succ]
    simp only [Nat.mul_zero, Nat.zero_add]
    rw [Nat.add_mul, show 256 * a * 256 ^ s.length = a * (256 ^ s.length * 256) by rw [Nat.mul_comm 256 a, Nat.mul_assoc, Nat.mul_comm 256]]
    omega
theorem numB_cons (b : UInt8) (s : List UInt8) : numB (b :: s) = b.toNat * 256 ^ s.length + numB s := by
  show (b :: s).foldl _ 0 = _
  rw [List.foldl_cons, fold_numB]; simp
theorem numB_snoc (s : List UInt8) (b : UInt8) : numB (s ++ [b]) = 256 * numB s + b.toNat := by
  unfold numB; rw [List.foldl_append]; rfl
theorem numB_nil : numB [] = 0 := rfl
theorem numB_lt (s : List UInt8) : numB s < 256 ^ s.length := by
  induction s with
  | nil => simp [numB]
  | cons b s ih =>
    rw [numB_cons, List.length_cons, Nat.pow_succ]
    have hb := b.toNat_lt
    have : b.toNat * 256 ^ s.length ≤ 255 * 256 ^ s.length := Nat.mul_le_mul_right _ (by omega)
    omega
/-- No zero byte at the beginning. -/
def CanB (s : List UInt8) : Prop := s.head? ≠ some 0
theorem canB_ge {s : List UInt8} (h : CanB s) (h0 : s ≠ []) : 256 ^ (s.length - 1) ≤ numB s := by
  rcases s with _ | ⟨b, s⟩
  · exact absurd rfl h0
  · have hb : b.toNat ≠ 0 := by intro e; apply h; simp [UInt8.toNat_inj.1 (show b.toNat = (0 : UInt8).toNat from e)]
    rw [numB_cons, List.length_cons, Nat.add_sub_cancel]
    have : 1 * 256 ^ s.length ≤ b.toNat * 256 ^ s.length := Nat.mul_le_mul_right _ (by omega)
    omega
theorem numB_inj : ∀ {s t : List UInt8}, s.length = t.length → numB s = numB t → s = t := by
  intro s
  induction s with
  | nil => intro t h _; exact (List.eq_nil_of_length_eq_zero h.symm).symm
  | cons b s ih =>
    intro t hl hn
    rcases t with _ | ⟨c, t⟩
    · simp at hl
    · simp only [List.length_cons, Nat.add_right_cancel_iff] at hl
      rw [numB_cons, numB_cons, ← hl] at hn
      have h1 := numB_lt s
      have h2 := numB_lt t
      rw [← hl] at h2
      have hp : 0 < 256 ^ s.length := Nat.pow_pos (by decide)
      have e1 : (b.toNat * 256 ^ s.length + numB s) / 256 ^ s.length = b.toNat := by rw [Nat.mul_comm, Nat.mul_add_div hp, Nat.div_eq_of_lt h1, Nat.add_zero]
      have e2 : (c.toNat * 256 ^ s.length + numB t) / 256 ^ s.length = c.toNat := by rw [Nat.mul_comm, Nat.mul_add_div hp, Nat.div_eq_of_lt h2, Nat.add_zero]
      have hbc : b.toNat = c.toNat := by rw [← e1, ← e2, hn]
      rw [UInt8.toNat_inj.1 hbc] at hn ⊢
      rw [ih hl (by omega)]
theorem pow256_lt {a b : Nat} (h : 256 ^ a < 256 ^ b) : a < b := (Nat.pow_lt_pow_iff_right (by decide)).1 h
theorem canB_inj {s t : List UInt8} (hs : CanB s) (ht : CanB t) (hn : numB s = numB t) : s = t := by
  refine numB_inj ?_ hn
  have h1 := numB_lt s
  have h2 := numB_lt t
  rcases Nat.lt_trichotomy s.length t.length with h | h | h
  · exfalso
    have := canB_ge ht (by intro e; rw [e] at h; simp at h)
    rw [← hn] at this
    have := pow256_lt (Nat.lt_of_le_of_lt this h1)
    omega
  · exact h
  · exfalso
    have := canB_ge hs (by intro e; rw [e] at h; simp at h)
    rw [hn] at this
    have := pow256_lt (Nat.lt_of_le_of_lt this h2)
    omega
/-- The canonical string of a number. -/
def canS (n : Nat) : List UInt8 := if _h : n = 0 then [] else canS (n / 256) ++ [UInt8.ofNat (n % 256)]
termination_by n
decreasing_by exact Nat.div_lt_self (by omega) (by decide)
theorem canS_zero : canS 0 = [] := by rw [canS, dif_pos rfl]
theorem canS_pos {n : Nat} (h : n ≠ 0) : canS n = canS (n / 256) ++ [UInt8.ofNat (n % 256)] := by rw [canS, dif_neg h]
theorem canS_facts (n : Nat) : numB (canS n) = n ∧ CanB (canS n) := by
  induction n using Nat.strongRecOn with
  | _ n ih =>
    by_cases h : n = 0
    · subst h; rw [canS_zero]; exact ⟨rfl, by simp [CanB]⟩
    · obtain ⟨h1, h2⟩ := ih _ (Nat.div_lt_self (by omega : 0 < n) (by decide : 1 < 256))
      have hm : (UInt8.ofNat (n % 256)).toNat = n % 256 := by simp [UInt8.toNat_ofNat']
      rw [canS_pos h]
      refine ⟨by rw [numB_snoc, h1, hm]; omega, ?_⟩
      unfold CanB at h2 ⊢
      by_cases hz : n / 256 = 0
      · rw [hz, canS_zero]
        simp only [List.nil_append, List.head?_cons, ne_eq, Option.some.injEq]
        intro e
        rw [e] at hm
        have : (0 : UInt8).toNat = 0 := rfl
        omega
      · have hne : canS (n / 256) ≠ [] := by intro e; rw [e] at h1; rw [numB_nil] at h1; omega
        obtain ⟨c, r, hcr⟩ := List.exists_cons_of_ne_nil hne
        rw [hcr] at h2 ⊢
        simpa using h2
theorem numB_canS (n : Nat) : numB (canS n) = n := (canS_facts n).1
theorem canB_canS (n : Nat) : CanB (canS n) := (canS_facts n).2
theorem canS_num {s : List UInt8} (h : CanB s) : canS (numB s) = s := canB_inj (canB_canS _) h (numB_canS _)
theorem canS_inj {m n : Nat} (h : canS m = canS n) : m = n := by rw [← numB_canS m, h, numB_canS]
theorem numB_drop0 (s : List UInt8) : numB (s.dropWhile (· == 0)) = numB s ∧ CanB (s.dropWhile (· == 0)) := by
  induction s with
  | nil => exact ⟨rfl, by simp [CanB]⟩
  | cons b s ih =>
    by_cases h : b = 0
    · subst h
      rw [List.dropWhile_cons_of_pos (by decide), numB_cons]
      exact ⟨by rw [ih.1]; simp, ih.2⟩
    · rw [List.dropWhile_cons_of_neg (by simpa using h)]
      exact ⟨rfl, by simpa [CanB] using h⟩
/-- Clean. -/
theorem clean_eq (s : List UInt8) : s.dropWhile (· == 0) = canS (numB s) := by
  obtain ⟨h1, h2⟩ := numB_drop0 s
  rw [← h1, canS_num h2]
theorem canS_len_lt (n : Nat) : n < 256 ^ (canS n).length := by have := numB_lt (canS n); rwa [numB_canS] at this
theorem canS_len_ge {n : Nat} (h : n ≠ 0) : 256 ^ ((canS n).length - 1) ≤ n := by
  have := canB_ge (canB_canS n) (by intro e; have := numB_canS n; rw [e, numB_nil] at this; exact h this.symm)
  rwa [numB_canS] at this
theorem canS_len_le {n k : Nat} (h : n < 256 ^ k) : (canS n).length ≤ k := by
  by_cases h0 : n = 0
  · subst h0; rw [canS_zero]; exact Nat.zero_le _
  · have := pow256_lt (Nat.lt_of_le_of_lt (canS_len_ge h0) h); omega

/-- One word of a row is set. -/
theorem num_set : ∀ (l : List Nat) (q v : Nat) (h : q < l.length), num (l.set q v) + B ^ q * l[q] = num l + B ^ q * v := by
  intro l
  induction l with
  | nil => intro q v h; simp at h
  | cons d l ih =>
    intro q v h
    rcases q with _ | q
    · simp only [List.set_cons_zero, num, List.getElem_cons_zero, Nat.pow_zero, Nat.one_mul]; omega
    · have := ih q v (by simpa using h)
      simp only [List.set_cons_succ, num, List.getElem_cons_succ]
      rw [Nat.pow_succ, Nat.mul_comm (B ^ q) B, Nat.mul_assoc, Nat.mul_assoc]
      have e : B * (num (l.set q v) + B ^ q * l[q]'(by simpa using h)) = B * (num l + B ^ q * v) := by rw [this]
      rw [Nat.mul_add, Nat.mul_add] at e
      omega
theorem dig_set {l : List Nat} (h : Dig l) (q : Nat) {v : Nat} (hv : v < B) : Dig (l.set q v) := by
  intro d hd
  rcases List.mem_or_eq_of_mem_set hd with h1 | h1
  · exact h d h1
  · rw [h1]; exact hv
theorem B_256 : B = 256 ^ 8 := by decide
theorem pow_B256 (q r : Nat) : B ^ q * 256 ^ r = 256 ^ (8 * q + r) := by rw [B_256, ← Nat.pow_mul, ← Nat.pow_add]
/-- The word at a place is small where the number is. -/
theorem word_lt {l : List Nat} {q : Nat} (h : q < l.length) {m : Nat} (hn : num l < B ^ q * m) : l[q] < m := by
  have e : num l = num (l.take q) + B ^ q * (l[q] + B * num (l.drop (q + 1))) := by
    conv => lhs; rw [← List.take_append_drop q l, num_append, List.length_take, Nat.min_eq_left (by omega), List.drop_eq_getElem_cons h, num]
  rw [e] at hn
  have h1 : B ^ q * (l[q] + B * num (l.drop (q + 1))) < B ^ q * m := Nat.lt_of_le_of_lt (Nat.le_add_left _ _) hn
  have := Nat.lt_of_mul_lt_mul_left h1
  omega
/-- A step of read. -/
theorem read_step {x : List Nat} {i b : Nat} (hd : Dig x) (hq : i / 8 < x.length) (hn : num x < 256 ^ i) (hb : b < 256) :
    x[i / 8] < 256 ^ (i % 8) ∧ b * 256 ^ (i % 8) + x[i / 8] < B ∧ num (x.set (i / 8) (b * 256 ^ (i % 8) + x[i / 8])) = num x + b * 256 ^ i ∧ Dig (x.set (i / 8) (b * 256 ^ (i % 8) + x[i / 8])) := by
  have e : B ^ (i / 8) * 256 ^ (i % 8) = 256 ^ i := by rw [pow_B256, Nat.div_add_mod]
  have h1 : x[i / 8] < 256 ^ (i % 8) := word_lt hq (by rw [e]; exact hn)
  have h2 : b * 256 ^ (i % 8) + x[i / 8] < B := by
    have h3 : b * 256 ^ (i % 8) ≤ 255 * 256 ^ (i % 8) := Nat.mul_le_mul_right _ (by omega)
    have h4 : 256 ^ (i % 8 + 1) ≤ 256 ^ 8 := Nat.pow_le_pow_right (by decide) (by omega)
    rw [Nat.pow_succ] at h4
    rw [B_256]
    omega
  refine ⟨h1, h2, ?_, dig_set hd _ h2⟩
  have := num_set x (i / 8) (b * 256 ^ (i % 8) + x[i / 8]) hq
  rw [Nat.mul_add, ← Nat.mul_assoc, Nat.mul_comm _ b, Nat.mul_assoc, e] at this
  omega
/-- Behind read: the row has no zero at its end. -/
theorem read_done {x : List Nat} {s : List UInt8} (hd : Dig x) (hc : CanB s) (hl : x.length = (s.length + 7) / 8) (hn : num x = numB s) : x = digW (numB s) := by
  rw [← hn, digW_num hd ?_]
  intro hz
  have hne : x ≠ [] := by intro e; rw [e] at hz; cases hz
  obtain ⟨r, rfl⟩ : ∃ r, x = r ++ [0] := by
    refine ⟨x.dropLast, ?_⟩
    rw [List.getLast?_eq_some_getLast hne] at hz
    have := List.dropLast_concat_getLast hne
    rw [Option.some.inj hz] at this
    exact this.symm
  rw [num_append] at hn
  simp only [num, Nat.mul_zero, Nat.add_zero] at hn
  have h1 := num_lt (Dig.app.1 hd).1
  rw [List.length_append, List.length_singleton] at hl
  have hs : s ≠ [] := by intro e; subst e; simp at hl
  have h2 := canB_ge hc hs
  rw [← hn] at h2
  have h3 : B ^ r.length = 256 ^ (8 * r.length) := by rw [B_256, ← Nat.pow_mul]
  rw [h3] at h1
  have := pow256_lt (Nat.lt_of_le_of_lt h2 h1)
  omega
end Go.Proofs.YtkjnfobaoaaopaaGreatDoor
