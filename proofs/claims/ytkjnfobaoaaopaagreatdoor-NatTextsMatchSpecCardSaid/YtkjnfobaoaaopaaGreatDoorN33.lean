/- Decimal digits, in groups. -/
import Derived.Test.YtkjnfobaoaaopaaGreatDoorN32
namespace Go.Proofs.YtkjnfobaoaaopaaGreatDoor
open Go.RowKit Go.Lib Hm Wm Wn

/-- The digits of a number, of a fixed width. -/
def fx : Nat → Nat → List UInt8
  | 0, _ => []
  | k + 1, g => fx k (g / 10) ++ [UInt8.ofNat (48 + g % 10)]
theorem dec_big {u : Nat} (h : ¬ u < 10) : decDigits u = decDigits (u / 10) ++ [UInt8.ofNat (48 + u % 10)] := by rw [decDigits, dif_neg h]
theorem dec_fx (a : Nat) (ha : 0 < a) : ∀ (k g : Nat), g < 10 ^ k → decDigits (a * 10 ^ k + g) = decDigits a ++ fx k g
  | 0, g, h => by
    have : g = 0 := by simpa using h
    subst this
    simp [fx]
  | k + 1, g, h => by
    have e : a * 10 ^ (k + 1) = 10 * (a * 10 ^ k) := by rw [Nat.pow_succ, ← Nat.mul_assoc, Nat.mul_comm]
    have hp : 0 < a * 10 ^ k := Nat.mul_pos ha (Nat.pow_pos (by decide))
    rw [Nat.pow_succ] at h
    rw [dec_big (by omega), show (a * 10 ^ (k + 1) + g) / 10 = a * 10 ^ k + g / 10 by omega, show (a * 10 ^ (k + 1) + g) % 10 = g % 10 by omega, dec_fx a ha k (g / 10) (by omega), fx, List.append_assoc]
theorem fx_zero : ∀ k, fx k 0 = List.replicate k 48
  | 0 => rfl
  | k + 1 => by
    rw [fx, Nat.zero_div, fx_zero k, List.replicate_succ']
    rfl
theorem ddg_len : ∀ (k u : Nat), u < 10 ^ (k + 1) → (decDigits u).length ≤ k + 1
  | 0, u, h => by rw [decDigits_one (by simpa using h)]; simp
  | k + 1, u, h => by
    by_cases hu : u < 10
    · rw [decDigits_one hu]; simp
    · rw [dec_big hu, List.length_append]
      have := ddg_len k (u / 10) (by rw [Nat.pow_succ] at h; omega)
      simp
      omega
theorem fx_pad : ∀ (k g : Nat), g < 10 ^ (k + 1) → fx (k + 1) g = List.replicate (k + 1 - (decDigits g).length) 48 ++ decDigits g
  | 0, g, h => by
    have hg : g < 10 := by simpa using h
    rw [decDigits_one hg, fx, fx, Nat.mod_eq_of_lt hg]
    rfl
  | k + 1, g, h => by
    by_cases hg : g < 10
    · rw [decDigits_one hg, fx, Nat.div_eq_of_lt hg, fx_zero, Nat.mod_eq_of_lt hg]
      rfl
    · rw [dec_big hg, fx, fx_pad k (g / 10) (by rw [Nat.pow_succ] at h; omega), List.length_append, List.append_assoc]
      have := ddg_len k (g / 10) (by rw [Nat.pow_succ] at h; omega)
      congr 2
      simp
/-- The text of groups, the highest one first. -/
def pad (g : Nat) : List UInt8 := List.replicate (19 - (decDigits g).length) 48 ++ decDigits g
def txt : List Nat → List UInt8
  | [] => []
  | g :: r => decDigits g ++ (r.map pad).flatten
theorem txt_snoc {l : List Nat} (h : l ≠ []) (g : Nat) : txt (l ++ [g]) = txt l ++ pad g := by
  cases l with
  | nil => exact absurd rfl h
  | cons a r => simp [txt]
theorem gN_lt : ∀ (n : Nat), ∀ g ∈ gN n, g < GB := by
  intro n
  induction n using Nat.strongRecOn with
  | ind n ih =>
    intro g hg
    by_cases h : n < GB
    · rw [gN_small h] at hg; rw [List.mem_singleton.1 hg]; exact h
    · rw [gN_big h] at hg
      rcases List.mem_cons.1 hg with rfl | hg
      · exact Nat.mod_lt _ (by decide)
      · exact ih (n / GB) (Nat.div_lt_self (by unfold GB at h; omega) (by decide)) g hg
theorem gN_ne (n : Nat) : gN n ≠ [] := by
  by_cases h : n < GB
  · rw [gN_small h]; simp
  · rw [gN_big h]; simp
theorem GB_pow : GB = 10 ^ 19 := by decide
theorem txt_dec : ∀ (n : Nat), txt (gN n).reverse = decDigits n := by
  intro n
  induction n using Nat.strongRecOn with
  | ind n ih =>
    by_cases h : n < GB
    · rw [gN_small h]; simp [txt]
    · rw [gN_big h, List.reverse_cons, txt_snoc (by simp [gN_ne]), ih (n / GB) (Nat.div_lt_self (by unfold GB at h; omega) (by decide))]
      have hg : n % GB < 10 ^ (18 + 1) := by rw [← GB_pow]; exact Nat.mod_lt _ (by decide)
      have h1 := dec_fx (n / GB) (Nat.div_pos (Nat.le_of_not_lt h) (by decide)) 19 (n % GB) hg
      rw [← GB_pow, Nat.mul_comm, Nat.div_add_mod] at h1
      rw [h1, fx_pad 18 _ hg]
      rfl
theorem repeat_zero (c : Nat) : repeatL [48] c = List.replicate c 48 := by
  induction c with
  | zero => rfl
  | succ c ih => rw [repeatL, ih]; rfl
end Go.Proofs.YtkjnfobaoaaopaaGreatDoor
