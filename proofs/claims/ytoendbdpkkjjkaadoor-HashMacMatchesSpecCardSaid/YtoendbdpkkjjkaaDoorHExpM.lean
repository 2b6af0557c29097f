/- Expanded seeds as plain functions. -/
import Derived.Test.YtoendbdpkkjjkaaDoorHStr
namespace Go.Proofs.YtoendbdpkkjjkaaDoor
open Go.RowKit Hm Wm

def ex (seed : List UInt8) : Nat → List UInt8
  | 0 => []
  | k + 1 => ex seed k ++ Hm.hmac seed (enc k)
theorem ex_len (seed : List UInt8) : ∀ k, (ex seed k).length = 32 * k
  | 0 => rfl
  | k + 1 => by rw [ex, List.length_append, ex_len seed k, hmac_len]; omega
def expand (seed : List UInt8) (n : Nat) : List UInt8 := (ex seed ((n + 31) / 32)).take n
theorem expand_len (seed : List UInt8) (n : Nat) : (expand seed n).length = n := by
  unfold expand; rw [List.length_take, ex_len]; omega
theorem ex_more (seed : List UInt8) (k j : Nat) : ∃ r, ex seed (k + j) = ex seed k ++ r := by
  induction j with
  | zero => exact ⟨[], by simp⟩
  | succ j ih =>
    obtain ⟨r, hr⟩ := ih
    exact ⟨r ++ Hm.hmac seed (enc ((k + j : Nat) : Int)), by rw [← Nat.add_assoc, ex, hr, List.append_assoc]⟩
/-- Once there are enough bytes, more rounds change nothing. -/
theorem ex_take (seed : List UInt8) (n k : Nat) (h : n ≤ 32 * k) : (ex seed k).take n = expand seed n := by
  have hk : (n + 31) / 32 ≤ k := by omega
  obtain ⟨r, hr⟩ := ex_more seed ((n + 31) / 32) (k - (n + 31) / 32)
  rw [show (n + 31) / 32 + (k - (n + 31) / 32) = k from by omega] at hr
  unfold expand
  rw [hr, List.take_append_of_le_length (by rw [ex_len]; omega)]
theorem ex_step (seed : List UInt8) (n k : Nat) (h : 32 * k < n) : (ex seed k).take n ++ (Hm.hmac seed (enc k)).take (min 32 (n - 32 * k)) = (ex seed (k + 1)).take n := by
  rw [ex, List.take_of_length_le (by rw [ex_len]; omega), List.take_append, ex_len, List.take_of_length_le (l := ex seed k) (by rw [ex_len]; omega)]
  congr 1
  rcases Nat.le_total 32 (n - 32 * k) with h1 | h1
  · rw [Nat.min_eq_left h1, List.take_of_length_le (by rw [hmac_len]; omega), List.take_of_length_le (by rw [hmac_len]; omega)]
  · rw [Nat.min_eq_right h1]
end Go.Proofs.YtoendbdpkkjjkaaDoor
