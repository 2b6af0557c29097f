/- The reference's ones and Formed. -/
import Derived.Test.YtfbemmeonkceiaaDoorKW0
import Derived.Deep.QuietTactic
import Derived.BigQuiet
namespace Go.Proofs.YtfbemmeonkceiaaDoor
open Go.RowKit Hm Wm

theorem pop_succ (f m : Nat) : Go.Lib.popAux (f + 1) m = m % 2 + Go.Lib.popAux f (m / 2) := rfl
theorem pop_more : ∀ (f m : Nat), m < 2 ^ f → Go.Lib.popAux (f + 1) m = Go.Lib.popAux f m
  | 0, m, h => by
    have : m = 0 := by simp at h; exact h
    subst this; rfl
  | f + 1, m, h => by
    rw [pop_succ (f + 1) m, pop_succ f m, pop_more f (m / 2) (by rw [Nat.pow_succ] at h; omega)]
theorem pop_half (m : Nat) (h : m ≤ 1099511627776) : Go.Lib.popAux 64 m = m % 2 + Go.Lib.popAux 64 (m / 2) := by
  rw [pop_succ 63 m, pop_more 63 (m / 2) (by omega)]
/-- What stands in the loop over the digits. -/
def OnR (P : Nat → Nat) (N : Nat) (a b : Value) : Prop := ∃ m k : Nat, a = .int .i64 m ∧ b = .int .i64 k ∧ m ≤ 1099511627776 ∧ k ≤ 64 ∧ Hid (k + P m = N)

set_option maxRecDepth 100000 in
set_option maxHeartbeats 1000000 in
theorem rones_aux (P : Nat → Nat) (h0 : P 0 = 0) (hh : ∀ m, m ≤ 1099511627776 → P m = m % 2 + P (m / 2)) (hP : ∀ m, P m ≤ 64) (n : Nat) (w : World) (hn : n ≤ 1099511627776) :
    Calls Tryd.prog 78 #[.int .i64 n] w fun e w' => e = .returned (.int .i64 (P n : Nat)) ∧ w' = w := by
  obtain ⟨N, hN⟩ : ∃ N, P n = N := ⟨_, rfl⟩
  have hNl : N ≤ 64 := by rw [← hN]; exact hP n
  rw [hN]
  have HN := Lib.hid hN
  have H0 := Lib.hid h0
  have HH := Lib.hid hh
  clear hN h0 hh hP
  go_enter Tryd.func78, Tryd.ntmps78
  go_wp2
  go_loop [0, 3] (OnR P N) (fun a _ => (intOf a).toNat)
  case atStart => exact ⟨n, 0, rfl, rfl, hn, by omega, by rw [Nat.zero_add]; exact HN.out⟩
  case round =>
    obtain ⟨m, k, rfl, rfl, hm, hk, HK⟩ := hrel
    by_cases h0 : m = 0
    · subst h0
      have hk2 : k = N := by
        have h1 := HK.out
        rw [H0.out] at h1
        omega
      subst hk2
      go_wp2
      go_ret
      exact ⟨rfl, rfl⟩
    · have h1 := HK.out
      rw [HH.out m hm] at h1
      have HK2 : Hid (k + m % 2 + P (m / 2) = N) := by rw [Nat.add_assoc]; exact h1
      have hk2 : k + m % 2 ≤ 64 := by omega
      have d0 : decide ((0 : Int) < (m : Int)) = true := decide_eq_true (by omega)
      have m0 : (0 : Int) ≤ (m : Int) := by omega
      have m1 : (m : Int) ≤ 1099511627776 := by omega
      have k0 : (0 : Int) ≤ (k : Int) := by omega
      have k1 : (k : Int) ≤ 64 := by omega
      clear h1
      go_wp2
      go_round
      case rel => exact ⟨m / 2, k + m % 2, by rw [Int.natCast_ediv]; rfl, by go_num, by omega, hk2, HK2⟩
      case measure => simp [intOf]; omega
theorem rones_any (n : Nat) (w : World) (hn : n ≤ 1099511627776) :
    Calls Tryd.prog 78 #[.int .i64 n] w fun e w' => e = .returned (.int .i64 (Go.Lib.popAux 64 n : Nat)) ∧ w' = w :=
  rones_aux (Go.Lib.popAux 64) (by decide +kernel) pop_half (pop_le 64) n w hn
set_option maxRecDepth 100000 in
set_option maxHeartbeats 1000000 in
theorem fm_lo (s : Int) (A : Option Addr) (n c : Nat) (w : World) (h : s < 0) :
    Calls Tryd.prog 56 #[pkV s (.slice A n c)] w fun e w' => e = .returned (.bool false) ∧ Below w.heap.size w w' := by
  have d0 : decide (0 ≤ s) = false := decide_eq_false (by omega)
  have hb := Lib.hid ((Below.refl w.heap.size w).alloc (Nat.le_refl _) (.cells #[.int .i64 s, .slice A n c] 43))
  clear h
  unfold pkV
  go_enter Tryd.func56, Tryd.ntmps56
  go_wp2
  go_quiet (fail)
  go_wp2
  go_ret
  exact ⟨rfl, drewN_below hb.out _⟩
set_option maxRecDepth 100000 in
set_option maxHeartbeats 1000000 in
theorem fm_hi (s : Int) (A : Option Addr) (n c : Nat) (w : World) (h : 1099511627776 < s) :
    Calls Tryd.prog 56 #[pkV s (.slice A n c)] w fun e w' => e = .returned (.bool false) ∧ Below w.heap.size w w' := by
  have d0 : decide (0 ≤ s) = true := decide_eq_true (by omega)
  have d1 : decide (s ≤ 1099511627776) = false := decide_eq_false (by omega)
  have hb := Lib.hid ((Below.refl w.heap.size w).alloc (Nat.le_refl _) (.cells #[.int .i64 s, .slice A n c] 43))
  clear h
  unfold pkV
  go_enter Tryd.func56, Tryd.ntmps56
  go_wp2
  go_quiet (fail)
  go_wp2
  go_ret
  exact ⟨rfl, drewN_below hb.out _⟩
set_option maxRecDepth 100000 in
set_option maxHeartbeats 1000000 in
theorem fm_in (s : Nat) (A : Option Addr) (n c : Nat) (w : World) (h : s ≤ 1099511627776) :
    Calls Tryd.prog 56 #[pkV s (.slice A n c)] w fun e w' => e = .returned (.bool ((n : Int) == (Go.Lib.popAux 64 s : Nat))) ∧ Below w.heap.size w w' := by
  have d0 : decide (0 ≤ (s : Int)) = true := decide_eq_true (by omega)
  have d1 : decide ((s : Int) ≤ 1099511627776) = true := decide_eq_true (by omega)
  have hb := Lib.hid ((Below.refl w.heap.size w).alloc (Nat.le_refl _) (.cells #[.int .i64 s, .slice A n c] 43))
  have HC := Lib.hid (fun w => rones_any s w h)
  clear h
  unfold pkV
  go_enter Tryd.func56, Tryd.ntmps56
  go_wp2
  go_quiet ((go_at_call 78; exact Calls.quiet_of_same (HC.out _)))
  go_wp2
  go_ret
  exact ⟨rfl, drewN_below hb.out _⟩
theorem fm_any (s : Int) (A : Option Addr) (n c : Nat) (w : World) :
    Calls Tryd.prog 56 #[pkV s (.slice A n c)] w fun e w' => e = .returned (.bool (wfB s n)) ∧ Below w.heap.size w w' := by
  rcases Int.lt_or_le s 0 with h0 | h0
  · rw [show wfB s n = false from decide_eq_false (by omega)]; exact fm_lo s A n c w h0
  · rcases Int.lt_or_le 1099511627776 s with h1 | h1
    · rw [show wfB s n = false from decide_eq_false (by omega)]; exact fm_hi s A n c w h1
    · obtain ⟨k, rfl⟩ := Int.eq_ofNat_of_zero_le h0
      have e : wfB (k : Int) n = ((n : Int) == (Go.Lib.popAux 64 k : Nat)) := by
        unfold wfB
        rw [Bool.eq_iff_iff, decide_eq_true_iff, beq_iff_eq, Int.toNat_natCast]
        omega
      rw [e]; exact fm_in k A n c w (by omega)
end Go.Proofs.YtfbemmeonkceiaaDoor
