/- Contracts of merkle's half, cut (at digests) and parts. -/
import Derived.Test.YtfbemmeonkceiaaDoorK2
import Derived.Test.YtfbemmeonkceiaaDoorKShelf
namespace Go.Proofs.YtfbemmeonkceiaaDoor
open Go.RowKit Hm Wm

theorem bitLen_log (x : Nat) (h0 : x ≠ 0) (h : x < 2 ^ 64) : Go.Lib.bitLen x = Nat.log2 x + 1 := by
  have aux : ∀ k x, x ≠ 0 → x < 2 ^ k → k ≤ 64 → Go.Lib.bitLen x = Nat.log2 x + 1 := by
    intro k
    induction k with
    | zero => intro x h0 h1 _; simp at h1; omega
    | succ k ih =>
      intro x h0 h1 hk
      have hx : x < 2 ^ 64 := Nat.lt_of_lt_of_le h1 (Nat.pow_le_pow_right (by omega) hk)
      rw [Go.Lib.bitLen_half x h0 hx]
      by_cases h2 : x = 1
      · subst h2; decide
      · rw [ih (x / 2) (by omega) (by rw [Nat.pow_succ] at h1; omega) (by omega), Nat.log2_def x, if_pos (by omega)]; omega
  exact aux 64 x h0 h (by omega)
theorem hf_le (n : Nat) (h : n ≤ 2 ^ 41) : hf n ≤ 2 ^ 41 := by
  rcases Nat.lt_or_ge n 2 with h1 | h1
  · have : hf n = 1 := by
      unfold hf
      have : n - 1 = 0 := by omega
      rw [this]; rfl
    rw [this]; decide
  · have := hf_lt h1; omega
theorem log_le {n : Nat} (h2 : 2 ≤ n) (h : n ≤ 2 ^ 41) : Nat.log2 (n - 1) ≤ 40 := by
  have := (Nat.log2_lt (n := n - 1) (k := 41) (by omega)).2 (by omega)
  omega

theorem wrap_pow (k : Nat) (h : k ≤ 40) : wrap64 ((2 : Int) ^ k) = ((2 ^ k : Nat) : Int) := by
  have hp : (2 : Nat) ^ k ≤ 1099511627776 := Nat.le_trans (Nat.pow_le_pow_right (by omega) h) (by decide)
  rw [show ((2 : Int) ^ k) = ((2 ^ k : Nat) : Int) from by simp]
  generalize (2 ^ k : Nat) = z at hp ⊢
  unfold wrap64; omega

set_option maxHeartbeats 400000 in
theorem half_any (n : Nat) (w : World) (h2 : 2 ≤ n) (hn : n ≤ 2 ^ 41) :
    Calls Tryd.prog 61 #[.int .i64 n] w fun e w' => e = .returned (.int .i64 (hf n : Nat)) ∧ w' = w := by
  have hlog := log_le h2 hn
  have hb : Go.Lib.bitLen ((n : Int) - 1).toNat = Nat.log2 (n - 1) + 1 := by rw [show ((n : Int) - 1).toNat = n - 1 from by omega]; exact bitLen_log _ (by omega) (by omega)
  obtain ⟨k, hk⟩ : ∃ k, Nat.log2 (n - 1) = k := ⟨_, rfl⟩
  have hf' : hf n = 2 ^ k := by unfold hf; rw [hk]
  rw [hk] at hb hlog
  have HB := Lib.hid hb
  have HF := Lib.hid hf'
  have h1 : (2 : Int) ≤ (n : Int) := by omega
  have h3 : (n : Int) ≤ 2199023255552 := by omega
  clear hb hf' hk
  go_enter Tryd.func61, Tryd.ntmps61
  go_wp2_with fail
  refine (Tryd.bits_Len ((n : Int) - 1) _ (by omega) (by omega)).mono ?_
  rintro e w' ⟨rfl, rfl⟩
  rw [HB.out]
  go_wp2
  go_ret
  have hw := wrap_pow k hlog
  exact ⟨by rw [HF.out, ← hw]; rfl, rfl⟩

theorem run_cut_first (A : Option Addr) (n c k : Nat) (hk : k ≤ n) (hn : n ≤ c) (W : World) :
    (Instr.sliceAt 22 (.slice A n c) none (some (.int .i64 k)) (some (.int .i64 k))).run Tryd.prog W = .ok (.slice A k k) W := by
  have hu : Tryd.prog.underlying 22 = some (.slice 31) := Tryd.underlying22
  simp [Instr.sliceAt, Instr.slice, run_underlying hu, Instr.sliceBounds, run_sliceBound, (by omega : (k : Int) ≤ c)]
  intro _
  rcases A with _ | ⟨b, o, i⟩
  · rfl
  · cases i <;> simp [Addr.add]
theorem run_cut_others (A : Option Addr) (n c k : Nat) (hk : k ≤ n) (hn : n ≤ c) (W : World) :
    (Instr.sliceAt 22 (.slice A n c) (some (.int .i64 k)) (some (.int .i64 n)) (some (.int .i64 n))).run Tryd.prog W = .ok (.slice (dA A n k) (n - k) (n - k)) W := by
  have hu : Tryd.prog.underlying 22 = some (.slice 31) := Tryd.underlying22
  simp [Instr.sliceAt, Instr.slice, run_underlying hu, Instr.sliceBounds, run_sliceBound, (by omega : (n : Int) ≤ c), (by omega : (k : Int) ≤ n)]
  rfl

set_option maxHeartbeats 400000 in
theorem cut_any (A : Option Addr) (n c k : Nat) (w : World) (hk : k ≤ n) (hn : n ≤ c) :
    Calls Tryd.prog 53 #[.slice A n c, .int .i64 k] w fun e w' => e = .returned (.tuple #[.slice A k k, .slice (dA A n k) (n - k : Nat) (n - k : Nat)]) ∧ ∃ q, w' = w.drewN q := by
  have h1 := run_cut_first A n c k hk hn
  have h2 := run_cut_others A n c k hk hn
  go_enter Tryd.func53, Tryd.ntmps53
  go_wp2
  go_quiet (fail)
  go_wp2
  go_ret2
  exact ⟨rfl, _, rfl⟩

set_option maxHeartbeats 400000 in
theorem parts_any (A : Option Addr) (n c : Nat) (w : World) (h2 : 2 ≤ n) (hn : n ≤ c) (hc : n ≤ 2 ^ 41) :
    Calls Tryd.prog 33 #[.slice A n c] w fun e w' => e = .returned (.tuple #[.slice A (hf n) (hf n), .slice (dA A n (hf n)) (n - hf n : Nat) (n - hf n : Nat)]) ∧ ∃ q, w' = w.drewN q := by
  have hlt := hf_lt h2
  have HC := Lib.hid (cut_any A n c (hf n) w (by omega) hn)
  have HH := Lib.hid (half_any n w h2 hc)
  clear hlt
  go_enter Tryd.func33, Tryd.ntmps33
  go_wp2_with fail
  refine HH.out.mono ?_
  rintro e w' ⟨rfl, rfl⟩
  go_wp2_with fail
  refine HC.out.mono ?_
  rintro e w' ⟨rfl, q, rfl⟩
  go_wp2
  go_ret2
  exact ⟨rfl, q, rfl⟩
end Go.Proofs.YtfbemmeonkceiaaDoor
