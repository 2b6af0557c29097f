/- Contracts of the reference's length and GetBytes. -/
import Derived.Test.YtpobblcokkgijaaWRefD
namespace Go.Proofs.Ytpobblcokkgijaa
open Go.RowKit Wm

theorem rgetInt_at {l : List UInt8} {n : Int} {u e : Nat} (hg : gi l = (n, u, e)) (A : Option Addr) (c : Nat) (w : World) (hl : l.length ≤ 140737488355328) (hr : Rd w A (bc l)) :
    Calls Try.prog 25 #[.slice A l.length c] w fun x w' => x = .returned (.tuple #[.int .i64 n, .int .i64 (u : Int), .int .i64 (e : Int)]) ∧ w = w' := by
  have h := rgetInt_any A c l w hl hr
  rw [hg] at h
  exact h

set_option maxRecDepth 100000 in
set_option maxHeartbeats 400000 in
theorem rlength_any (A : Option Addr) (c : Nat) (l : List UInt8) (s : Nat) (w : World) (hs : 1 ≤ s) (hs2 : s ≤ 1000) (hl : l.length ≤ 140737488355328) (hr : Rd w A (bc l)) :
    Calls Try.prog 47 #[.slice A l.length c, .int .i64 (s : Int)] w fun e w' => e = .returned (.tuple #[.int .i64 ((gl s l).1 : Nat), .int .i64 ((gl s l).2.1 : Nat), .int .i64 ((gl s l).2.2 : Nat)]) ∧ w = w' := by
  obtain ⟨n, u, e, hg⟩ : ∃ n u e, gi l = (n, u, e) := ⟨_, _, _, rfl⟩
  have hcs := gi_cases l
  have hG : gl s l = if e ≠ 0 then (0, 0, e) else if n < 0 then (0, 0, 11) else if (l.length - u) / s < n.toNat then (0, 0, 10) else (n.toNat, u, 0) := by unfold gl; rw [hg]
  rw [hg] at hcs
  by_cases he : e = 0
  · subst he
    have hok : 1 ≤ u ∧ u ≤ 10 ∧ u ≤ l.length ∧ -9223372036854775808 ≤ n ∧ n ≤ 9223372036854775807 := by
      rcases hcs with h | h | h
      · exact ⟨h.2.1, h.2.2.1, h.2.2.2.1, h.2.2.2.2.2.1, h.2.2.2.2.2.2⟩
      · simp at h
      · simp at h
    obtain ⟨h1, h2, h3, h4, h5⟩ := hok
    clear hcs
    rw [if_neg (by simp)] at hG
    have HC := Lib.hid (rgetInt_at hg A c w hl hr)
    clear hg hr
    by_cases hn : n < 0
    · rw [if_pos hn] at hG
      have HG := Lib.hid hG
      clear hG
      go_enter Try.func47, Try.ntmps47
      go_wp2_with (go_at_call 25; refine HC.out.mono ?_; rintro e w' ⟨rfl, rfl⟩)
      go_ret3
      exact ⟨by rw [HG.out]; rfl, rfl⟩
    · rw [if_neg hn] at hG
      obtain ⟨m, rfl⟩ : ∃ m : Nat, n = (m : Int) := ⟨n.toNat, by omega⟩
      rw [Int.toNat_natCast] at hG
      have hd : (((l.length - u) / s : Nat) : Int) = ((l.length : Int) - (u : Int)) / (s : Int) := by
        rw [Int.natCast_ediv, Int.natCast_sub h3]
      have hq : (l.length - u) / s ≤ l.length := Nat.le_trans (Nat.div_le_self _ _) (Nat.sub_le _ _)
      by_cases hm : (l.length - u) / s < m
      · rw [if_pos hm] at hG
        have HG := Lib.hid hG
        have hm' : ((l.length : Int) - (u : Int)) / (s : Int) < (m : Int) := by rw [← hd]; omega
        clear hG hd hm hq
        go_enter Try.func47, Try.ntmps47
        go_wp2_with (go_at_call 25; refine HC.out.mono ?_; rintro e w' ⟨rfl, rfl⟩)
        go_ret3
        exact ⟨by rw [HG.out]; rfl, rfl⟩
      · rw [if_neg hm] at hG
        have HG := Lib.hid hG
        have hm' : ¬ ((l.length : Int) - (u : Int)) / (s : Int) < (m : Int) := by rw [← hd]; omega
        clear hG hd hm hq
        go_enter Try.func47, Try.ntmps47
        go_wp2_with (go_at_call 25; refine HC.out.mono ?_; rintro e w' ⟨rfl, rfl⟩)
        go_ret3
        exact ⟨by rw [HG.out]; rfl, rfl⟩
  · have hn : n = 0 ∧ u = 0 ∧ (e = 10 ∨ e = 11) := by
      rcases hcs with h | h | h
      · exact absurd h.1 he
      · injection h with a b; injection b with b d; exact ⟨a, b, .inl d⟩
      · injection h with a b; injection b with b d; exact ⟨a, b, .inr d⟩
    obtain ⟨rfl, rfl, he2⟩ := hn
    rw [if_pos he] at hG
    have HG := Lib.hid hG
    have HC := Lib.hid (rgetInt_at hg A c w hl hr)
    clear hG hcs hg hr he
    rcases he2 with rfl | rfl
    all_goals
      go_enter Try.func47, Try.ntmps47
      go_wp2_with (go_at_call 25; refine HC.out.mono ?_; rintro e w' ⟨rfl, rfl⟩)
      go_ret3
      exact ⟨by rw [HG.out]; rfl, rfl⟩

theorem rlength_at {s : Nat} {l : List UInt8} {n u e : Nat} (hg : gl s l = (n, u, e)) (A : Option Addr) (c : Nat) (w : World) (hs : 1 ≤ s) (hs2 : s ≤ 1000) (hl : l.length ≤ 140737488355328) (hr : Rd w A (bc l)) :
    Calls Try.prog 47 #[.slice A l.length c, .int .i64 (s : Int)] w fun x w' => x = .returned (.tuple #[.int .i64 (n : Int), .int .i64 (u : Int), .int .i64 (e : Int)]) ∧ w = w' := by
  have h := rlength_any A c l s w hs hs2 hl hr
  rw [hg] at h
  exact h

set_option maxRecDepth 100000 in
set_option maxHeartbeats 1000000 in
theorem rgetBytes_any (A : Option Addr) (c : Nat) (l : List UInt8) (w : World) (hc : l.length ≤ c) (hl : l.length ≤ 140737488355328) (hr : Rd w A (bc l)) :
    Calls Try.prog 27 #[.slice A l.length c] w fun e w' => e = .returned (.tuple #[.string (st (gb l).1), .int .i64 ((gb l).2.1 : Nat), .int .i64 ((gb l).2.2 : Nat)]) ∧ w = w' := by
  obtain ⟨n, u, e, hg⟩ : ∃ n u e, gi l = (n, u, e) := ⟨_, _, _, rfl⟩
  have hcs := gi_cases l
  have hL : gl 1 l = if e ≠ 0 then (0, 0, e) else if n < 0 then (0, 0, 11) else if (l.length - u) / 1 < n.toNat then (0, 0, 10) else (n.toNat, u, 0) := by unfold gl; rw [hg]
  rw [hg] at hcs
  by_cases he : e = 0
  · subst he
    have hok : 1 ≤ u ∧ u ≤ 10 ∧ u ≤ l.length ∧ -9223372036854775808 ≤ n ∧ n ≤ 9223372036854775807 := by
      rcases hcs with h | h | h
      · exact ⟨h.2.1, h.2.2.1, h.2.2.2.1, h.2.2.2.2.2.1, h.2.2.2.2.2.2⟩
      · simp at h
      · simp at h
    obtain ⟨h1, h2, h3, h4, h5⟩ := hok
    clear hcs
    rw [if_neg (by simp)] at hL
    have HC := Lib.hid (rgetInt_at hg A c w hl hr)
    clear hg
    by_cases hn : n < 0
    · rw [if_pos hn] at hL
      have HG : Hid (gb l = ([], 0, 11)) := by show _ = _; unfold gb; rw [hL]; rfl
      clear hL hr
      go_enter Try.func27, Try.ntmps27
      go_wp2_with (go_at_call 25; refine HC.out.mono ?_; rintro e w' ⟨rfl, rfl⟩)
      go_ret3
      exact ⟨by rw [HG.out]; rfl, rfl⟩
    · rw [if_neg hn] at hL
      obtain ⟨m, rfl⟩ : ∃ m : Nat, n = (m : Int) := ⟨n.toNat, by omega⟩
      rw [Int.toNat_natCast, Nat.div_one] at hL
      by_cases hm : l.length - u < m
      · rw [if_pos hm] at hL
        have HG : Hid (gb l = ([], 0, 10)) := by show _ = _; unfold gb; rw [hL]; rfl
        have hm' : ((l.length : Int) - (u : Int)) < (m : Int) := by omega
        clear hL hm hr
        go_enter Try.func27, Try.ntmps27
        go_wp2_with (go_at_call 25; refine HC.out.mono ?_; rintro e w' ⟨rfl, rfl⟩)
        go_ret3
        exact ⟨by rw [HG.out]; rfl, rfl⟩
      · rw [if_neg hm] at hL
        have HG : Hid (gb l = ((l.drop u).take m, u + m, 0)) := by show _ = _; unfold gb; rw [hL]; rfl
        have hm' : ¬ ((l.length : Int) - (u : Int)) < (m : Int) := by omega
        have h2' : u + m ≤ l.length := by omega
        have hx : ∃ A1, (if c = u then A else A.map (·.add u)) = A1 ∧ Rd w A1 (bc ((l.drop u).take m)) := ⟨_, rfl, by rw [bc_take, bc_drop]; exact (hr.cut (by rw [bc_len]; exact hc)).take m⟩
        obtain ⟨A1, hA1, hr1⟩ := hx
        have hn' : ((l.drop u).take m).length = m := by simp; omega
        have hcv : ∀ cp, (convert 28 9 (.slice A1 m cp)).run Try.prog w = .ok (.string (st ((l.drop u).take m))) w := by
          intro cp
          have := run_str hr1 cp
          rw [hn'] at this
          exact this
        clear hL hm hr hr1 hn' hn
        go_enter Try.func27, Try.ntmps27
        go_wp2_with (go_at_call 25; refine HC.out.mono ?_; rintro e w' ⟨rfl, rfl⟩)
        go_ret3
        exact ⟨by rw [HG.out]; rfl, rfl⟩
  · have hn : n = 0 ∧ u = 0 ∧ (e = 10 ∨ e = 11) := by
      rcases hcs with h | h | h
      · exact absurd h.1 he
      · injection h with a b; injection b with b d; exact ⟨a, b, .inl d⟩
      · injection h with a b; injection b with b d; exact ⟨a, b, .inr d⟩
    obtain ⟨rfl, rfl, he2⟩ := hn
    rw [if_pos he] at hL
    have HG : Hid (gb l = ([], 0, e)) := by
      show _ = _; unfold gb; rw [hL]
      show (if e = 0 then _ else _) = _
      rw [if_neg he]
    have HC := Lib.hid (rgetInt_at hg A c w hl hr)
    clear hL hcs hg hr he
    rcases he2 with rfl | rfl
    all_goals
      go_enter Try.func27, Try.ntmps27
      go_wp2_with (go_at_call 25; refine HC.out.mono ?_; rintro e w' ⟨rfl, rfl⟩)
      go_ret3
      exact ⟨by rw [HG.out]; rfl, rfl⟩
theorem rgetBytes_at {l : List UInt8} {x : List UInt8} {u e : Nat} (hg : gb l = (x, u, e)) (A : Option Addr) (c : Nat) (w : World) (hc : l.length ≤ c) (hl : l.length ≤ 140737488355328) (hr : Rd w A (bc l)) :
    Calls Try.prog 27 #[.slice A l.length c] w fun y w' => y = .returned (.tuple #[.string (st x), .int .i64 (u : Int), .int .i64 (e : Int)]) ∧ w = w' := by
  have h := rgetBytes_any A c l w hc hl hr
  rw [hg] at h
  exact h
end Go.Proofs.Ytpobblcokkgijaa
