/- Contracts of wire's getLength, GetBytes, appendBytes and Bytes. -/
import Derived.Test.YtpobblcokkgijaaWGet
import Derived.Laws.BytesArg
namespace Go.Proofs.Ytpobblcokkgijaa
open Go.RowKit Wm

theorem getInt_at {l : List UInt8} {n : Int} {u e : Nat} (hg : gi l = (n, u, e)) (A : Option Addr) (c : Nat) (w : World) (hl : l.length ≤ 140737488355328) (hr : Rd w A (bc l)) :
    Calls Try.prog 24 #[.slice A l.length c] w fun x w' => x = .returned (.tuple #[.int .i64 n, .int .i64 (u : Int), .int .i64 (e : Int)]) ∧ w = w' := by
  have h := getInt_any A c l w hl hr
  rw [hg] at h
  exact h

/-- What getLength is to answer. -/
def gl (s : Nat) (l : List UInt8) : Nat × Nat × Nat :=
  if (gi l).2.2 ≠ 0 then (0, 0, (gi l).2.2) else if (gi l).1 < 0 then (0, 0, 11) else if (l.length - (gi l).2.1) / s < (gi l).1.toNat then (0, 0, 10) else ((gi l).1.toNat, (gi l).2.1, 0)

set_option maxRecDepth 100000 in
set_option maxHeartbeats 400000 in
theorem getLength_any (A : Option Addr) (c : Nat) (l : List UInt8) (s : Nat) (w : World) (hs : 1 ≤ s) (hs2 : s ≤ 1000) (hl : l.length ≤ 140737488355328) (hr : Rd w A (bc l)) :
    Calls Try.prog 45 #[.slice A l.length c, .int .i64 (s : Int)] w fun e w' => e = .returned (.tuple #[.int .i64 ((gl s l).1 : Nat), .int .i64 ((gl s l).2.1 : Nat), .int .i64 ((gl s l).2.2 : Nat)]) ∧ w = w' := by
  obtain ⟨n, u, e, hg⟩ : ∃ n u e, gi l = (n, u, e) := ⟨_, _, _, rfl⟩
  have hcs := gi_cases l
  have hG : gl s l = if e ≠ 0 then (0, 0, e) else if n < 0 then (0, 0, 11) else if (l.length - u) / s < n.toNat then (0, 0, 10) else (n.toNat, u, 0) := by unfold gl; rw [hg]
  rw [hg] at hcs
  by_cases he : e = 0
  · subst he
    have hok : 1 ≤ u ∧ u ≤ 10 ∧ u ≤ l.length ∧ -9223372036854775808 ≤ n ∧ n ≤ 9223372036854775807 := by
      rcases hcs with h | h | h
      · exact ⟨h.2.1, h.2.2.1, h.2.2.2.1, h.2.2.2.2.2.1, h.2.2.2.2.2.2⟩
      · simp at h
      · simp at h
    obtain ⟨h1, h2, h3, h4, h5⟩ := hok
    clear hcs
    rw [if_neg (by simp)] at hG
    have HC := Lib.hid (getInt_at hg A c w hl hr)
    clear hg hr
    by_cases hn : n < 0
    · rw [if_pos hn] at hG
      have HG := Lib.hid hG
      clear hG
      go_enter Try.func45, Try.ntmps45
      go_wp2_with (go_at_call 24; refine HC.out.mono ?_; rintro e w' ⟨rfl, rfl⟩)
      go_ret3
      exact ⟨by rw [HG.out]; rfl, rfl⟩
    · rw [if_neg hn] at hG
      obtain ⟨m, rfl⟩ : ∃ m : Nat, n = (m : Int) := ⟨n.toNat, by omega⟩
      rw [Int.toNat_natCast] at hG
      have hd : (((l.length - u) / s : Nat) : Int) = ((l.length : Int) - (u : Int)) / (s : Int) := by
        rw [Int.natCast_ediv, Int.natCast_sub h3]
      have hq : (l.length - u) / s ≤ l.length := Nat.le_trans (Nat.div_le_self _ _) (Nat.sub_le _ _)
      by_cases hm : (l.length - u) / s < m
      · rw [if_pos hm] at hG
        have HG := Lib.hid hG
        have hm' : ((l.length : Int) - (u : Int)) / (s : Int) < (m : Int) := by rw [← hd]; omega
        clear hG hd hm hq
        go_enter Try.func45, Try.ntmps45
        go_wp2_with (go_at_call 24; refine HC.out.mono ?_; rintro e w' ⟨rfl, rfl⟩)
        go_ret3
        exact ⟨by rw [HG.out]; rfl, rfl⟩
      · rw [if_neg hm] at hG
        have HG := Lib.hid hG
        have hm' : ¬ ((l.length : Int) - (u : Int)) / (s : Int) < (m : Int) := by rw [← hd]; omega
        clear hG hd hm hq
        go_enter Try.func45, Try.ntmps45
        go_wp2_with (go_at_call 24; refine HC.out.mono ?_; rintro e w' ⟨rfl, rfl⟩)
        go_ret3
        exact ⟨by rw [HG.out]; rfl, rfl⟩
  · have hn : n = 0 ∧ u = 0 ∧ (e = 10 ∨ e = 11) := by
      rcases hcs with h | h | h
      · exact absurd h.1 he
      · injection h with a b; injection b with b d; exact ⟨a, b, .inl d⟩
      · injection h with a b; injection b with b d; exact ⟨a, b, .inr d⟩
    obtain ⟨rfl, rfl, he2⟩ := hn
    rw [if_pos he] at hG
    have HG := Lib.hid hG
    have HC := Lib.hid (getInt_at hg A c w hl hr)
    clear hG hcs hg hr he
    rcases he2 with rfl | rfl
    all_goals
      go_enter Try.func45, Try.ntmps45
      go_wp2_with (go_at_call 24; refine HC.out.mono ?_; rintro e w' ⟨rfl, rfl⟩)
      go_ret3
      exact ⟨by rw [HG.out]; rfl, rfl⟩

theorem gl_cases (s : Nat) (l : List UInt8) : ((gl s l).2.2 = 0 ∧ 1 ≤ (gl s l).2.1 ∧ (gl s l).2.1 + s * (gl s l).1 ≤ l.length ∧ (gl s l).1 ≤ 9223372036854775807 ∧ gi l = (((gl s l).1 : Int), (gl s l).2.1, 0)) ∨ gl s l = (0, 0, 10) ∨ gl s l = (0, 0, 11) := by
  obtain ⟨n, u, e, hg⟩ : ∃ n u e, gi l = (n, u, e) := ⟨_, _, _, rfl⟩
  have hcs := gi_cases l
  have hG : gl s l = if e ≠ 0 then (0, 0, e) else if n < 0 then (0, 0, 11) else if (l.length - u) / s < n.toNat then (0, 0, 10) else (n.toNat, u, 0) := by unfold gl; rw [hg]
  rw [hg] at hcs ⊢
  rcases hcs with h | h | h
  · obtain ⟨h0, h1, h2, h3, _, h4, h5⟩ := h
    have h0' : e = 0 := h0
    subst h0'
    rw [if_neg (by simp)] at hG
    by_cases hn : n < 0
    · rw [if_pos hn] at hG; exact .inr (.inr hG)
    · rw [if_neg hn] at hG
      by_cases hm : (l.length - u) / s < n.toNat
      · rw [if_pos hm] at hG; exact .inr (.inl hG)
      · rw [if_neg hm] at hG
        left
        rw [hG]
        have h6 : s * n.toNat ≤ l.length - u := by
          have := Nat.mul_le_mul_left s (Nat.le_of_not_lt hm)
          exact Nat.le_trans this (Nat.mul_div_le _ _)
        have h3' : u ≤ l.length := h3
        have h5' : n ≤ 9223372036854775807 := h5
        refine ⟨rfl, h1, by show u + s * n.toNat ≤ _; omega, by show n.toNat ≤ _; omega, ?_⟩
        show (n, u, 0) = ((n.toNat : Int), u, 0)
        rw [Int.toNat_of_nonneg (by omega)]
  · injection h with a b; injection b with b d
    rw [d, if_pos (by omega)] at hG; exact .inr (.inl hG)
  · injection h with a b; injection b with b d
    rw [d, if_pos (by omega)] at hG; exact .inr (.inr hG)

theorem getLength_at {s : Nat} {l : List UInt8} {n u e : Nat} (hg : gl s l = (n, u, e)) (A : Option Addr) (c : Nat) (w : World) (hs : 1 ≤ s) (hs2 : s ≤ 1000) (hl : l.length ≤ 140737488355328) (hr : Rd w A (bc l)) :
    Calls Try.prog 45 #[.slice A l.length c, .int .i64 (s : Int)] w fun x w' => x = .returned (.tuple #[.int .i64 (n : Int), .int .i64 (u : Int), .int .i64 (e : Int)]) ∧ w = w' := by
  have h := getLength_any A c l s w hs hs2 hl hr
  rw [hg] at h
  exact h

/-- A string of bytes. -/
def st (l : List UInt8) : ByteArray := ⟨l.toArray⟩
theorem st_size (l : List UInt8) : (st l).size = l.length := by simp [st, ByteArray.size]
theorem st_list (l : List UInt8) : (st l).data.toList = l := by simp [st]
theorem st_of (s : ByteArray) : st s.data.toList = s := by simp [st]
theorem strCells_st (l : List UInt8) : Go.Lib.strCells (st l) = bc l := by simp [Go.Lib.strCells, st, bc]

/-- Bytes turned into a string. -/
theorem run_str {w : World} {A : Option Addr} {l : List UInt8} (h : Rd w A (bc l)) (c : Nat) : (convert 28 9 (.slice A l.length c)).run Try.prog w = .ok (.string (st l)) w := by
  rw [run_convert_bytes_string w 28 9 5 A l.length c Try.underlying28 Try.underlying5 Try.underlying9]
  cases A with
  | none =>
    have hn : l = [] := by
      rcases l with _ | ⟨x, r⟩
      · rfl
      · obtain ⟨b, off, hA, _⟩ := h (by simp [bc])
        cases hA
    subst hn
    simp [Conv.bytesToString]
    rfl
  | some a =>
    have hl : (loadCells a l.length).run Try.prog w = .ok ((l.map fun b => (b.toNat : Int)).map (Value.int .u8)).toArray w := by
      have e : (l.map fun b => (b.toNat : Int)).map (Value.int .u8) = bc l := by simp [bc]
      rw [e, ← bc_len l]
      apply run_loadCells_list
      intro j v hj
      have hne : bc l ≠ [] := by intro e0; rw [e0] at hj; simp at hj
      obtain ⟨a', ha, hc⟩ := h.news hne
      injection ha with ha
      subst ha
      exact hc j v hj
    rw [run_bytesToString w a l.length c _ hl, foldl_push_bytes]
    have e2 : (l.map fun b => (b.toNat : Int)).map (fun n => UInt8.ofNat n.toNat) = l := by
      rw [List.map_map]
      conv => rhs; rw [← List.map_id l]
      apply List.map_congr_left
      intro b _
      show UInt8.ofNat ((b.toNat : Int).toNat) = b
      rw [Int.toNat_natCast]; simp
    rw [e2]
    simp [ByteArray.empty, ByteArray.emptyWithCapacity, st]
    rfl

/-- What GetBytes is to answer. -/
def gb (l : List UInt8) : List UInt8 × Nat × Nat := if (gl 1 l).2.2 = 0 then ((l.drop (gl 1 l).2.1).take (gl 1 l).1, (gl 1 l).2.1 + (gl 1 l).1, 0) else ([], 0, (gl 1 l).2.2)

set_option maxRecDepth 100000 in
set_option maxHeartbeats 400000 in
theorem getBytes_any (A : Option Addr) (c : Nat) (l : List UInt8) (w : World) (hc : l.length ≤ c) (hl : l.length ≤ 140737488355328) (hr : Rd w A (bc l)) :
    Calls Try.prog 26 #[.slice A l.length c] w fun e w' => e = .returned (.tuple #[.string (st (gb l).1), .int .i64 ((gb l).2.1 : Nat), .int .i64 ((gb l).2.2 : Nat)]) ∧ w = w' := by
  obtain ⟨n, u, e, hg⟩ : ∃ n u e, gl 1 l = (n, u, e) := ⟨_, _, _, rfl⟩
  have hcs := gl_cases 1 l
  have hG : gb l = if e = 0 then ((l.drop u).take n, u + n, 0) else ([], 0, e) := by unfold gb; rw [hg]
  rw [hg] at hcs
  rcases hcs with h | h | h
  · obtain ⟨h0, h1, h2, _, _⟩ := h
    have h0' : e = 0 := h0
    subst h0'
    rw [if_pos rfl] at hG
    have HG := Lib.hid hG
    have h1' : 1 ≤ u := h1
    have h2' : u + n ≤ l.length := by have : u + 1 * n ≤ l.length := h2; omega
    have HC := Lib.hid (getLength_at hg A c w (by omega) (by omega) hl hr)
    have hx : ∃ A1, (if c = u then A else A.map (·.add u)) = A1 ∧ Rd w A1 (bc ((l.drop u).take n)) := ⟨_, rfl, by rw [bc_take, bc_drop]; exact (hr.cut (by rw [bc_len]; exact hc)).take n⟩
    obtain ⟨A1, hA1, hr1⟩ := hx
    have hn : ((l.drop u).take n).length = n := by simp; omega
    have hcv : ∀ cp, (convert 28 9 (.slice A1 n cp)).run Try.prog w = .ok (.string (st ((l.drop u).take n))) w := by
      intro cp
      have := run_str hr1 cp
      rw [hn] at this
      exact this
    clear hG h1 h2 hg hr hr1 hn
    go_enter Try.func26, Try.ntmps26
    go_wp2_with (go_at_call 45; refine HC.out.mono ?_; rintro e w' ⟨rfl, rfl⟩)
    go_ret3
    exact ⟨by rw [HG.out]; rfl, rfl⟩
  all_goals
    injection h with a b; injection b with b d
    subst a; subst b; subst d
    rw [if_neg (by omega)] at hG
    have HG := Lib.hid hG
    have HC := Lib.hid (getLength_at hg A c w (by omega) (by omega) hl hr)
    clear hG hg hr
    go_enter Try.func26, Try.ntmps26
    go_wp2_with (go_at_call 45; refine HC.out.mono ?_; rintro e w' ⟨rfl, rfl⟩)
    go_ret3
    exact ⟨by rw [HG.out]; rfl, rfl⟩
end Go.Proofs.Ytpobblcokkgijaa
