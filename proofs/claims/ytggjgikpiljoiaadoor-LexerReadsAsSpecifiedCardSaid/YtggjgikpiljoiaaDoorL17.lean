/- Lines and columns. -/
import Derived.Test.YtggjgikpiljoiaaDoorL8
namespace Go.Proofs.YtggjgikpiljoiaaDoor
open Go.RowKit Hm Wm Lx

/-- Line and column behind bytes. -/
def posS (q : Nat × Nat) (c : UInt8) : Nat × Nat := if c = 10 then (q.1 + 1, 1) else (q.1, q.2 + 1)
def posL (l : List UInt8) : Nat × Nat := l.foldl posS (1, 1)
theorem ret_two {a b c d : Int} (h : a = c) (h2 : b = d) : Ending.returned (.tuple #[.int .i64 a, .int .i64 b]) = .returned (.tuple #[.int .i64 c, .int .i64 d]) := by rw [h, h2]
theorem posL_snoc (l : List UInt8) (c : UInt8) : posL (l ++ [c]) = posS (posL l) c := by simp [posL]
theorem posL_len (l : List UInt8) : (posL l).1 ≤ l.length + 1 ∧ (posL l).2 ≤ l.length + 1 ∧ 1 ≤ (posL l).2 := by
  have : ∀ (k : Nat) (l : List UInt8), l.length = k → (posL l).1 ≤ k + 1 ∧ (posL l).2 ≤ k + 1 ∧ 1 ≤ (posL l).2 := by
    intro k
    induction k with
    | zero => intro l hl; rw [List.eq_nil_of_length_eq_zero hl]; decide
    | succ k ih =>
      intro l hl
      have hw : l ≠ [] := fun e => by rw [e] at hl; cases hl
      obtain ⟨u, c, rfl⟩ : ∃ u c, l = u ++ [c] := ⟨l.dropLast, l.getLast hw, (List.dropLast_concat_getLast hw).symm⟩
      have := ih u (by simpa using hl)
      rw [posL_snoc]
      unfold posS
      split
      · simp only; omega
      · simp only; omega
  exact this _ l rfl
theorem count_pos (l : List UInt8) : 1 + Lib.countByte l 10 = (posL l).1 := by
  have : ∀ (k : Nat) (l : List UInt8), l.length = k → 1 + Lib.countByte l 10 = (posL l).1 := by
    intro k
    induction k with
    | zero => intro l hl; rw [List.eq_nil_of_length_eq_zero hl]; rfl
    | succ k ih =>
      intro l hl
      have hw : l ≠ [] := fun e => by rw [e] at hl; cases hl
      obtain ⟨u, c, rfl⟩ : ∃ u c, l = u ++ [c] := ⟨l.dropLast, l.getLast hw, (List.dropLast_concat_getLast hw).symm⟩
      have h1 := ih u (by simpa using hl)
      have h2 : Lib.countByte (u ++ [c]) 10 = Lib.countByte u 10 + (if c = 10 then 1 else 0) := by
        unfold Lib.countByte
        rw [List.count_append, List.count_singleton]
        congr 1
        by_cases hc : c = 10 <;> simp [hc]
      rw [posL_snoc, h2]
      unfold posS
      split
      · simp only; omega
      · simp only; omega
  exact this _ l rfl
theorem last_pos (s : ByteArray) : ∀ k : Nat, k ≤ s.size → (k : Int) - Lib.lastIdx s 10 k = ((posL (s.data.toList.take k)).2 : Nat) := by
  intro k
  induction k with
  | zero => intro _; rfl
  | succ k ih =>
    intro hk
    have hk' : k < s.data.toList.length := by rw [Array.length_toList]; exact hk
    have hk2 : k < s.data.size := hk
    have e : s.data.toList.take (k + 1) = s.data.toList.take k ++ [s.data[k]!] := by
      rw [List.take_succ_eq_append_getElem hk', getElem!_pos s.data k hk2]; rfl
    have h1 := ih (by omega)
    rw [e, posL_snoc]
    unfold posS
    by_cases hc : s.data[k]! = 10
    · rw [if_pos hc, Lib.lastIdx_hit s 10 k (by rw [hc]; rfl)]
      simp only; omega
    · rw [if_neg hc, Lib.lastIdx_miss s 10 k (by intro h; exact hc (UInt8.toNat_inj.1 (by have : ((10 : UInt8).toNat : Int) = 10 := rfl
                                                                                          omega)))]
      simp only; omega
theorem last_any (s : ByteArray) : (s.size : Int) - Lib.lastIndexByte s 10 = ((posL s.data.toList).2 : Nat) := by
  have := last_pos s s.size (Nat.le_refl _)
  rw [List.take_of_length_le (by rw [Array.length_toList]; exact Nat.le_refl _)] at this
  exact this
set_option maxRecDepth 100000 in
set_option maxHeartbeats 800000 in
theorem pos_no (l : List UInt8) (i : Int) (w : World) (hl : l.length ≤ 2 ^ 48) (h : i < 0 ∨ (l.length : Int) < i) : Calls Tryd.prog 15 #[.string (sb l), .int .i64 i] w fun e w' => e = .returned (.tuple #[.int .i64 0, .int .i64 0]) ∧ w = w' := by
  have hz : (sb l).size = l.length := sb_size l
  obtain ⟨s, hs⟩ : ∃ s, s = sb l := ⟨_, rfl⟩
  rw [← hs] at hz ⊢
  have h2 : i < 0 ∨ (0 ≤ i ∧ decide ((s.size : Int) < i) = true) := by
    rcases h with h | h
    · exact .inl h
    · exact .inr ⟨by omega, decide_eq_true (by rw [hz]; exact h)⟩
  clear hs hz h hl
  rcases h2 with h2 | ⟨h2, h3⟩
  · go_enter Tryd.func15, Tryd.ntmps15
    go_wp2
    go_ret2
    exact ⟨rfl, rfl⟩
  · go_enter Tryd.func15, Tryd.ntmps15
    go_wp2
    go_ret2
    exact ⟨rfl, rfl⟩
set_option maxRecDepth 100000 in
set_option maxHeartbeats 800000 in
theorem pos_yes (l : List UInt8) (i : Nat) (w : World) (hl : l.length ≤ 2 ^ 48) (h : i ≤ l.length) : Calls Tryd.prog 15 #[.string (sb l), .int .i64 i] w fun e w' => e = .returned (.tuple #[.int .i64 ((posL (l.take i)).1 : Nat), .int .i64 ((posL (l.take i)).2 : Nat)]) ∧ w = w' := by
  have hz : (sb l).size = l.length := sb_size l
  have hhi : ∀ W, (Instr.sliceAt 9 (.string (sb l)) none (some (.int .i64 i)) none).run Tryd.prog W = .ok (.string (sb (l.take i))) W := fun W => run_str_hi W l i h
  have htl : (l.take i).length = i := by rw [List.length_take]; omega
  have hp := posL_len (l.take i)
  rw [htl] at hp
  have hco : ∀ W, Calls Tryd.prog 24 #[.string (sb (l.take i)), .string ⟨#[10]⟩] W fun e w' => e = .returned (.int .i64 ((posL (l.take i)).1 - 1 : Nat)) ∧ W = w' := fun W => by
    refine (Tryd.strings_Count_one (sb (l.take i)) 10 W).mono fun e w' ⟨h1, h2⟩ => ⟨?_, h2.symm⟩
    have := count_pos (l.take i)
    rw [h1, sb_list]
    congr 2
    omega
  have hla : ∀ W, Calls Tryd.prog 25 #[.string (sb (l.take i)), .int .u8 10] W fun e w' => e = .returned (.int .i64 ((i : Int) - (posL (l.take i)).2)) ∧ W = w' := fun W => by
    refine (Tryd.strings_LastIndexByte (sb (l.take i)) 10 (by rw [sb_size, htl]; omega) W).mono fun e w' ⟨h1, h2⟩ => ⟨?_, h2.symm⟩
    have := last_any (sb (l.take i))
    rw [sb_size, htl, sb_list] at this
    rw [h1]
    congr 2
    omega
  have hp1 : 1 ≤ (posL (l.take i)).1 := by have := count_pos (l.take i); omega
  obtain ⟨s, hs⟩ : ∃ s, s = sb l := ⟨_, rfl⟩
  obtain ⟨q, hq⟩ : ∃ q, q = sb (l.take i) := ⟨_, rfl⟩
  rw [← hs] at hz hhi ⊢
  rw [← hq] at hhi hco hla
  generalize (posL (l.take i)).1 = a at hp hp1 hco ⊢
  generalize (posL (l.take i)).2 = b at hp hla ⊢
  have HHI := Lib.hid hhi
  have HCO := Lib.hid hco
  have HLA := Lib.hid hla
  have h1 : decide ((i : Int) < 0) = false := decide_eq_false (by omega)
  have h2 : decide ((s.size : Int) < (i : Int)) = false := decide_eq_false (by omega)
  have h2n : decide (s.size < i) = false := decide_eq_false (by omega)
  clear hhi hco hla hs hq htl
  go_enter Tryd.func15, Tryd.ntmps15
  go_wp2_with (first | (refine wpList_dst 17 rfl ?_; refine wpList_run 17 rfl rfl _ (exec_slice_hi 9 (.tmp 15) (.tmp 16) rfl (.string s) (.int .i64 i) (.string q) rfl rfl (HHI.out _)) ?_; go_frame) | (refine (HCO.out _).mono ?_; rintro e w1 ⟨rfl, rfl⟩) | (refine (HLA.out _).mono ?_; rintro e w1 ⟨rfl, rfl⟩))
  go_ret2
  exact ⟨ret_two (by omega) (by omega), rfl⟩
end Go.Proofs.YtggjgikpiljoiaaDoor
