/- Characters of texts. -/
import Derived.Test.YtggjgikpiljoiaaDoorL2
namespace Go.Proofs.YtggjgikpiljoiaaDoor
open Go.RowKit Hm Wm Lx

theorem isB_dg (c : UInt8) : isB c.toNat 1 = dg c := by
  simp only [isB, dg, if_true]
  rw [decide_eq_decide]; omega
theorem isB_wd (c : UInt8) : isB c.toNat 2 = wd c := by
  simp only [isB, wd, dg, lt]
  rw [if_neg (by decide), if_pos trivial, ← Bool.decide_or, decide_eq_decide]; omega
theorem isB_pl (c : UInt8) : isB c.toNat 4 = pl c := by
  simp only [isB, pl]
  rw [if_neg (by decide), if_neg (by decide), decide_eq_decide]; omega
theorem is_dg (c : UInt8) (b : Bool) (h : dg c = b) (w : World) : Calls Tryd.prog 46 #[.int .u8 c.toNat, .int .i64 1] w fun e w' => e = .returned (.bool b) ∧ w = w' := by
  rw [← h, ← isB_dg]; exact is_any _ _ w (by omega) (by have := c.toNat_lt; omega) (.inl rfl)
theorem is_wd (c : UInt8) (b : Bool) (h : wd c = b) (w : World) : Calls Tryd.prog 46 #[.int .u8 c.toNat, .int .i64 2] w fun e w' => e = .returned (.bool b) ∧ w = w' := by
  rw [← h, ← isB_wd]; exact is_any _ _ w (by omega) (by have := c.toNat_lt; omega) (.inr (.inl rfl))
theorem is_pl (c : UInt8) (b : Bool) (h : pl c = b) (w : World) : Calls Tryd.prog 46 #[.int .u8 c.toNat, .int .i64 4] w fun e w' => e = .returned (.bool b) ∧ w = w' := by
  rw [← h, ← isB_pl]; exact is_any _ _ w (by omega) (by have := c.toNat_lt; omega) (.inr (.inr rfl))
set_option maxRecDepth 100000 in
set_option maxHeartbeats 800000 in
theorem chr_pl (c : UInt8) (r : List UInt8) (w : World) (hp : pl c = true) : Calls Tryd.prog 49 #[.string (sb (c :: r))] w fun e w' => e = .returned (.tuple #[.int .u8 c.toNat, .int .i64 1]) ∧ w = w' := by
  have HP := Lib.hid hp
  obtain ⟨s, hS⟩ : ∃ s, s = sb (c :: r) := ⟨_, rfl⟩
  rw [← hS]
  have h0 : ∀ W, (Instr.index 9 (.string s) (.int .i64 0)).run Tryd.prog W = .ok (.int .u8 c.toNat) W := fun W => by rw [hS]; exact sb_at (sb (c :: r)) (k := 0) (by simp [sb]) W
  have H0 := Lib.hid h0
  clear hp h0 hS
  go_enter Tryd.func49, Tryd.ntmps49
  go_wp2_with (first | (refine wpList_dst 5 rfl ?_; refine wpList_run 5 rfl rfl _ (exec_index 9 (.tmp 4) (.const (.int .i64 0)) rfl _ _ (.int .u8 c.toNat) rfl rfl (H0.out _)) ?_; go_frame) | (refine wpList_dst 8 rfl ?_; refine wpList_run 8 rfl rfl _ (exec_index 9 (.tmp 7) (.const (.int .i64 0)) rfl _ _ (.int .u8 c.toNat) rfl rfl (H0.out _)) ?_; go_frame) | (refine wpList_dst 10 rfl ?_; refine wpList_run 10 rfl rfl _ (exec_index 9 (.tmp 9) (.const (.int .i64 0)) rfl _ _ (.int .u8 c.toNat) rfl rfl (H0.out _)) ?_; go_frame) | (refine (is_pl c true HP.out _).mono ?_; rintro e w1 ⟨rfl, rfl⟩))
  go_ret2
  exact ⟨rfl, rfl⟩
set_option maxRecDepth 100000 in
set_option maxHeartbeats 800000 in
theorem chr_other (c : UInt8) (r : List UInt8) (w : World) (hp : pl c = false) (h9 : c.toNat ≠ 92) : Calls Tryd.prog 49 #[.string (sb (c :: r))] w fun e w' => e = .returned (.tuple #[.int .u8 0, .int .i64 0]) ∧ w = w' := by
  have HP := Lib.hid hp
  obtain ⟨s, hS⟩ : ∃ s, s = sb (c :: r) := ⟨_, rfl⟩
  rw [← hS]
  have h0 : ∀ W, (Instr.index 9 (.string s) (.int .i64 0)).run Tryd.prog W = .ok (.int .u8 c.toNat) W := fun W => by rw [hS]; exact sb_at (sb (c :: r)) (k := 0) (by simp [sb]) W
  have H0 := Lib.hid h0
  have n1 : ((c.toNat : Int) != 92) = true := by rw [bne_iff_ne]; omega
  clear h9
  clear hp h0 hS
  go_enter Tryd.func49, Tryd.ntmps49
  go_wp2_with (first | (refine wpList_dst 5 rfl ?_; refine wpList_run 5 rfl rfl _ (exec_index 9 (.tmp 4) (.const (.int .i64 0)) rfl _ _ (.int .u8 c.toNat) rfl rfl (H0.out _)) ?_; go_frame) | (refine wpList_dst 8 rfl ?_; refine wpList_run 8 rfl rfl _ (exec_index 9 (.tmp 7) (.const (.int .i64 0)) rfl _ _ (.int .u8 c.toNat) rfl rfl (H0.out _)) ?_; go_frame) | (refine wpList_dst 10 rfl ?_; refine wpList_run 10 rfl rfl _ (exec_index 9 (.tmp 9) (.const (.int .i64 0)) rfl _ _ (.int .u8 c.toNat) rfl rfl (H0.out _)) ?_; go_frame) | (refine (is_pl c false HP.out _).mono ?_; rintro e w1 ⟨rfl, rfl⟩))
  go_ret2
  exact ⟨rfl, rfl⟩
set_option maxRecDepth 100000 in
set_option maxHeartbeats 800000 in
theorem chr_end1 (c : UInt8) (w : World) (hp : pl c = false) (h9 : c.toNat = 92) : Calls Tryd.prog 49 #[.string (sb ([c]))] w fun e w' => e = .returned (.tuple #[.int .u8 0, .int .i64 0]) ∧ w = w' := by
  have HP := Lib.hid hp
  obtain ⟨s, hS⟩ : ∃ s, s = sb ([c]) := ⟨_, rfl⟩
  rw [← hS]
  have h0 : ∀ W, (Instr.index 9 (.string s) (.int .i64 0)).run Tryd.prog W = .ok (.int .u8 c.toNat) W := fun W => by rw [hS]; exact sb_at (sb ([c])) (k := 0) (by simp [sb]) W
  have H0 := Lib.hid h0
  have n1 : ((c.toNat : Int) != 92) = false := by rw [h9]; rfl
  clear h9
  have hl : ((s.size : Int) == 1) = true := by rw [hS, sb_size]; rfl
  clear hp h0 hS
  go_enter Tryd.func49, Tryd.ntmps49
  go_wp2_with (first | (refine wpList_dst 5 rfl ?_; refine wpList_run 5 rfl rfl _ (exec_index 9 (.tmp 4) (.const (.int .i64 0)) rfl _ _ (.int .u8 c.toNat) rfl rfl (H0.out _)) ?_; go_frame) | (refine wpList_dst 8 rfl ?_; refine wpList_run 8 rfl rfl _ (exec_index 9 (.tmp 7) (.const (.int .i64 0)) rfl _ _ (.int .u8 c.toNat) rfl rfl (H0.out _)) ?_; go_frame) | (refine wpList_dst 10 rfl ?_; refine wpList_run 10 rfl rfl _ (exec_index 9 (.tmp 9) (.const (.int .i64 0)) rfl _ _ (.int .u8 c.toNat) rfl rfl (H0.out _)) ?_; go_frame) | (refine (is_pl c false HP.out _).mono ?_; rintro e w1 ⟨rfl, rfl⟩))
  go_ret2
  exact ⟨rfl, rfl⟩
set_option maxRecDepth 100000 in
set_option maxHeartbeats 800000 in
theorem chr_34 (c d : UInt8) (r : List UInt8) (w : World) (hp : pl c = false) (h9 : c.toNat = 92) (hd : d.toNat = 34) : Calls Tryd.prog 49 #[.string (sb (c :: d :: r))] w fun e w' => e = .returned (.tuple #[.int .u8 d.toNat, .int .i64 2]) ∧ w = w' := by
  have HP := Lib.hid hp
  obtain ⟨s, hS⟩ : ∃ s, s = sb (c :: d :: r) := ⟨_, rfl⟩
  rw [← hS]
  have h0 : ∀ W, (Instr.index 9 (.string s) (.int .i64 0)).run Tryd.prog W = .ok (.int .u8 c.toNat) W := fun W => by rw [hS]; exact sb_at (sb (c :: d :: r)) (k := 0) (by simp [sb]) W
  have H0 := Lib.hid h0
  have h1 : ∀ W, (Instr.index 9 (.string s) (.int .i64 1)).run Tryd.prog W = .ok (.int .u8 d.toNat) W := fun W => by rw [hS]; exact sb_at (sb (c :: d :: r)) (k := 1) (by simp [sb]) W
  have H1 := Lib.hid h1
  clear h1
  have n1 : ((c.toNat : Int) != 92) = false := by rw [h9]; rfl
  clear h9
  have hz : s.size = r.length + 1 + 1 := by rw [hS, sb_size]; rfl
  have hl : ((s.size : Int) == 1) = false := by rw [hz]; simp; omega
  clear hz
  have m34 : ((d.toNat : Int) == 34) = true := by rw [hd]; rfl
  clear hd
  clear hp h0 hS
  go_enter Tryd.func49, Tryd.ntmps49
  go_wp2_with (first | (refine wpList_dst 5 rfl ?_; refine wpList_run 5 rfl rfl _ (exec_index 9 (.tmp 4) (.const (.int .i64 0)) rfl _ _ (.int .u8 c.toNat) rfl rfl (H0.out _)) ?_; go_frame) | (refine wpList_dst 8 rfl ?_; refine wpList_run 8 rfl rfl _ (exec_index 9 (.tmp 7) (.const (.int .i64 0)) rfl _ _ (.int .u8 c.toNat) rfl rfl (H0.out _)) ?_; go_frame) | (refine wpList_dst 10 rfl ?_; refine wpList_run 10 rfl rfl _ (exec_index 9 (.tmp 9) (.const (.int .i64 0)) rfl _ _ (.int .u8 c.toNat) rfl rfl (H0.out _)) ?_; go_frame) | (refine wpList_dst 18 rfl ?_; refine wpList_run 18 rfl rfl _ (exec_index 9 (.tmp 17) (.const (.int .i64 1)) rfl _ _ (.int .u8 d.toNat) rfl rfl (H1.out _)) ?_; go_frame) | (refine wpList_dst 23 rfl ?_; refine wpList_run 23 rfl rfl _ (exec_index 9 (.tmp 22) (.const (.int .i64 1)) rfl _ _ (.int .u8 d.toNat) rfl rfl (H1.out _)) ?_; go_frame) | (refine (is_pl c false HP.out _).mono ?_; rintro e w1 ⟨rfl, rfl⟩))
  go_ret2
  exact ⟨rfl, rfl⟩
set_option maxRecDepth 100000 in
set_option maxHeartbeats 800000 in
theorem chr_92 (c d : UInt8) (r : List UInt8) (w : World) (hp : pl c = false) (h9 : c.toNat = 92) (hd : d.toNat = 92) : Calls Tryd.prog 49 #[.string (sb (c :: d :: r))] w fun e w' => e = .returned (.tuple #[.int .u8 d.toNat, .int .i64 2]) ∧ w = w' := by
  have HP := Lib.hid hp
  obtain ⟨s, hS⟩ : ∃ s, s = sb (c :: d :: r) := ⟨_, rfl⟩
  rw [← hS]
  have h0 : ∀ W, (Instr.index 9 (.string s) (.int .i64 0)).run Tryd.prog W = .ok (.int .u8 c.toNat) W := fun W => by rw [hS]; exact sb_at (sb (c :: d :: r)) (k := 0) (by simp [sb]) W
  have H0 := Lib.hid h0
  have h1 : ∀ W, (Instr.index 9 (.string s) (.int .i64 1)).run Tryd.prog W = .ok (.int .u8 d.toNat) W := fun W => by rw [hS]; exact sb_at (sb (c :: d :: r)) (k := 1) (by simp [sb]) W
  have H1 := Lib.hid h1
  clear h1
  have n1 : ((c.toNat : Int) != 92) = false := by rw [h9]; rfl
  clear h9
  have hz : s.size = r.length + 1 + 1 := by rw [hS, sb_size]; rfl
  have hl : ((s.size : Int) == 1) = false := by rw [hz]; simp; omega
  clear hz
  have m34 : ((d.toNat : Int) == 34) = false := by rw [beq_eq_false_iff_ne]; omega
  have m92 : ((d.toNat : Int) == 92) = true := by rw [hd]; rfl
  clear hd
  clear hp h0 hS
  go_enter Tryd.func49, Tryd.ntmps49
  go_wp2_with (first | (refine wpList_dst 5 rfl ?_; refine wpList_run 5 rfl rfl _ (exec_index 9 (.tmp 4) (.const (.int .i64 0)) rfl _ _ (.int .u8 c.toNat) rfl rfl (H0.out _)) ?_; go_frame) | (refine wpList_dst 8 rfl ?_; refine wpList_run 8 rfl rfl _ (exec_index 9 (.tmp 7) (.const (.int .i64 0)) rfl _ _ (.int .u8 c.toNat) rfl rfl (H0.out _)) ?_; go_frame) | (refine wpList_dst 10 rfl ?_; refine wpList_run 10 rfl rfl _ (exec_index 9 (.tmp 9) (.const (.int .i64 0)) rfl _ _ (.int .u8 c.toNat) rfl rfl (H0.out _)) ?_; go_frame) | (refine wpList_dst 18 rfl ?_; refine wpList_run 18 rfl rfl _ (exec_index 9 (.tmp 17) (.const (.int .i64 1)) rfl _ _ (.int .u8 d.toNat) rfl rfl (H1.out _)) ?_; go_frame) | (refine wpList_dst 23 rfl ?_; refine wpList_run 23 rfl rfl _ (exec_index 9 (.tmp 22) (.const (.int .i64 1)) rfl _ _ (.int .u8 d.toNat) rfl rfl (H1.out _)) ?_; go_frame) | (refine (is_pl c false HP.out _).mono ?_; rintro e w1 ⟨rfl, rfl⟩))
  go_ret2
  exact ⟨rfl, rfl⟩
set_option maxRecDepth 100000 in
set_option maxHeartbeats 800000 in
theorem chr_110 (c d : UInt8) (r : List UInt8) (w : World) (hp : pl c = false) (h9 : c.toNat = 92) (hd : d.toNat = 110) : Calls Tryd.prog 49 #[.string (sb (c :: d :: r))] w fun e w' => e = .returned (.tuple #[.int .u8 10, .int .i64 2]) ∧ w = w' := by
  have HP := Lib.hid hp
  obtain ⟨s, hS⟩ : ∃ s, s = sb (c :: d :: r) := ⟨_, rfl⟩
  rw [← hS]
  have h0 : ∀ W, (Instr.index 9 (.string s) (.int .i64 0)).run Tryd.prog W = .ok (.int .u8 c.toNat) W := fun W => by rw [hS]; exact sb_at (sb (c :: d :: r)) (k := 0) (by simp [sb]) W
  have H0 := Lib.hid h0
  have h1 : ∀ W, (Instr.index 9 (.string s) (.int .i64 1)).run Tryd.prog W = .ok (.int .u8 d.toNat) W := fun W => by rw [hS]; exact sb_at (sb (c :: d :: r)) (k := 1) (by simp [sb]) W
  have H1 := Lib.hid h1
  clear h1
  have n1 : ((c.toNat : Int) != 92) = false := by rw [h9]; rfl
  clear h9
  have hz : s.size = r.length + 1 + 1 := by rw [hS, sb_size]; rfl
  have hl : ((s.size : Int) == 1) = false := by rw [hz]; simp; omega
  clear hz
  have m34 : ((d.toNat : Int) == 34) = false := by rw [beq_eq_false_iff_ne]; omega
  have m92 : ((d.toNat : Int) == 92) = false := by rw [beq_eq_false_iff_ne]; omega
  have m110 : ((d.toNat : Int) == 110) = true := by rw [hd]; rfl
  clear hd
  clear hp h0 hS
  go_enter Tryd.func49, Tryd.ntmps49
  go_wp2_with (first | (refine wpList_dst 5 rfl ?_; refine wpList_run 5 rfl rfl _ (exec_index 9 (.tmp 4) (.const (.int .i64 0)) rfl _ _ (.int .u8 c.toNat) rfl rfl (H0.out _)) ?_; go_frame) | (refine wpList_dst 8 rfl ?_; refine wpList_run 8 rfl rfl _ (exec_index 9 (.tmp 7) (.const (.int .i64 0)) rfl _ _ (.int .u8 c.toNat) rfl rfl (H0.out _)) ?_; go_frame) | (refine wpList_dst 10 rfl ?_; refine wpList_run 10 rfl rfl _ (exec_index 9 (.tmp 9) (.const (.int .i64 0)) rfl _ _ (.int .u8 c.toNat) rfl rfl (H0.out _)) ?_; go_frame) | (refine wpList_dst 18 rfl ?_; refine wpList_run 18 rfl rfl _ (exec_index 9 (.tmp 17) (.const (.int .i64 1)) rfl _ _ (.int .u8 d.toNat) rfl rfl (H1.out _)) ?_; go_frame) | (refine wpList_dst 23 rfl ?_; refine wpList_run 23 rfl rfl _ (exec_index 9 (.tmp 22) (.const (.int .i64 1)) rfl _ _ (.int .u8 d.toNat) rfl rfl (H1.out _)) ?_; go_frame) | (refine (is_pl c false HP.out _).mono ?_; rintro e w1 ⟨rfl, rfl⟩))
  go_ret2
  exact ⟨rfl, rfl⟩
set_option maxRecDepth 100000 in
set_option maxHeartbeats 800000 in
theorem chr_no (c d : UInt8) (r : List UInt8) (w : World) (hp : pl c = false) (h9 : c.toNat = 92) (hd : d.toNat ≠ 34 ∧ d.toNat ≠ 92 ∧ d.toNat ≠ 110) : Calls Tryd.prog 49 #[.string (sb (c :: d :: r))] w fun e w' => e = .returned (.tuple #[.int .u8 0, .int .i64 0]) ∧ w = w' := by
  have HP := Lib.hid hp
  obtain ⟨s, hS⟩ : ∃ s, s = sb (c :: d :: r) := ⟨_, rfl⟩
  rw [← hS]
  have h0 : ∀ W, (Instr.index 9 (.string s) (.int .i64 0)).run Tryd.prog W = .ok (.int .u8 c.toNat) W := fun W => by rw [hS]; exact sb_at (sb (c :: d :: r)) (k := 0) (by simp [sb]) W
  have H0 := Lib.hid h0
  have h1 : ∀ W, (Instr.index 9 (.string s) (.int .i64 1)).run Tryd.prog W = .ok (.int .u8 d.toNat) W := fun W => by rw [hS]; exact sb_at (sb (c :: d :: r)) (k := 1) (by simp [sb]) W
  have H1 := Lib.hid h1
  clear h1
  have n1 : ((c.toNat : Int) != 92) = false := by rw [h9]; rfl
  clear h9
  have hz : s.size = r.length + 1 + 1 := by rw [hS, sb_size]; rfl
  have hl : ((s.size : Int) == 1) = false := by rw [hz]; simp; omega
  clear hz
  have m34 : ((d.toNat : Int) == 34) = false := by rw [beq_eq_false_iff_ne]; omega
  have m92 : ((d.toNat : Int) == 92) = false := by rw [beq_eq_false_iff_ne]; omega
  have m110 : ((d.toNat : Int) == 110) = false := by rw [beq_eq_false_iff_ne]; omega
  clear hd
  clear hp h0 hS
  go_enter Tryd.func49, Tryd.ntmps49
  go_wp2_with (first | (refine wpList_dst 5 rfl ?_; refine wpList_run 5 rfl rfl _ (exec_index 9 (.tmp 4) (.const (.int .i64 0)) rfl _ _ (.int .u8 c.toNat) rfl rfl (H0.out _)) ?_; go_frame) | (refine wpList_dst 8 rfl ?_; refine wpList_run 8 rfl rfl _ (exec_index 9 (.tmp 7) (.const (.int .i64 0)) rfl _ _ (.int .u8 c.toNat) rfl rfl (H0.out _)) ?_; go_frame) | (refine wpList_dst 10 rfl ?_; refine wpList_run 10 rfl rfl _ (exec_index 9 (.tmp 9) (.const (.int .i64 0)) rfl _ _ (.int .u8 c.toNat) rfl rfl (H0.out _)) ?_; go_frame) | (refine wpList_dst 18 rfl ?_; refine wpList_run 18 rfl rfl _ (exec_index 9 (.tmp 17) (.const (.int .i64 1)) rfl _ _ (.int .u8 d.toNat) rfl rfl (H1.out _)) ?_; go_frame) | (refine wpList_dst 23 rfl ?_; refine wpList_run 23 rfl rfl _ (exec_index 9 (.tmp 22) (.const (.int .i64 1)) rfl _ _ (.int .u8 d.toNat) rfl rfl (H1.out _)) ?_; go_frame) | (refine (is_pl c false HP.out _).mono ?_; rintro e w1 ⟨rfl, rfl⟩))
  go_ret2
  exact ⟨rfl, rfl⟩
theorem chr_any (c : UInt8) (r : List UInt8) (w : World) : Calls Tryd.prog 49 #[.string (sb (c :: r))] w fun e w' => e = .returned (.tuple #[.int .u8 (chr (c :: r)).1.toNat, .int .i64 ((chr (c :: r)).2 : Nat)]) ∧ w = w' := by
  cases hp : pl c
  · by_cases h9 : c.toNat = 92
    · cases r with
      | nil =>
        have e : chr [c] = (0, 0) := by simp [chr, hp, h9]
        rw [e]; exact chr_end1 c w hp h9
      | cons d r =>
        by_cases h1 : d.toNat = 34
        · have e : chr (c :: d :: r) = (d, 2) := by simp [chr, hp, h9, h1]
          rw [e]; exact chr_34 c d r w hp h9 h1
        · by_cases h2 : d.toNat = 92
          · have e : chr (c :: d :: r) = (d, 2) := by simp [chr, hp, h9, h2]
            rw [e]; exact chr_92 c d r w hp h9 h2
          · by_cases h3 : d.toNat = 110
            · have e : chr (c :: d :: r) = (10, 2) := by simp [chr, hp, h9, h3]
              rw [e]; exact chr_110 c d r w hp h9 h3
            · have e : chr (c :: d :: r) = (0, 0) := by simp [chr, hp, h9, h1, h2, h3]
              rw [e]; exact chr_no c d r w hp h9 ⟨h1, h2, h3⟩
    · have e : chr (c :: r) = (0, 0) := by simp [chr, hp, h9]
      rw [e]; exact chr_other c r w hp h9
  · have e : chr (c :: r) = (c, 1) := by simp [chr, hp]
    rw [e]; exact chr_pl c r w hp
end Go.Proofs.YtggjgikpiljoiaaDoor
