/- The walk of CalendarNests, whole. -/
import Derived.Test.YtbboadoolgcmaaaDoorCR
namespace Go.Proofs.YtbboadoolgcmaaaDoor
open Go.RowKit Hm Wm Cm

theorem ok_blk (N T : Nat) (hN : N ≤ 4) (hT : T < M) : okB (N : Int) (fl N T : Nat) (nx N T : Nat) = true := by
  have hin := blk_in (L := N) hT
  have hs := blk_same (L := N) (s := fl N T) hT (Nat.le_refl _) (by omega)
  exact (okB_iff _ _ _).2 ⟨N, fl N T, hN, by omega, rfl, rfl, hs.1, by rw [hs.2]⟩
theorem find_up (N T : Nat) (W : World) (hL : Lens W) (hN : N + 1 ≤ 4) (hT : T < M) : Calls Tryd.prog 40 #[.int .i64 ((N : Int) + 1), .int .i64 (fl N T : Nat)] W fun e w' => e = .returned (bV ((N : Int) + 1) (fl (N + 1) T : Nat) (nx (N + 1) T : Nat)) ∧ Below W.heap.size W w' := by
  have hin := blk_in (L := N) hT
  have hup := blk_up (K := N) (L := N + 1) hT (by omega)
  have hin' := blk_in (L := N + 1) hT
  have hs := blk_same (L := N + 1) (s := fl N T) hT (by omega) (by omega)
  have h := find_any (N + 1) (fl N T) W hL hN (by omega)
  unfold fV at h
  rw [hs.1, hs.2] at h
  exact h
theorem walk_nest (l t : Int) (w : World) (hL : Lens w) (hl : 0 ≤ l ∧ l ≤ 255) (ht : 0 ≤ t ∧ t ≤ 4294967295) : Calls Tryd.prog 7 #[.int .u8 l, .int .u32 t] w fun e w' => e = .returned (.bool true) ∧ Below w.heap.size w w' := by
  have hM : M = 1402560 := rfl
  obtain ⟨N, hN⟩ : ∃ N : Nat, l % 5 = (N : Int) := ⟨(l % 5).toNat, by omega⟩
  obtain ⟨T, hT⟩ : ∃ T : Nat, t % 1402560 = (T : Int) := ⟨(t % 1402560).toNat, by omega⟩
  have hN4 : N ≤ 4 := by omega
  have hTM : T < M := by omega
  have hin := blk_in (L := N) hTM
  have hok := ok_blk N T hN4 hTM
  have h31 := fun W (h : Lens W) => block_yes N T W h hN4 hTM
  have h38 := fun W (h : Lens W) => valid_any (N : Int) (fl N T : Nat) (nx N T : Nat) W h
  rw [hok] at h38
  have hpar : ∀ s, fl N T ≤ s → s < nx N T → fl N s = fl N T ∧ nx N s = nx N T := fun s a b => blk_same hTM a b
  have hbF := fl_bd (L := N) hTM
  have hbX := nx_bd (L := N) hTM
  have hfF := fl_of (L := N) (t := fl N T) (by omega) hbF
  rcases Nat.eq_zero_or_pos N with rfl | hpos
  · by_cases hx : nx 0 T < M
    · have hup := blk_up (K := 0) (L := 0 + 1) hTM (by omega)
      have h91 := fun W (h : Lens W) => block_yes (0 + 1) T W h (by omega) hTM
      have h80 := fun W (h : Lens W) => parent_raw (0 : Nat) (fl 0 T : Nat) (nx 0 T : Nat) (fl (0 + 1) T : Nat) (nx (0 + 1) T : Nat) hok (by rw [beq_eq_false_iff_ne]; omega) (by omega) (fun X h' => find_up 0 T X h' (by omega) hTM) W h
      have h121 := fun W (h : Lens W) => child_low (0 : Nat) (fl 0 T : Nat) (nx 0 T : Nat) hok rfl W h
      have hXM : nx 0 T < M := by omega
      have h66 := fun W (h : Lens W) => block_yes 0 (nx 0 T) W h (by omega) hXM
      have hfx := fl_of hXM hbX
      unfold fV at h66
      rw [hfx] at h66
      exact nest_z_lt l t (T : Nat) (fl 0 T : Nat) (nx 0 T : Nat) (nx 0 (nx 0 T) : Nat) (fl (0 + 1) T : Nat) (nx (0 + 1) T : Nat) w hL hl ht hN hT ⟨by omega, by omega⟩ ⟨by omega, by omega⟩ ⟨by omega, by omega⟩ ⟨by omega, by omega⟩ h31 h38 h66 h80 h91 h121
    · have hup := blk_up (K := 0) (L := 0 + 1) hTM (by omega)
      have h91 := fun W (h : Lens W) => block_yes (0 + 1) T W h (by omega) hTM
      have h80 := fun W (h : Lens W) => parent_raw (0 : Nat) (fl 0 T : Nat) (nx 0 T : Nat) (fl (0 + 1) T : Nat) (nx (0 + 1) T : Nat) hok (by rw [beq_eq_false_iff_ne]; omega) (by omega) (fun X h' => find_up 0 T X h' (by omega) hTM) W h
      have h121 := fun W (h : Lens W) => child_low (0 : Nat) (fl 0 T : Nat) (nx 0 T : Nat) hok rfl W h
      have hxe : ((nx 0 T : Nat) : Int) = 1402560 := by omega
      unfold fV at h31
      rw [hxe] at h31 h38 h80 h121
      exact nest_z_eq l t (T : Nat) (fl 0 T : Nat) 1402560 (fl (0 + 1) T : Nat) (nx (0 + 1) T : Nat) w hL hl ht hN hT ⟨by omega, by omega⟩ ⟨by omega, by omega⟩ ⟨by omega, by omega⟩ ⟨by omega, by omega⟩ h31 h38 h80 h91 h121
  · rcases Nat.lt_or_ge N 4 with h4 | h4
    · by_cases hx : nx N T < M
      · have hup := blk_up (K := N) (L := N + 1) hTM (by omega)
        have h91 := fun W (h : Lens W) => block_yes (N + 1) T W h (by omega) hTM
        have h80 := fun W (h : Lens W) => parent_raw (N : Nat) (fl N T : Nat) (nx N T : Nat) (fl (N + 1) T : Nat) (nx (N + 1) T : Nat) hok (by rw [beq_eq_false_iff_ne]; omega) (by omega) (fun X h' => find_up N T X h' (by omega) hTM) W h
        have h121 := fun W (h : Lens W) => child_raw (N - 1) (fl N T) (nx N T) (N : Nat) (fl N T : Nat) (nx N T : Nat) hok (by rw [beq_eq_false_iff_ne]; omega) (by omega) rfl rfl (by omega) hin.2.2 W h
        have hXM : nx N T < M := by omega
        have h66 := fun W (h : Lens W) => block_yes N (nx N T) W h (by omega) hXM
        have hfx := fl_of hXM hbX
        unfold fV at h66
        rw [hfx] at h66
        obtain ⟨m, rfl⟩ : ∃ m, N = m + 1 := ⟨N - 1, by omega⟩
        exact nest_m_lt l t (T : Nat) (fl (m + 1) T : Nat) (nx (m + 1) T : Nat) ((m + 1 : Nat) : Int) (nx (m + 1) (nx (m + 1) T) : Nat) (fl (m + 1 + 1) T : Nat) (nx (m + 1 + 1) T : Nat) m (fl (m + 1) T) (nx (m + 1) T) w hL hl ht hN hT ⟨by omega, by omega⟩ ⟨by omega, by omega⟩ ⟨by omega, by omega⟩ ⟨by omega, by omega⟩ ⟨by omega, by omega⟩ (by omega) (by omega) rfl rfl hin.2.2 (by omega) (bd_down hbF) (bd_down hbX) hpar h31 h38 h66 h80 h91 h121
      · have hup := blk_up (K := N) (L := N + 1) hTM (by omega)
        have h91 := fun W (h : Lens W) => block_yes (N + 1) T W h (by omega) hTM
        have h80 := fun W (h : Lens W) => parent_raw (N : Nat) (fl N T : Nat) (nx N T : Nat) (fl (N + 1) T : Nat) (nx (N + 1) T : Nat) hok (by rw [beq_eq_false_iff_ne]; omega) (by omega) (fun X h' => find_up N T X h' (by omega) hTM) W h
        have h121 := fun W (h : Lens W) => child_raw (N - 1) (fl N T) (nx N T) (N : Nat) (fl N T : Nat) (nx N T : Nat) hok (by rw [beq_eq_false_iff_ne]; omega) (by omega) rfl rfl (by omega) hin.2.2 W h
        have hxe : ((nx N T : Nat) : Int) = 1402560 := by omega
        unfold fV at h31
        rw [hxe] at h31 h38 h80 h121
        obtain ⟨m, rfl⟩ : ∃ m, N = m + 1 := ⟨N - 1, by omega⟩
        exact nest_m_eq l t (T : Nat) (fl (m + 1) T : Nat) 1402560 ((m + 1 : Nat) : Int) (fl (m + 1 + 1) T : Nat) (nx (m + 1 + 1) T : Nat) m (fl (m + 1) T) (nx (m + 1) T) w hL hl ht hN hT ⟨by omega, by omega⟩ ⟨by omega, by omega⟩ ⟨by omega, by omega⟩ ⟨by omega, by omega⟩ ⟨by omega, by omega⟩ (by omega) (by omega) rfl (by omega) hin.2.2 (by omega) (bd_down hbF) (bd_down hbX) hpar h31 h38 h80 h91 h121
    · obtain rfl : N = 4 := by omega
      by_cases hx : nx 4 T < M
      · have h80 := fun W (h : Lens W) => parent_top (4 : Nat) (fl 4 T : Nat) (nx 4 T : Nat) hok rfl W h
        have h121 := fun W (h : Lens W) => child_raw 3 (fl 4 T) (nx 4 T) (4 : Nat) (fl 4 T : Nat) (nx 4 T : Nat) hok (by rw [beq_eq_false_iff_ne]; omega) (by omega) rfl rfl (by omega) hin.2.2 W h
        have hXM : nx 4 T < M := by omega
        have h66 := fun W (h : Lens W) => block_yes 4 (nx 4 T) W h (by omega) hXM
        have hfx := fl_of hXM hbX
        unfold fV at h66
        rw [hfx] at h66
        exact nest_t_lt l t (T : Nat) (fl 4 T : Nat) (nx 4 T : Nat) (nx 4 (nx 4 T) : Nat) 3 (fl 4 T) (nx 4 T) w hL hl ht hN hT ⟨by omega, by omega⟩ ⟨by omega, by omega⟩ ⟨by omega, by omega⟩ (by omega) (by omega) rfl rfl hin.2.2 (by omega) (bd_down hbF) (bd_down hbX) hpar h31 h38 h66 h80 h121
      · have h80 := fun W (h : Lens W) => parent_top (4 : Nat) (fl 4 T : Nat) (nx 4 T : Nat) hok rfl W h
        have h121 := fun W (h : Lens W) => child_raw 3 (fl 4 T) (nx 4 T) (4 : Nat) (fl 4 T : Nat) (nx 4 T : Nat) hok (by rw [beq_eq_false_iff_ne]; omega) (by omega) rfl rfl (by omega) hin.2.2 W h
        have hxe : ((nx 4 T : Nat) : Int) = 1402560 := by omega
        unfold fV at h31
        rw [hxe] at h31 h38 h80 h121
        exact nest_t_eq l t (T : Nat) (fl 4 T : Nat) 1402560 3 (fl 4 T) (nx 4 T) w hL hl ht hN hT ⟨by omega, by omega⟩ ⟨by omega, by omega⟩ ⟨by omega, by omega⟩ (by omega) (by omega) rfl (by omega) hin.2.2 (by omega) (bd_down hbF) (bd_down hbX) hpar h31 h38 h80 h121
end Go.Proofs.YtbboadoolgcmaaaDoor
