/- Days, months and years, and the calendar blocks of all levels, as plain numbers; no program is named here. -/
namespace Go.Proofs.YtmifpaafpmibmaaDoor.Cm

/-- Leap years; the days of a month of a year (month 0 is January). -/
def lp (y : Nat) : Bool := y % 4 == 0 && y % 100 != 0 || y % 400 == 0
def ml (y m : Nat) : Nat := if m = 1 then (if lp y then 29 else 28) else if m = 3 ∨ m = 5 ∨ m = 8 ∨ m = 10 then 30 else 31
/-- The days of month number k from January 2000 on, and its first day. -/
def mlen (k : Nat) : Nat := ml (2000 + k / 12) (k % 12)
def ms : Nat → Nat
  | 0 => 0
  | k + 1 => ms k + mlen k
theorem ms_succ (k : Nat) : ms (k + 1) = ms k + mlen k := rfl
theorem ml_bd (y m : Nat) : 28 ≤ ml y m ∧ ml y m ≤ 31 := by
  unfold ml; split
  · split <;> omega
  · split <;> omega
theorem mlen_bd (k : Nat) : 28 ≤ mlen k ∧ mlen k ≤ 31 := ml_bd _ _
theorem ms_lt {j k : Nat} (h : j < k) : ms j < ms k := by
  induction k with
  | zero => omega
  | succ k ih =>
    have := mlen_bd k
    rw [ms_succ]
    rcases Nat.lt_or_ge j k with h1 | h1
    · have := ih h1; omega
    · obtain rfl : j = k := by omega
      omega
theorem ms_le {j k : Nat} (h : j ≤ k) : ms j ≤ ms k := by
  rcases Nat.lt_or_ge j k with h1 | h1
  · exact Nat.le_of_lt (ms_lt h1)
  · obtain rfl : j = k := by omega
    exact Nat.le_refl _
theorem ms_end : ms 480 = 14610 := by decide +kernel
/-- The first day of a year by the formula. -/
def fd (j : Nat) : Nat := 365 * j + (1999 + j) / 4 + (1999 + j) / 400 - (1999 + j) / 100 - 484
theorem fd_all : ∀ j : Fin 41, fd j.1 = ms (12 * j.1) := by decide +kernel
theorem fd_ms {j : Nat} (h : j ≤ 40) : fd j = ms (12 * j) := fd_all ⟨j, by omega⟩

/-- The month of a day: the last of the first n months that begins not behind it. -/
def moF : Nat → Nat → Nat
  | 0, _ => 0
  | k + 1, d => if ms k ≤ d then k else moF k d
theorem moF_le : ∀ (n d : Nat), ms (moF n d) ≤ d
  | 0, d => Nat.zero_le _
  | k + 1, d => by
    unfold moF
    split
    · assumption
    · exact moF_le k d
theorem moF_lt : ∀ (n d : Nat), 0 < n → moF n d < n
  | 0, _, h => by omega
  | k + 1, d, _ => by
    unfold moF
    split
    · omega
    · rcases Nat.eq_zero_or_pos k with h | h
      · subst h; unfold moF; omega
      · have := moF_lt k d h; omega
theorem moF_max : ∀ (n d k : Nat), k < n → ms k ≤ d → k ≤ moF n d
  | 0, _, _, h, _ => by omega
  | n + 1, d, k, h, hk => by
    unfold moF
    split
    · omega
    · rename_i h1
      have h2 : k ≠ n := fun e => h1 (e ▸ hk)
      exact moF_max n d k (by omega) hk
def mo (d : Nat) : Nat := moF 480 d
theorem mo_le (d : Nat) : ms (mo d) ≤ d := moF_le _ _
theorem mo_lt (d : Nat) : mo d < 480 := moF_lt _ _ (by decide)
theorem mo_next {d : Nat} (h : d < 14610) : d < ms (mo d + 1) := by
  rcases Nat.lt_or_ge d (ms (mo d + 1)) with h1 | h1
  · exact h1
  · have h2 := mo_lt d
    rcases Nat.lt_or_ge (mo d + 1) 480 with h3 | h3
    · have := moF_max 480 d (mo d + 1) h3 h1
      unfold mo at this; omega
    · have : mo d + 1 = 480 := by omega
      rw [this, ms_end] at h1; omega
theorem mo_of {d k : Nat} (hd : d < 14610) (h1 : ms k ≤ d) (h2 : d < ms (k + 1)) : mo d = k := by
  have a := mo_le d
  have b := mo_next hd
  rcases Nat.lt_trichotomy (mo d) k with h | h | h
  · have := ms_le (show mo d + 1 ≤ k by omega); omega
  · exact h
  · have := ms_le (show k + 1 ≤ mo d by omega); omega

/-- All ticks; where blocks of a level begin or end. -/
def M : Nat := 1402560
def Bd (L t : Nat) : Prop := t ≤ M ∧ match L with
  | 0 => True
  | 1 => t % 4 = 0
  | 2 => t % 96 = 0
  | 3 => ∃ k, k ≤ 480 ∧ t = 96 * ms k
  | _ => ∃ j, j ≤ 40 ∧ t = 96 * ms (12 * j)
/-- The beginning and the end of the block of a level that contains a tick. -/
def fl (L t : Nat) : Nat := match L with
  | 0 => t
  | 1 => t - t % 4
  | 2 => t - t % 96
  | 3 => 96 * ms (mo (t / 96))
  | _ => 96 * ms (12 * (mo (t / 96) / 12))
def nx (L t : Nat) : Nat := match L with
  | 0 => t + 1
  | 1 => t - t % 4 + 4
  | 2 => t - t % 96 + 96
  | 3 => 96 * ms (mo (t / 96) + 1)
  | _ => 96 * ms (12 * (mo (t / 96) / 12 + 1))

theorem bd_zero (L : Nat) : Bd L 0 := by
  refine ⟨Nat.zero_le _, ?_⟩
  match L with
  | 0 => trivial
  | 1 => rfl
  | 2 => rfl
  | 3 => exact ⟨0, by omega, rfl⟩
  | _ + 4 => exact ⟨0, by omega, rfl⟩
theorem M_ms : M = 96 * ms 480 := (show M = 96 * 14610 from by decide).trans (by rw [ms_end])
theorem M_yr : M = 96 * ms (12 * 40) := by
  rw [show 12 * 40 = 480 from rfl]
  exact M_ms
theorem bd_end (L : Nat) : Bd L M := by
  refine ⟨Nat.le_refl _, ?_⟩
  match L with
  | 0 => trivial
  | 1 => rfl
  | 2 => rfl
  | 3 => exact ⟨480, Nat.le_refl _, M_ms⟩
  | _ + 4 => exact ⟨40, Nat.le_refl _, M_yr⟩
theorem bd_down {L t : Nat} (h : Bd (L + 1) t) : Bd L t := by
  obtain ⟨h0, h⟩ := h
  refine ⟨h0, ?_⟩
  match L, h with
  | 0, _ => trivial
  | 1, h => have h : t % 96 = 0 := h; show t % 4 = 0; omega
  | 2, h => obtain ⟨k, _, h⟩ := h; show t % 96 = 0; omega
  | 3, h => obtain ⟨j, hj, h⟩ := h; exact ⟨12 * j, by omega, h⟩
  | _ + 4, h => exact h
theorem bd_mono {K L t : Nat} (h : Bd L t) (hk : K ≤ L) : Bd K t := by
  induction L with
  | zero => obtain rfl : K = 0 := by omega
            exact h
  | succ L ih =>
    rcases Nat.lt_or_ge K (L + 1) with h1 | h1
    · exact ih (bd_down h) (by omega)
    · obtain rfl : K = L + 1 := by omega
      exact h

/-- What a block is: it contains its tick, begins and ends where blocks of its level do, and none does inside. -/
theorem blk_in {L t : Nat} (h : t < M) : fl L t ≤ t ∧ t < nx L t ∧ nx L t ≤ M := by
  have hM : M = 1402560 := rfl
  have hd : t / 96 < 14610 := by omega
  match L with
  | 0 => exact ⟨Nat.le_refl _, Nat.lt_succ_self _, h⟩
  | 1 => show t - t % 4 ≤ t ∧ t < t - t % 4 + 4 ∧ t - t % 4 + 4 ≤ M; omega
  | 2 => show t - t % 96 ≤ t ∧ t < t - t % 96 + 96 ∧ t - t % 96 + 96 ≤ M; omega
  | 3 =>
    show 96 * ms (mo (t / 96)) ≤ t ∧ t < 96 * ms (mo (t / 96) + 1) ∧ 96 * ms (mo (t / 96) + 1) ≤ M
    have a := mo_le (t / 96)
    have b := mo_next hd
    have c := ms_le (show mo (t / 96) + 1 ≤ 480 by have := mo_lt (t / 96); omega)
    rw [ms_end] at c
    omega
  | _ + 4 =>
    show 96 * ms (12 * (mo (t / 96) / 12)) ≤ t ∧ t < 96 * ms (12 * (mo (t / 96) / 12 + 1)) ∧ 96 * ms (12 * (mo (t / 96) / 12 + 1)) ≤ M
    have a := mo_le (t / 96)
    have b := mo_next hd
    have e := mo_lt (t / 96)
    have a' := ms_le (show 12 * (mo (t / 96) / 12) ≤ mo (t / 96) by omega)
    have b' := ms_le (show mo (t / 96) + 1 ≤ 12 * (mo (t / 96) / 12 + 1) by omega)
    have c := ms_le (show 12 * (mo (t / 96) / 12 + 1) ≤ 480 by omega)
    rw [ms_end] at c
    omega
theorem fl_bd {L t : Nat} (h : t < M) : Bd L (fl L t) := by
  have hM : M = 1402560 := rfl
  refine ⟨by have := (blk_in (L := L) h).1; omega, ?_⟩
  match L with
  | 0 => trivial
  | 1 => show (t - t % 4) % 4 = 0; omega
  | 2 => show (t - t % 96) % 96 = 0; omega
  | 3 => exact ⟨mo (t / 96), by have := mo_lt (t / 96); omega, rfl⟩
  | _ + 4 => exact ⟨mo (t / 96) / 12, by have := mo_lt (t / 96); omega, rfl⟩
theorem nx_bd {L t : Nat} (h : t < M) : Bd L (nx L t) := by
  refine ⟨(blk_in (L := L) h).2.2, ?_⟩
  match L with
  | 0 => trivial
  | 1 => show (t - t % 4 + 4) % 4 = 0; omega
  | 2 => show (t - t % 96 + 96) % 96 = 0; omega
  | 3 => exact ⟨mo (t / 96) + 1, by have := mo_lt (t / 96); omega, rfl⟩
  | _ + 4 => exact ⟨mo (t / 96) / 12 + 1, by have := mo_lt (t / 96); omega, rfl⟩
theorem bd_out {L t s : Nat} (_h : t < M) (hs : Bd L s) : s ≤ fl L t ∨ nx L t ≤ s := by
  obtain ⟨h0, hs⟩ := hs
  match L, hs with
  | 0, _ => show s ≤ t ∨ t + 1 ≤ s; omega
  | 1, hs => have hs : s % 4 = 0 := hs; show s ≤ t - t % 4 ∨ t - t % 4 + 4 ≤ s; omega
  | 2, hs => have hs : s % 96 = 0 := hs; show s ≤ t - t % 96 ∨ t - t % 96 + 96 ≤ s; omega
  | 3, hs =>
    obtain ⟨k, _, rfl⟩ := hs
    show 96 * ms k ≤ 96 * ms (mo (t / 96)) ∨ 96 * ms (mo (t / 96) + 1) ≤ 96 * ms k
    rcases Nat.lt_or_ge (mo (t / 96)) k with h1 | h1
    · right; have := ms_le (show mo (t / 96) + 1 ≤ k by omega); omega
    · left; have := ms_le h1; omega
  | _ + 4, hs =>
    obtain ⟨j, _, rfl⟩ := hs
    show 96 * ms (12 * j) ≤ 96 * ms (12 * (mo (t / 96) / 12)) ∨ 96 * ms (12 * (mo (t / 96) / 12 + 1)) ≤ 96 * ms (12 * j)
    rcases Nat.lt_or_ge (mo (t / 96) / 12) j with h1 | h1
    · right; have := ms_le (show 12 * (mo (t / 96) / 12 + 1) ≤ 12 * j by omega); omega
    · left; have := ms_le (show 12 * j ≤ 12 * (mo (t / 96) / 12) by omega); omega

/-- A tick of a block has this block. -/
theorem blk_same {L t s : Nat} (ht : t < M) (h1 : fl L t ≤ s) (h2 : s < nx L t) : fl L s = fl L t ∧ nx L s = nx L t := by
  have a := blk_in (L := L) ht
  have hs : s < M := by omega
  have b := blk_in (L := L) hs
  have c := bd_out ht (fl_bd (L := L) hs)
  have d := bd_out ht (nx_bd (L := L) hs)
  have e := bd_out hs (fl_bd (L := L) ht)
  have f := bd_out hs (nx_bd (L := L) ht)
  omega
/-- A block lies in that of the next level. -/
theorem blk_up {K L t : Nat} (ht : t < M) (h : K ≤ L) : fl L t ≤ fl K t ∧ nx K t ≤ nx L t := by
  have a := blk_in (L := L) ht
  have b := blk_in (L := K) ht
  have c := bd_out ht (bd_mono (fl_bd (L := L) ht) h)
  have d := bd_out ht (bd_mono (nx_bd (L := L) ht) h)
  omega
theorem fl_of {L t : Nat} (ht : t < M) (h : Bd L t) : fl L t = t := by
  have a := blk_in (L := L) ht
  have b := bd_out ht h
  omega
end Go.Proofs.YtmifpaafpmibmaaDoor.Cm
