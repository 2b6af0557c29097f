/- Lists of calendar blocks: those of a level in an interval, and the cover of an interval. -/
import Derived.Test.YtmifpaafpmibmaaDoorCMath
namespace Go.Proofs.YtmifpaafpmibmaaDoor.Cm

/-- A block: its level, beginning and end. -/
abbrev Bk := Nat × Nat × Nat
/-- The blocks of a level from where one begins on that end not behind b. -/
def ws (n b : Nat) : Nat → Nat → List Bk
  | 0, _ => []
  | f + 1, s => if s < b ∧ nx n s ≤ b then (n, s, nx n s) :: ws n b f (nx n s) else []
/-- Where the first block of a level begins that begins not before a. -/
def fst' (n a : Nat) : Nat := if fl n a = a then a else nx n a
def wi (n a b : Nat) : List Bk := if a < b then ws n b (b - a) (fst' n a) else []
def covB (rec : Nat → Nat → List Bk) (b : Nat) : List Bk → Nat → List Bk
  | [], a => rec a b
  | x :: r, a => rec a x.2.1 ++ x :: covB rec b r x.2.2
/-- The cover, of blocks of the levels below n. -/
def cov : Nat → Nat → Nat → List Bk
  | 0, _, _ => []
  | n + 1, a, b => if a = b then [] else covB (cov n) b (wi n a b) a
/-- The greatest level, up to N, of a block that begins at a and ends not behind b. -/
def top : Nat → Nat → Nat → Nat
  | 0, _, _ => 0
  | N + 1, a, b => if fl (N + 1) a = a ∧ nx (N + 1) a ≤ b then N + 1 else top N a b
/-- Blocks follow one another from a to b, each the greatest one. -/
inductive Gr (N b : Nat) : Nat → List Bk → Prop
  | nil : Gr N b b []
  | cons {a : Nat} {l : List Bk} : a < b → Gr N b (nx (top N a b) a) l → Gr N b a ((top N a b, a, nx (top N a b) a) :: l)

theorem fl_zero (t : Nat) : fl 0 t = t := rfl
theorem nx_zero (t : Nat) : nx 0 t = t + 1 := rfl
theorem top_le : ∀ (N a b : Nat), top N a b ≤ N
  | 0, _, _ => Nat.le_refl _
  | N + 1, a, b => by
    unfold top
    split
    · exact Nat.le_refl _
    · have := top_le N a b; omega
theorem top_fits : ∀ (N a b : Nat), a < b → fl (top N a b) a = a ∧ nx (top N a b) a ≤ b
  | 0, a, b, h => ⟨rfl, h⟩
  | N + 1, a, b, h => by
    unfold top
    split
    · assumption
    · exact top_fits N a b h
theorem top_max : ∀ (N a b K : Nat), K ≤ N → fl K a = a → nx K a ≤ b → K ≤ top N a b
  | 0, a, b, K, h, _, _ => by unfold top; exact h
  | N + 1, a, b, K, h, h1, h2 => by
    unfold top
    split
    · exact h
    · rename_i hn
      rcases Nat.lt_or_ge K (N + 1) with h3 | h3
      · exact top_max N a b K (by omega) h1 h2
      · obtain rfl : K = N + 1 := by omega
        exact absurd ⟨h1, h2⟩ hn
theorem top_full {N a b : Nat} (h1 : fl N a = a) (h2 : nx N a ≤ b) : top N a b = N := by
  have := top_max N a b N (Nat.le_refl _) h1 h2
  have := top_le N a b
  omega
theorem top_less {N a b : Nat} (h : ¬ (fl (N + 1) a = a ∧ nx (N + 1) a ≤ b)) : top (N + 1) a b = top N a b := by
  rw [top, if_neg h]
/-- Up to where a block of level N begins, a block of no greater level goes. -/
theorem nx_le {K N c s : Nat} (hs : Bd N s) (hk : K ≤ N) (hc : c < s) : nx K c ≤ s := by
  have h0 := hs.1
  have ht : c < M := by omega
  have a := bd_out ht (bd_mono hs hk)
  have b := blk_in (L := K) ht
  omega
theorem top_cut {s b : Nat} (hb : s ≤ b) : ∀ (N c : Nat), Bd N s → c < s → top N c b = top N c s
  | 0, _, _, _ => rfl
  | N + 1, c, hs, hc => by
    have h1 := nx_le hs (Nat.le_refl _) hc
    have h2 := top_cut hb N c (bd_down hs) hc
    unfold top
    rw [h2]
    by_cases h3 : fl (N + 1) c = c
    · rw [if_pos ⟨h3, by omega⟩, if_pos ⟨h3, h1⟩]
    · rw [if_neg (fun h => h3 h.1), if_neg (fun h => h3 h.1)]

theorem Gr.one {N b a : Nat} {l : List Bk} (h1 : Gr N b a l) : ∀ {l' : List Bk}, Gr N b a l' → b ≤ M → l = l' := by
  induction h1 with
  | nil =>
    intro l' h _
    cases h with
    | nil => rfl
    | cons h _ => exact absurd h (Nat.lt_irrefl _)
  | cons hlt _ ih =>
    intro l' h hM
    cases h with
    | nil => exact absurd hlt (Nat.lt_irrefl _)
    | cons _ h => rw [ih h hM]
theorem Gr.lift {N N' b s a : Nat} {l l2 : List Bk} (h : Gr N s a l) (hs : s ≤ b) (hM : b ≤ M) (ht : ∀ c, a ≤ c → c < s → top N' c b = top N c s) (h2 : Gr N' b s l2) : Gr N' b a (l ++ l2) := by
  induction h with
  | nil => exact h2
  | cons hlt hgr ih =>
    rename_i a l
    have e := ht a (Nat.le_refl _) hlt
    have hb := blk_in (L := top N a s) (t := a) (by omega)
    have := ih fun c h1 h2 => ht c (by omega) h2
    rw [List.cons_append, ← e]
    rw [← e] at this
    exact .cons (by omega) this

theorem cov_same (n a : Nat) : cov n a a = [] := by
  cases n with
  | zero => rfl
  | succ n => rw [cov, if_pos rfl]
theorem covB_gr (n b : Nat) (hM : b ≤ M) (IH : ∀ a b, a ≤ b → b ≤ M → (n = 0 → a = b) → Gr (n - 1) b a (cov n a b)) : ∀ (f s a : Nat), a ≤ s → a ≤ b → b - s ≤ f → (s ≤ b → Bd n s) → (∀ c, a ≤ c → c < s → c < M → fl n c ≠ c) → (n = 0 → s = a) → Gr n b a (covB (cov n) b (ws n b f s) a) := by
  have last : ∀ (s a : Nat), a ≤ s → a ≤ b → (∀ c, a ≤ c → c < b → ¬ (fl n c = c ∧ nx n c ≤ b)) → (n = 0 → a = b) → Gr n b a (cov n a b) := by
    intro s a has hab hc h0
    have := (IH a b hab hM h0).lift (N' := n) (Nat.le_refl _) hM ?_ .nil
    · rwa [List.append_nil] at this
    · intro c h1 h2
      cases n with
      | zero => have := h0 rfl; omega
      | succ m => exact top_less (hc c h1 h2)
  intro f
  induction f with
  | zero =>
    intro s a has hab hf hbd hno h0
    refine last s a has hab (fun c h1 h2 h3 => hno c h1 (by omega) (by omega) h3.1) (fun h => by have := h0 h; omega)
  | succ f ih =>
    intro s a has hab hf hbd hno h0
    rw [ws]
    by_cases hs : s < b ∧ nx n s ≤ b
    · rw [if_pos hs]
      have hbs := hbd (by omega)
      have hfs := fl_of (by omega) hbs
      have hin := blk_in (L := n) (t := s) (by omega)
      have hnb := nx_bd (L := n) (t := s) (by omega)
      have htop := top_full hfs hs.2
      show Gr n b a (cov n a s ++ (n, s, nx n s) :: covB (cov n) b (ws n b f (nx n s)) (nx n s))
      refine (IH a s has (by omega) (fun h => (h0 h).symm)).lift (by omega) hM ?_ ?_
      · intro c h1 h2
        cases n with
        | zero => have := h0 rfl; omega
        | succ m =>
          rw [top_less (fun h => hno c h1 h2 (by omega) h.1)]
          exact top_cut (by omega) m c (bd_down hbs) h2
      · have h3 := ih (nx n s) (nx n s) (Nat.le_refl _) hs.2 (by omega) (fun _ => hnb) (fun c h1 h2 => by omega) (fun _ => rfl)
        have := Gr.cons (N := n) (b := b) (a := s) hs.1 (by rw [htop]; exact h3)
        rwa [htop] at this
    · rw [if_neg hs]
      refine last s a has hab (fun c h1 h2 h3 => ?_) (fun h => ?_)
      · rcases Nat.lt_or_ge c s with h4 | h4
        · exact hno c h1 h4 (by omega) h3.1
        · have hbs := hbd (by omega)
          have hfs := fl_of (by omega) hbs
          have := blk_same (L := n) (t := s) (s := c) (by omega) (by omega) (by omega)
          omega
      · have h1 := h0 h
        subst h
        rw [nx_zero] at hs
        omega
theorem first_ok (n a : Nat) (h : a < M) : a ≤ fst' n a ∧ fst' n a ≤ M ∧ Bd n (fst' n a) ∧ (∀ c, a ≤ c → c < fst' n a → c < M → fl n c ≠ c) ∧ (n = 0 → fst' n a = a) := by
  have hin := blk_in (L := n) h
  unfold fst'
  by_cases h1 : fl n a = a
  · rw [if_pos h1]
    refine ⟨Nat.le_refl _, by omega, ?_, fun c _ _ => by omega, fun _ => rfl⟩
    have := fl_bd (L := n) h
    rwa [h1] at this
  · rw [if_neg h1]
    refine ⟨by omega, hin.2.2, nx_bd h, fun c h2 h3 _ h4 => ?_, fun h0 => ?_⟩
    · have := blk_same h (show fl n a ≤ c by omega) h3
      omega
    · subst h0; exact absurd (fl_zero a) h1
theorem cov_gr : ∀ (n a b : Nat), a ≤ b → b ≤ M → (n = 0 → a = b) → Gr (n - 1) b a (cov n a b) := by
  intro n
  induction n with
  | zero =>
    intro a b _ _ h
    obtain rfl := h rfl
    exact .nil
  | succ n ih =>
    intro a b hab hM _
    by_cases h : a = b
    · subst h; rw [cov_same]; exact .nil
    · have hlt : a < b := by omega
      rw [cov, if_neg h, wi, if_pos hlt]
      obtain ⟨f1, f2, f3, f4, f5⟩ := first_ok n a (by omega)
      exact covB_gr n b hM ih (b - a) (fst' n a) a f1 hab (by omega) (fun _ => f3) f4 f5

/-- The cover of levels up to N. -/
def g (N a b : Nat) : List Bk := cov (N + 1) a b
theorem g_gr {N a b : Nat} (h : a ≤ b) (hM : b ≤ M) : Gr N b a (g N a b) := cov_gr (N + 1) a b h hM (fun h => by omega)
theorem g_of {N a b : Nat} {l : List Bk} (h : Gr N b a l) (hab : a ≤ b) (hM : b ≤ M) : g N a b = l := (g_gr hab hM).one h hM
theorem g_cut {N a s b : Nat} (h1 : a ≤ s) (h2 : s ≤ b) (hM : b ≤ M) (hs : Bd N s) : g N a b = g N a s ++ g N s b :=
  g_of ((g_gr h1 (by omega)).lift h2 hM (fun _ _ hc => top_cut h2 N _ hs hc) (g_gr h2 hM)) (by omega) hM
theorem g_less {N a b : Nat} (h1 : a ≤ b) (hM : b ≤ M) (h : ∀ c, a ≤ c → c < b → ¬ (fl (N + 1) c = c ∧ nx (N + 1) c ≤ b)) : g (N + 1) a b = g N a b := by
  have := (g_gr (N := N) h1 hM).lift (N' := N + 1) (Nat.le_refl _) hM (fun c h2 h3 => top_less (h c h2 h3)) .nil
  rw [List.append_nil] at this
  exact g_of this h1 hM
theorem g_blk {N a b : Nat} (hM : b ≤ M) (h1 : fl N a = a) (h2 : nx N a ≤ b) (h3 : a < b) : g N a b = (N, a, nx N a) :: g N (nx N a) b := by
  have htop := top_full h1 h2
  have := Gr.cons (N := N) (b := b) (a := a) h3 (by rw [htop]; exact g_gr h2 hM)
  rw [htop] at this
  exact g_of this (by omega) hM
theorem g_same (N a : Nat) : g N a a = [] := cov_same _ _

/-- The least and the greatest width of a block, and how many blocks of lesser levels there are at one end. -/
def wmin : Nat → Nat | 0 => 1 | 1 => 4 | 2 => 96 | 3 => 2688 | _ => 35040
def wmax : Nat → Nat | 0 => 1 | 1 => 4 | 2 => 96 | 3 => 2976 | _ => 35136
def P : Nat → Nat | 0 => 0 | 1 => 3 | 2 => 26 | 3 => 56 | _ => 69
theorem yr_all : ∀ j : Fin 40, ms (12 * j.1) + 365 ≤ ms (12 * (j.1 + 1)) ∧ ms (12 * (j.1 + 1)) ≤ ms (12 * j.1) + 366 := by decide +kernel
theorem wid {L t : Nat} (hL : L ≤ 4) (_h : t < M) : fl L t + wmin L ≤ nx L t ∧ nx L t ≤ fl L t + wmax L := by
  have hM : M = 1402560 := rfl
  match L, hL with
  | 0, _ => show t + 1 ≤ t + 1 ∧ t + 1 ≤ t + 1; omega
  | 1, _ => show t - t % 4 + 4 ≤ t - t % 4 + 4 ∧ t - t % 4 + 4 ≤ t - t % 4 + 4; omega
  | 2, _ => show t - t % 96 + 96 ≤ t - t % 96 + 96 ∧ t - t % 96 + 96 ≤ t - t % 96 + 96; omega
  | 3, _ =>
    show 96 * ms (mo (t / 96)) + 2688 ≤ 96 * ms (mo (t / 96) + 1) ∧ 96 * ms (mo (t / 96) + 1) ≤ 96 * ms (mo (t / 96)) + 2976
    have := mlen_bd (mo (t / 96))
    rw [ms_succ]
    omega
  | 4, _ =>
    show 96 * ms (12 * (mo (t / 96) / 12)) + 35040 ≤ 96 * ms (12 * (mo (t / 96) / 12 + 1)) ∧ 96 * ms (12 * (mo (t / 96) / 12 + 1)) ≤ 96 * ms (12 * (mo (t / 96) / 12)) + 35136
    have := yr_all ⟨mo (t / 96) / 12, by have := mo_lt (t / 96); omega⟩
    simp only at this
    omega
theorem P_step {N D : Nat} (hN : N < 4) (h : D < wmax (N + 1)) : D / wmin N + P N ≤ P (N + 1) := by
  match N, hN with
  | 0, _ => simp [wmax, wmin, P] at *; omega
  | 1, _ => simp [wmax, wmin, P] at *; omega
  | 2, _ => simp [wmax, wmin, P] at *; omega
  | 3, _ => simp [wmax, wmin, P] at *; omega
theorem div_step {x y w : Nat} (hw : 0 < w) (h : y + w ≤ x) : y / w + 1 ≤ x / w := by
  have := Nat.div_le_div_right (c := w) h
  rwa [Nat.add_div_right _ hw] at this
theorem wmin_pos (L : Nat) : 0 < wmin L := by
  match L with
  | 0 => decide
  | 1 => decide
  | 2 => decide
  | 3 => decide
  | _ + 4 => exact Nat.zero_lt_succ _
/-- From where a block begins on. -/
theorem len_run {N : Nat} (hN : N ≤ 4) (hs : ∀ a b, a ≤ b → b ≤ M → Bd N a → (a < M → b < nx N a) → (g N a b).length ≤ P N) : ∀ (k a b : Nat), b - a ≤ k → a ≤ b → b ≤ M → Bd N a → (g N a b).length ≤ (b - a) / wmin N + P N ∧ (Bd N b → (g N a b).length ≤ (b - a) / wmin N) := by
  intro k
  induction k with
  | zero =>
    intro a b hk hab hM _
    obtain rfl : a = b := by omega
    rw [g_same]
    exact ⟨Nat.zero_le _, fun _ => Nat.zero_le _⟩
  | succ k ih =>
    intro a b hk hab hM ha
    rcases Nat.eq_or_lt_of_le hab with rfl | hlt
    · rw [g_same]
      exact ⟨Nat.zero_le _, fun _ => Nat.zero_le _⟩
    · have hf := fl_of (by omega) ha
      have hin := blk_in (L := N) (t := a) (by omega)
      have hw := wid hN (t := a) (by omega)
      by_cases h : nx N a ≤ b
      · rw [g_blk hM hf h hlt]
        have hd := div_step (x := b - a) (y := b - nx N a) (wmin_pos N) (by omega)
        obtain ⟨i1, i2⟩ := ih (nx N a) b (by omega) h hM (nx_bd (by omega))
        refine ⟨by rw [List.length_cons]; omega, fun hb => ?_⟩
        have := i2 hb
        rw [List.length_cons]; omega
      · refine ⟨Nat.le_trans (hs a b hab hM ha (fun _ => by omega)) (Nat.le_add_left _ _), fun hb => ?_⟩
        have := bd_out (t := a) (by omega) hb
        omega
theorem len_suf : ∀ (N : Nat), N ≤ 4 → ∀ a b, a ≤ b → b ≤ M → Bd N a → (a < M → b < nx N a) → (g N a b).length ≤ P N := by
  intro N
  induction N with
  | zero =>
    intro _ a b hab hM _ h
    rcases Nat.eq_or_lt_of_le hab with rfl | hlt
    · rw [g_same]; exact Nat.zero_le _
    · have := h (by omega)
      rw [nx_zero] at this
      omega
  | succ N ih =>
    intro hN a b hab hM ha h
    rcases Nat.eq_or_lt_of_le hab with rfl | hlt
    · rw [g_same]; exact Nat.zero_le _
    · have hb := h (by omega)
      have hf := fl_of (by omega) ha
      have hw := wid hN (t := a) (by omega)
      rw [g_less hab hM fun c h1 h2 h3 => by
        have := blk_same (L := N + 1) (t := a) (s := c) (by omega) (by omega) (by omega)
        omega]
      have := (len_run (by omega) (ih (by omega)) (b - a) a b (Nat.le_refl _) hab hM (bd_down ha)).1
      exact Nat.le_trans this (P_step (by omega) (by omega))
/-- Up to where a block ends. -/
theorem len_pre : ∀ (N : Nat), N ≤ 4 → ∀ a, a < M → fl N a ≠ a → (g N a (nx N a)).length ≤ P N := by
  intro N
  induction N with
  | zero => intro _ a _ h; exact absurd (fl_zero a) h
  | succ N ih =>
    intro hN a ha hne
    have hin := blk_in (L := N + 1) ha
    have hin' := blk_in (L := N) ha
    have hup := blk_up (K := N) (L := N + 1) ha (by omega)
    have hw := wid hN ha
    have hb := nx_bd (L := N + 1) ha
    rw [g_less (by omega) hin.2.2 fun c h1 h2 h3 => by
      have := blk_same (L := N + 1) (t := a) (s := c) ha (by omega) (by omega)
      omega]
    obtain ⟨f1, f2, f3, f4, f5⟩ := first_ok N a ha
    have hle : fst' N a ≤ nx (N + 1) a := by unfold fst'; split <;> omega
    rw [g_cut f1 hle hin.2.2 f3, List.length_append]
    have r := (len_run (N := N) (by omega) (len_suf N (by omega)) _ (fst' N a) (nx (N + 1) a) (Nat.le_refl _) hle hin.2.2 f3).2 (bd_down hb)
    have q : (g N a (fst' N a)).length ≤ P N := by
      unfold fst'
      split
      · rw [g_same]; exact Nat.zero_le _
      · rename_i h; exact ih (by omega) a ha h
    have := P_step (N := N) (D := nx (N + 1) a - fst' N a) (by omega) (by omega)
    omega
theorem gen_num (N : Nat) (hN : N + 1 ≤ 4) (D : Nat) (h1 : N + 1 < 4 → D < wmax (N + 1 + 1)) (h2 : D ≤ M) : D / wmin (N + 1) + 2 * P (N + 1) ≤ 180 := by
  match N, hN, h1 with
  | 0, _, h1 => have h := h1 (by omega); show D / 4 + 2 * 3 ≤ 180; have h : D < 96 := h; omega
  | 1, _, h1 => have h := h1 (by omega); show D / 96 + 2 * 26 ≤ 180; have h : D < 2976 := h; omega
  | 2, _, h1 => have h := h1 (by omega); show D / 2688 + 2 * 56 ≤ 180; have h : D < 35136 := h; omega
  | 3, _, _ => show D / 35040 + 2 * 69 ≤ 180; have h : D ≤ 1402560 := h2; omega
/-- A cover has at most 180 blocks. -/
theorem len_gen : ∀ (N : Nat), N ≤ 4 → ∀ a b, a ≤ b → b ≤ M → (N < 4 → b - a < wmax (N + 1)) → (g N a b).length ≤ 180 := by
  intro N
  induction N with
  | zero =>
    intro _ a b hab hM hw
    have hw := hw (by omega)
    have := (len_run (N := 0) (by omega) (len_suf 0 (by omega)) (b - a) a b (Nat.le_refl _) hab hM ⟨by omega, trivial⟩).1
    simp [wmax, wmin, P] at *
    omega
  | succ N ih =>
    intro hN a b hab hM hw
    rcases Nat.eq_or_lt_of_le hab with rfl | hlt
    · rw [g_same]; exact Nat.zero_le _
    · have ha : a < M := by omega
      obtain ⟨f1, f2, f3, f4, f5⟩ := first_ok (N + 1) a ha
      have hin := blk_in (L := N + 1) ha
      have hwid := wid hN ha
      by_cases hs : fst' (N + 1) a ≤ b
      · rw [g_cut f1 hs hM f3, List.length_append]
        have r := (len_run hN (len_suf (N + 1) hN) _ (fst' (N + 1) a) b (Nat.le_refl _) hs hM f3).1
        have q : (g (N + 1) a (fst' (N + 1) a)).length ≤ P (N + 1) := by
          unfold fst'
          split
          · rw [g_same]; exact Nat.zero_le _
          · rename_i h; exact len_pre (N + 1) hN a ha h
        have d : (b - fst' (N + 1) a) / wmin (N + 1) + 2 * P (N + 1) ≤ 180 := by
          have hMM : M = 1402560 := rfl
          have h1 : b - fst' (N + 1) a ≤ b - a := by omega
          exact gen_num N hN _ (fun h => by have := hw h; omega) (by omega)
        omega
      · have hnb : b < nx (N + 1) a := by unfold fst' at hs; split at hs <;> omega
        have hne : ∀ c, a ≤ c → c < b → ¬ (fl (N + 1) c = c ∧ nx (N + 1) c ≤ b) := fun c h1 h2 h3 => f4 c h1 (by omega) (by omega) h3.1
        rw [g_less hab hM hne]
        exact ih (by omega) a b hab hM (fun _ => by omega)
end Go.Proofs.YtmifpaafpmibmaaDoor.Cm
