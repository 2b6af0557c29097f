/- The tokens of a source as plain functions on lists of bytes, and what holds of them; no program is named here. -/
import Derived.Lib.ItoaNum
import Derived.Lib.AtoiAll
import Derived.Lib.Join
namespace Go.Proofs.YtggjgikpiljoiaaDoor.Lx

/-- Digits; letters; bytes of words; characters that stand for themselves; blanks; no line feed. -/
def dg (c : UInt8) : Bool := decide (48 ≤ c.toNat ∧ c.toNat ≤ 57)
def lt (c : UInt8) : Bool := decide ((97 ≤ c.toNat ∧ c.toNat ≤ 122) ∨ (65 ≤ c.toNat ∧ c.toNat ≤ 90) ∨ c.toNat = 95)
def wd (c : UInt8) : Bool := dg c || lt c
def pl (c : UInt8) : Bool := decide (32 ≤ c.toNat ∧ c.toNat ≤ 126 ∧ c.toNat ≠ 34 ∧ c.toNat ≠ 92)
def bl (c : UInt8) : Bool := decide (c.toNat = 32 ∨ c.toNat = 9 ∨ c.toNat = 10 ∨ c.toNat = 13)
def nlf (c : UInt8) : Bool := decide (c.toNat ≠ 10)
/-- Signs of two bytes, and of one. -/
def two (c d : UInt8) : Bool := decide ((c.toNat = 45 ∧ d.toNat = 62) ∨ (c.toNat = 58 ∧ d.toNat = 61) ∨ (c.toNat = 61 ∧ d.toNat = 61) ∨ (c.toNat = 33 ∧ d.toNat = 61) ∨ (c.toNat = 60 ∧ d.toNat = 61) ∨ (c.toNat = 62 ∧ d.toNat = 61) ∨ (c.toNat = 38 ∧ d.toNat = 38) ∨ (c.toNat = 124 ∧ d.toNat = 124) ∨ (c.toNat = 46 ∧ d.toNat = 46))
def one (c : UInt8) : Bool := decide (c.toNat = 40 ∨ c.toNat = 41 ∨ c.toNat = 123 ∨ c.toNat = 125 ∨ c.toNat = 91 ∨ c.toNat = 93 ∨ c.toNat = 44 ∨ c.toNat = 59 ∨ c.toNat = 58 ∨ c.toNat = 46 ∨ c.toNat = 43 ∨ c.toNat = 45 ∨ c.toNat = 42 ∨ c.toNat = 47 ∨ c.toNat = 37 ∨ c.toNat = 60 ∨ c.toNat = 62 ∨ c.toNat = 61 ∨ c.toNat = 33 ∨ c.toNat = 38 ∨ c.toNat = 124 ∨ c.toNat = 64 ∨ c.toNat = 63 ∨ c.toNat = 94 ∨ c.toNat = 126)
/-- The word, and the comment, at the beginning. -/
def word (l : List UInt8) : List UInt8 := l.takeWhile wd
def cmt (l : List UInt8) : List UInt8 := l.takeWhile nlf
/-- The number of digits, and whether a word is a number. -/
def numV (w : List UInt8) : Nat := w.foldl (fun n c => 10 * n + (c.toNat - 48)) 0
def numOk (w : List UInt8) : Bool := w.all dg && decide (w.length ≤ 15) && (decide (w.length ≤ 1) || decide ((w.headD 0).toNat ≠ 48))

/-- What stands at the beginning: a blank of n bytes; a token (kind, string, number, bytes); an error. -/
inductive St where
  | skip (n : Nat)
  | tok (k : Nat) (s : List UInt8) (v n : Nat)
  | bad (e : Nat)
def sgn (c : UInt8) (r : List UInt8) : St :=
  match r with
  | d :: _ => if two c d then .tok 4 [c, d] 0 2 else if one c then .tok 4 [c] 0 1 else .bad 26
  | [] => if one c then .tok 4 [c] 0 1 else .bad 26
/-- The character at the beginning: the byte that it stands for and its length, 0 if there is none. -/
def chr : List UInt8 → UInt8 × Nat
  | [] => (0, 0)
  | c :: r =>
    if pl c then (c, 1)
    else if c.toNat = 92 then
      match r with
      | [] => (0, 0)
      | d :: _ => if d.toNat = 34 ∨ d.toNat = 92 then (d, 2) else if d.toNat = 110 then (10, 2) else (0, 0)
    else (0, 0)
/-- A text behind n bytes of it that stand for acc; f bounds the steps. -/
def txtF : Nat → List UInt8 → List UInt8 → Nat → St
  | 0, _, _, _ => .bad 28
  | _ + 1, [], _, _ => .bad 28
  | f + 1, c :: r, acc, n =>
    if c.toNat = 34 then .tok 3 acc 0 (n + 1)
    else if (chr (c :: r)).2 = 0 then .bad 28
    else if acc.length = 200 then .bad 2
    else txtF f ((c :: r).drop (chr (c :: r)).2) (acc ++ [(chr (c :: r)).1]) (n + (chr (c :: r)).2)
def txt (l acc : List UInt8) (n : Nat) : St := txtF (l.length + 1) l acc n
def step : List UInt8 → St
  | [] => .bad 26
  | c :: r =>
    if bl c then .skip 1
    else if c.toNat = 35 then .skip (cmt (c :: r)).length
    else if lt c then (if 32 < (word (c :: r)).length then .bad 2 else .tok 1 (word (c :: r)) 0 (word (c :: r)).length)
    else if dg c then (if numOk (word (c :: r)) then .tok 2 [] (numV (word (c :: r))) (word (c :: r)).length else .bad 27)
    else if c.toNat = 34 then txt r [] 1
    else sgn c r

theorem chr_two (l : List UInt8) : (chr l).2 ≤ 2 := by
  unfold chr; split <;> (try split) <;> (try split) <;> (try split) <;> (try split) <;> (try split) <;> simp
theorem chr_le (c : UInt8) (r : List UInt8) : (chr (c :: r)).2 ≤ (c :: r).length := by
  simp only [chr, List.length_cons]
  split
  · simp
  · split
    · split
      · simp
      · split
        · simp
        · split <;> simp
    · simp
theorem txtF_fuel : ∀ (f g : Nat) (l acc : List UInt8) (n : Nat), l.length < f → l.length < g → txtF f l acc n = txtF g l acc n := by
  intro f
  induction f with
  | zero => intro g l acc n h; omega
  | succ f ih =>
    intro g l acc n hf hg
    cases g with
    | zero => omega
    | succ g =>
      cases l with
      | nil => rfl
      | cons c r =>
        simp only [txtF]
        split
        · rfl
        · split
          · rfl
          · split
            · rfl
            · have h1 := chr_le c r
              simp only [List.length_cons] at hf hg
              exact ih g _ _ _ (by simp only [List.length_drop, List.length_cons]; omega) (by simp only [List.length_drop, List.length_cons]; omega)
theorem txt_nil (acc : List UInt8) (n : Nat) : txt [] acc n = .bad 28 := rfl
theorem txt_quote {c : UInt8} {r acc : List UInt8} {n : Nat} (h : c.toNat = 34) : txt (c :: r) acc n = .tok 3 acc 0 (n + 1) := by
  unfold txt; simp only [List.length_cons, txtF]; rw [if_pos h]
theorem txt_bad {c : UInt8} {r acc : List UInt8} {n : Nat} (h : c.toNat ≠ 34) (h0 : (chr (c :: r)).2 = 0) : txt (c :: r) acc n = .bad 28 := by
  unfold txt; simp only [List.length_cons, txtF]; rw [if_neg h, if_pos h0]
theorem txt_long {c : UInt8} {r acc : List UInt8} {n : Nat} (h : c.toNat ≠ 34) (h0 : (chr (c :: r)).2 ≠ 0) (hl : acc.length = 200) : txt (c :: r) acc n = .bad 2 := by
  unfold txt; simp only [List.length_cons, txtF]; rw [if_neg h, if_neg h0, if_pos hl]
theorem txt_next {c : UInt8} {r acc : List UInt8} {n : Nat} (h : c.toNat ≠ 34) (h0 : (chr (c :: r)).2 ≠ 0) (hl : acc.length ≠ 200) :
    txt (c :: r) acc n = txt ((c :: r).drop (chr (c :: r)).2) (acc ++ [(chr (c :: r)).1]) (n + (chr (c :: r)).2) := by
  have h1 := chr_le c r
  unfold txt
  simp only [List.length_cons] at h1 ⊢
  rw [txtF, if_neg h, if_neg h0, if_neg hl]
  exact txtF_fuel _ _ _ _ _ (by simp only [List.length_drop, List.length_cons]; omega) (by simp only [List.length_drop, List.length_cons]; omega)

/-- How many bytes a step takes, and that it is no error. -/
def St.len : St → Nat
  | .skip n => n
  | .tok _ _ _ n => n
  | .bad _ => 0
def St.fine : St → Bool
  | .bad _ => false
  | _ => true

theorem tw_le (f : UInt8 → Bool) : ∀ l : List UInt8, (l.takeWhile f).length ≤ l.length
  | [] => by simp
  | c :: r => by
    rw [List.takeWhile_cons]
    split
    · simpa using tw_le f r
    · simp
theorem tw_swap (f : UInt8 → Bool) (r m : List UInt8) : ∀ p : List UInt8, ((p ++ r).takeWhile f).length ≤ p.length →
    (((p ++ r).takeWhile f).length < p.length ∨ m = [] ∨ f (m.headD 0) = false) → (p ++ m).takeWhile f = (p ++ r).takeWhile f
  | [], h, hm => by
    have h1 : (r.takeWhile f) = [] := List.eq_nil_of_length_eq_zero (by simpa using h)
    rcases hm with hm | rfl | hm
    · simp at hm
    · simp [h1]
    · cases m with
      | nil => simp [h1]
      | cons d m =>
        simp only [List.headD_cons] at hm
        simp [h1, hm]
  | c :: p, h, hm => by
    simp only [List.cons_append, List.takeWhile_cons] at h hm ⊢
    cases hc : f c
    · simp
    · simp only [hc, if_true, List.length_cons] at h hm ⊢
      rw [tw_swap f r m p (by omega) (by rcases hm with hm | hm; exact .inl (by omega); exact .inr hm)]
theorem tw_end (f : UInt8 → Bool) (d : UInt8) (b : List UInt8) (hd : f d = false) : ∀ p : List UInt8, (p ++ d :: b).takeWhile f = p.takeWhile f
  | [] => by simp [hd]
  | c :: p => by
    simp only [List.cons_append, List.takeWhile_cons]
    cases hc : f c
    · simp
    · simp [tw_end f d b hd p]
theorem tw_take (f : UInt8 → Bool) : ∀ l : List UInt8, l.take (l.takeWhile f).length = l.takeWhile f
  | [] => by simp
  | c :: r => by
    rw [List.takeWhile_cons]
    cases hc : f c
    · simp
    · simp [tw_take f r]

/-- A character depends on two bytes. -/
theorem chr_swap (c : UInt8) (p r m : List UInt8) (h0 : (chr (c :: (p ++ r))).2 ≠ 0) (h : (chr (c :: (p ++ r))).2 ≤ p.length + 1) : chr (c :: (p ++ m)) = chr (c :: (p ++ r)) := by
  unfold chr at h0 h ⊢
  cases hp : pl c
  · simp only [hp, if_false, Bool.false_eq_true] at h0 h ⊢
    by_cases h9 : c.toNat = 92
    · simp only [h9, if_true] at h0 h ⊢
      cases p with
      | nil =>
        simp only [List.nil_append, List.length_nil] at h0 h ⊢
        cases r with
        | nil => simp at h0
        | cons d r =>
          simp only at h0 h
          split at h
          · simp at h
          · split at h
            · simp at h
            · rename_i h1 h2; simp [h1, h2] at h0
      | cons d p => rfl
    · simp [h9] at h0
  · simp [hp]
theorem chr_end (c : UInt8) (p b : List UInt8) : chr (c :: (p ++ 10 :: b)) = chr (c :: p) := by
  unfold chr
  cases hp : pl c
  · by_cases h9 : c.toNat = 92
    · simp only [hp, h9, if_true, Bool.false_eq_true, if_false]
      cases p with
      | nil => simp
      | cons d p => rfl
    · simp [hp, h9]
  · simp [hp]

theorem txt_len : ∀ (k : Nat) (l acc : List UInt8) (n : Nat), l.length ≤ k → (txt l acc n).fine = true → n < (txt l acc n).len ∧ (txt l acc n).len ≤ n + l.length := by
  intro k
  induction k with
  | zero =>
    intro l acc n hl h
    obtain rfl := List.eq_nil_of_length_eq_zero (by omega : l.length = 0)
    cases h
  | succ k ih =>
    intro l acc n hl h
    cases l with
    | nil => cases h
    | cons c r =>
      by_cases hq : c.toNat = 34
      · rw [txt_quote hq]; simp [St.len]
      · by_cases h0 : (chr (c :: r)).2 = 0
        · rw [txt_bad hq h0] at h; cases h
        · by_cases ha : acc.length = 200
          · rw [txt_long hq h0 ha] at h; cases h
          · rw [txt_next hq h0 ha] at h ⊢
            have h1 := chr_le c r
            simp only [List.length_cons] at hl h1
            have := ih _ _ _ (by simp only [List.length_drop, List.length_cons]; omega) h
            simp only [List.length_drop, List.length_cons] at this ⊢
            omega
theorem drop_app (k : Nat) (c : UInt8) (p x : List UInt8) (h : k ≤ p.length + 1) : (c :: (p ++ x)).drop k = (c :: p).drop k ++ x := by
  rw [← List.cons_append, List.drop_append_of_le_length (by simpa using h)]
theorem txt_swap : ∀ (k : Nat) (p r m acc : List UInt8) (n : Nat), p.length ≤ k → (txt (p ++ r) acc n).fine = true → (txt (p ++ r) acc n).len ≤ n + p.length → txt (p ++ m) acc n = txt (p ++ r) acc n := by
  intro k
  induction k with
  | zero =>
    intro p r m acc n hp h hn
    obtain rfl := List.eq_nil_of_length_eq_zero (by omega : p.length = 0)
    have := txt_len _ _ _ _ (Nat.le_refl _) h
    simp only [List.length_nil] at hn
    omega
  | succ k ih =>
    intro p r m acc n hp h hn
    cases p with
    | nil =>
      have := txt_len _ _ _ _ (Nat.le_refl _) h
      simp only [List.length_nil] at hn
      omega
    | cons c p =>
      simp only [List.cons_append] at h hn ⊢
      by_cases hq : c.toNat = 34
      · rw [txt_quote hq, txt_quote hq]
      · by_cases h0 : (chr (c :: (p ++ r))).2 = 0
        · rw [txt_bad hq h0] at h; cases h
        · by_cases ha : acc.length = 200
          · rw [txt_long hq h0 ha] at h; cases h
          · rw [txt_next hq h0 ha] at h hn ⊢
            have h2 := txt_len _ _ _ _ (Nat.le_refl _) h
            have h1 : (chr (c :: (p ++ r))).2 ≤ p.length + 1 := by simp only [List.length_cons] at hn; omega
            have e := chr_swap c p r m h0 h1
            rw [txt_next hq (by rw [e]; exact h0) ha, e]
            have d1 := drop_app (chr (c :: (p ++ r))).2 c p r h1
            have d2 := drop_app (chr (c :: (p ++ r))).2 c p m h1
            rw [d1] at h hn ⊢
            rw [d2]
            simp only [List.length_cons] at hp hn
            exact ih _ _ _ _ _ (by simp only [List.length_drop, List.length_cons]; omega) h (by simp only [List.length_drop, List.length_cons]; omega)
theorem txt_end (b : List UInt8) : ∀ (k : Nat) (p acc : List UInt8) (n : Nat), p.length ≤ k → txt (p ++ 10 :: b) acc n = txt p acc n := by
  have hn : ∀ (acc : List UInt8) (n : Nat), txt (10 :: b) acc n = .bad 28 := fun acc n => txt_bad (by decide) (by simp [chr, pl])
  intro k
  induction k with
  | zero =>
    intro p acc n hp
    obtain rfl := List.eq_nil_of_length_eq_zero (by omega : p.length = 0)
    exact hn _ _
  | succ k ih =>
    intro p acc n hp
    cases p with
    | nil => exact hn _ _
    | cons c p =>
      simp only [List.cons_append]
      have e := chr_end c p b
      have h1 := chr_le c p
      by_cases hq : c.toNat = 34
      · rw [txt_quote hq, txt_quote hq]
      · by_cases h0 : (chr (c :: p)).2 = 0
        · rw [txt_bad hq h0, txt_bad hq (by rw [e]; exact h0)]
        · by_cases ha : acc.length = 200
          · rw [txt_long hq h0 ha, txt_long hq (by rw [e]; exact h0) ha]
          · rw [txt_next hq h0 ha, txt_next hq (by rw [e]; exact h0) ha, e, ← List.cons_append, List.drop_append_of_le_length h1]
            simp only [List.length_cons] at hp h1
            exact ih _ _ _ (by simp only [List.length_drop, List.length_cons]; omega)
theorem word_pos {c : UInt8} {r : List UInt8} (h : wd c = true) : 0 < (word (c :: r)).length := by
  unfold word; rw [List.takeWhile_cons, if_pos h]; simp
theorem cmt_pos {c : UInt8} {r : List UInt8} (h : nlf c = true) : 0 < (cmt (c :: r)).length := by
  unfold cmt; rw [List.takeWhile_cons, if_pos h]; simp
theorem sgn_len (c : UInt8) (r : List UInt8) (h : (sgn c r).fine = true) : 0 < (sgn c r).len ∧ (sgn c r).len ≤ r.length + 1 := by
  unfold sgn at h ⊢
  cases r with
  | nil =>
    simp only at h ⊢
    split
    · simp [St.len]
    · rename_i h1; simp [h1, St.fine] at h
  | cons d r =>
    simp only at h ⊢
    split
    · simp [St.len]
    · rename_i h1
      split
      · simp [St.len]
      · rename_i h2; simp [h1, h2, St.fine] at h
theorem lt_wd {c : UInt8} (h : lt c = true) : wd c = true := by simp [wd, h]
theorem dg_wd {c : UInt8} (h : dg c = true) : wd c = true := by simp [wd, h]
theorem step_len (l : List UInt8) (h : (step l).fine = true) : 0 < (step l).len ∧ (step l).len ≤ l.length := by
  cases l with
  | nil => cases h
  | cons c r =>
    simp only [step] at h ⊢
    by_cases h1 : bl c = true
    · simp [h1, St.len]
    · simp only [h1, Bool.false_eq_true, if_false] at h ⊢
      by_cases h2 : c.toNat = 35
      · simp only [h2, if_true] at h ⊢
        exact ⟨cmt_pos (by simp [nlf, h2]), tw_le _ _⟩
      · simp only [h2, if_false] at h ⊢
        by_cases h3 : lt c = true
        · simp only [h3, if_true] at h ⊢
          split
          · rename_i h4; simp [h4, St.fine] at h
          · exact ⟨word_pos (lt_wd h3), tw_le _ _⟩
        · simp only [h3, Bool.false_eq_true, if_false] at h ⊢
          by_cases h4 : dg c = true
          · simp only [h4, if_true] at h ⊢
            split
            · exact ⟨word_pos (dg_wd h4), tw_le _ _⟩
            · rename_i h5; simp [h5, St.fine] at h
          · simp only [h4, Bool.false_eq_true, if_false] at h ⊢
            by_cases h5 : c.toNat = 34
            · simp only [h5, if_true] at h ⊢
              have := txt_len _ _ _ _ (Nat.le_refl _) h
              simp only [List.length_cons]; omega
            · simp only [h5, if_false] at h ⊢
              have := sgn_len c r h
              simp only [List.length_cons]; omega
/-- A line feed behind the bytes ends nothing that the end does not end. -/
theorem step_end (c : UInt8) (p b : List UInt8) : step (c :: (p ++ 10 :: b)) = step (c :: p) := by
  have hw : word (c :: (p ++ 10 :: b)) = word (c :: p) := tw_end wd 10 b (by decide) (c :: p)
  have hc : cmt (c :: (p ++ 10 :: b)) = cmt (c :: p) := tw_end nlf 10 b (by decide) (c :: p)
  have ht := txt_end b _ p [] 1 (Nat.le_refl _)
  have hs : sgn c (p ++ 10 :: b) = sgn c p := by
    cases p with
    | nil => simp [sgn, two]
    | cons d p => rfl
  simp only [step, hw, hc, ht, hs]
/-- Bytes that begin no word and end no sign. -/
def sep (c : UInt8) : Bool := decide (c.toNat = 32 ∨ c.toNat = 9 ∨ c.toNat = 10 ∨ c.toNat = 35)
theorem sep_wd {c : UInt8} (h : sep c = true) : wd c = false := by
  simp only [sep, decide_eq_true_eq] at h
  simp only [wd, dg, lt, Bool.or_eq_false_iff, decide_eq_false_iff_not]
  omega
theorem sep_two (c : UInt8) {d : UInt8} (h : sep d = true) : two c d = false := by
  simp only [sep, decide_eq_true_eq] at h
  simp only [two, decide_eq_false_iff_not]
  omega
/-- What follows a step that ends within p does not matter, if it is the end, or begins with a separator. -/
theorem step_swap (c : UInt8) (p r m : List UInt8) (h : (step (c :: (p ++ r))).fine = true) (hn : (step (c :: (p ++ r))).len ≤ p.length + 1)
    (hm : m = [] ∨ sep (m.headD 0) = true) (hm' : (step (c :: (p ++ r))).len < p.length + 1 ∨ m = [] ∨ (m.headD 0).toNat = 10 ∨ c.toNat ≠ 35) : step (c :: (p ++ m)) = step (c :: (p ++ r)) := by
  have hw : (word (c :: (p ++ r))).length ≤ p.length + 1 → word (c :: (p ++ m)) = word (c :: (p ++ r)) := fun hl => by
    refine tw_swap wd r m (c :: p) (by simpa [word] using hl) (.inr ?_)
    rcases hm with hm | hm
    · exact .inl hm
    · exact .inr (sep_wd hm)
  simp only [step] at h hn hm' ⊢
  by_cases h1 : bl c = true
  · simp [h1]
  · simp only [h1, Bool.false_eq_true, if_false] at h hn hm' ⊢
    by_cases h2 : c.toNat = 35
    · simp only [h2, if_true] at h hn hm' ⊢
      rw [show cmt (c :: (p ++ m)) = cmt (c :: (p ++ r)) from tw_swap nlf r m (c :: p) (by simpa [cmt, St.len] using hn) (by
        rcases hm' with hm' | hm' | hm' | hm'
        · exact .inl (by simpa [cmt, St.len] using hm')
        · exact .inr (.inl hm')
        · exact .inr (.inr (by rw [nlf, decide_eq_false_iff_not]; omega))
        · exact absurd rfl hm')]
    · simp only [h2, if_false] at h hn hm' ⊢
      by_cases h3 : lt c = true
      · simp only [h3, if_true] at h hn hm' ⊢
        by_cases h4 : 32 < (word (c :: (p ++ r))).length
        · simp [h4, St.fine] at h
        · simp only [h4, if_false, St.len] at hn ⊢
          rw [hw hn]; simp [h4]
      · simp only [h3, Bool.false_eq_true, if_false] at h hn hm' ⊢
        by_cases h4 : dg c = true
        · simp only [h4, if_true] at h hn hm' ⊢
          by_cases h5 : numOk (word (c :: (p ++ r))) = true
          · simp only [h5, if_true, St.len] at hn ⊢
            rw [hw hn]; simp [h5]
          · simp [h5, St.fine] at h
        · simp only [h4, Bool.false_eq_true, if_false] at h hn hm' ⊢
          by_cases h5 : c.toNat = 34
          · simp only [h5, if_true] at h hn hm' ⊢
            exact txt_swap _ _ _ _ _ _ (Nat.le_refl _) h (by omega)
          · simp only [h5, if_false] at h hn hm' ⊢
            cases p with
            | cons d p => rfl
            | nil =>
              simp only [List.nil_append] at h hn ⊢
              have e : sgn c m = if one c then .tok 4 [c] 0 1 else .bad 26 := by
                cases m with
                | nil => rfl
                | cons d m =>
                  rcases hm with hm | hm
                  · cases hm
                  · simp only [List.headD_cons] at hm
                    simp [sgn, sep_two c hm]
              rw [e]
              cases r with
              | nil => rfl
              | cons d r =>
                simp only [sgn] at h hn ⊢
                cases ht : two c d
                · simp
                · simp [ht, St.len] at hn
end Go.Proofs.YtggjgikpiljoiaaDoor.Lx
