/- The texts of tokens, numbers, and blanks between tokens; no program is named here. -/
import Derived.Test.YtggjgikpiljoiaaDoorLM2
namespace Go.Proofs.YtggjgikpiljoiaaDoor.Lx

/-- A text between quotation marks; what is printed of a token, nothing if it is left out; all of a list. -/
def esc (c : UInt8) : List UInt8 := if c.toNat = 34 ∨ c.toNat = 92 then [92, c] else if c.toNat = 10 then [92, 110] else [c]
def quo (s : List UInt8) : List UInt8 := 34 :: (s.flatMap esc ++ [34])
def part (k : Int) (s : List UInt8) (v : Int) : Option (List UInt8) :=
  if k = 1 ∨ k = 4 then some s else if k = 2 then some (Lib.itoa v) else if k = 3 then some (quo s) else none
def tpart (t : Tok) : Option (List UInt8) := part t.k t.s t.v
def textL (T : List Tok) : List UInt8 := Lib.join (T.filterMap tpart) [32]
def strip (t : Tok) : Nat × List UInt8 × Nat := (t.k, t.s, t.v)

theorem numV_snoc (u : List UInt8) (c : UInt8) : numV (u ++ [c]) = 10 * numV u + (c.toNat - 48) := by simp [numV]
theorem dg_eq {c : UInt8} (h : dg c = true) : 48 ≤ c.toNat ∧ c.toNat ≤ 57 := by simpa [dg] using h
theorem foldl_ge (l : List UInt8) : ∀ a : Nat, a ≤ l.foldl (fun n c => 10 * n + (c.toNat - 48)) a := by
  induction l with
  | nil => intro a; exact Nat.le_refl a
  | cons c l ih => intro a; have := ih (10 * a + (c.toNat - 48)); simp only [List.foldl_cons]; omega
theorem numV_pos {c : UInt8} {r : List UInt8} (h : dg c = true) (h' : c.toNat ≠ 48) : 1 ≤ numV (c :: r) := by
  have := dg_eq h
  have := foldl_ge r (10 * 0 + (c.toNat - 48))
  simp only [numV, List.foldl_cons]
  omega
theorem dec_small {i : Nat} (h : i < 10) : Lib.decDigits i = [UInt8.ofNat (48 + i)] := Lib.decDigits_one h
theorem dec_big {n : Nat} (h : 10 ≤ n) : Lib.decDigits n = Lib.decDigits (n / 10) ++ [UInt8.ofNat (48 + n % 10)] := by
  rw [Lib.decDigits, dif_neg (by omega)]
theorem dig_back {c : UInt8} (h : dg c = true) : UInt8.ofNat (48 + (c.toNat - 48)) = c := by
  have := dg_eq h
  rw [show 48 + (c.toNat - 48) = c.toNat by omega]
  exact UInt8.ofNat_toNat
theorem num_dec : ∀ (k : Nat) (w : List UInt8), w.length ≤ k → w ≠ [] → w.all dg = true → (w.length ≤ 1 ∨ (w.headD 0).toNat ≠ 48) → Lib.decDigits (numV w) = w := by
  intro k
  induction k with
  | zero => intro w hk hw; exact absurd (List.eq_nil_of_length_eq_zero (by omega)) hw
  | succ k ih =>
    intro w hk hw ha hl
    obtain ⟨u, c, rfl⟩ : ∃ u c, w = u ++ [c] := ⟨w.dropLast, w.getLast hw, (List.dropLast_concat_getLast hw).symm⟩
    rw [numV_snoc]
    simp only [List.all_append, List.all_cons, List.all_nil, Bool.and_true, Bool.and_eq_true] at ha
    obtain ⟨ha, hc⟩ := ha
    have hd := dg_eq hc
    cases u with
    | nil =>
      simp only [numV, List.foldl_nil, Nat.mul_zero, Nat.zero_add, List.nil_append]
      rw [dec_small (by omega), dig_back hc]
    | cons d u =>
      simp only [List.length_append, List.length_cons, List.length_nil, List.cons_append, List.headD_cons] at hl hk
      have h48 : d.toNat ≠ 48 := by
        rcases hl with hl | hl
        · omega
        · exact hl
      have hdd : dg d = true := by
        simp only [List.all_cons, Bool.and_eq_true] at ha
        exact ha.1
      have hp := numV_pos (r := u) hdd h48
      rw [dec_big (by omega), show (10 * numV (d :: u) + (c.toNat - 48)) / 10 = numV (d :: u) by omega, show (10 * numV (d :: u) + (c.toNat - 48)) % 10 = c.toNat - 48 by omega, dig_back hc,
        ih (d :: u) (by simp only [List.length_cons]; omega) (by simp) ha (.inr (by simpa using h48))]
theorem dec_num : ∀ (k n : Nat), n ≤ k → (Lib.decDigits n).all dg = true ∧ numV (Lib.decDigits n) = n ∧ ((Lib.decDigits n).length ≤ 1 ∨ ((Lib.decDigits n).headD 0).toNat ≠ 48) ∧ (1 ≤ n → ((Lib.decDigits n).headD 0).toNat ≠ 48) := by
  have hv : ∀ i : Nat, i < 10 → (UInt8.ofNat (48 + i)).toNat = 48 + i := fun i hi => by
    rw [UInt8.toNat_ofNat']; exact Nat.mod_eq_of_lt (by omega)
  have h1 : ∀ n : Nat, n < 10 → (Lib.decDigits n).all dg = true ∧ numV (Lib.decDigits n) = n ∧ ((Lib.decDigits n).length ≤ 1 ∨ ((Lib.decDigits n).headD 0).toNat ≠ 48) ∧ (1 ≤ n → ((Lib.decDigits n).headD 0).toNat ≠ 48) := fun n hn => by
    rw [dec_small hn]
    have := hv n hn
    refine ⟨?_, ?_, .inl (by simp), fun h => ?_⟩
    · simp only [List.all_cons, List.all_nil, Bool.and_true, dg, this, decide_eq_true_eq]; omega
    · simp only [numV, List.foldl_cons, List.foldl_nil, this]; omega
    · simp only [List.headD_cons, this]; omega
  intro k
  induction k with
  | zero => intro n hn; exact h1 n (by omega)
  | succ k ih =>
    intro n hn
    rcases Nat.lt_or_ge n 10 with h | h
    · exact h1 n h
    · rw [dec_big h]
      obtain ⟨g1, g2, g3, g4⟩ := ih (n / 10) (by omega)
      have := hv (n % 10) (by omega)
      have hne : Lib.decDigits (n / 10) ≠ [] := fun e => by
        have := Lib.decDigits_length (n / 10)
        rw [e] at this
        have := Lib.nDigits_pos (n / 10)
        simp at *
        omega
      have hh : (Lib.decDigits (n / 10) ++ [UInt8.ofNat (48 + n % 10)]).headD 0 = (Lib.decDigits (n / 10)).headD 0 := by
        cases h2 : Lib.decDigits (n / 10) with
        | nil => exact absurd h2 hne
        | cons c r => rfl
      have g5 := g4 (by omega)
      refine ⟨?_, ?_, .inr (by rw [hh]; exact g5), fun _ => by rw [hh]; exact g5⟩
      · simp only [List.all_append, g1, List.all_cons, List.all_nil, Bool.and_true, Bool.true_and, dg, this, decide_eq_true_eq]; omega
      · rw [numV_snoc, g2, this]; omega
theorem numOk_iff (w : List UInt8) : numOk w = true ↔ w.all dg = true ∧ w.length ≤ 15 ∧ (w.length ≤ 1 ∨ (w.headD 0).toNat ≠ 48) := by
  simp [numOk, and_assoc]
/-- A word is the text of a number of at most 15 digits exactly if it is a number. -/
theorem numOk_of {n : Nat} (h : n ≤ 999999999999999) : numOk (Lib.decDigits n) = true ∧ numV (Lib.decDigits n) = n := by
  obtain ⟨g1, g2, g3, _⟩ := dec_num n n (Nat.le_refl _)
  refine ⟨(numOk_iff _).2 ⟨g1, ?_, g3⟩, g2⟩
  rw [Lib.decDigits_length]
  rcases Nat.lt_or_ge (Lib.nDigits n) 16 with h1 | h1
  · omega
  · exfalso
    have h2 : 10 ^ 15 ≤ n := by
      have h3 : ∀ (k m : Nat), k + 1 ≤ Lib.nDigits m → 1 ≤ k → 10 ^ k ≤ m := by
        intro k
        induction k with
        | zero => intro m _ h; omega
        | succ k ih =>
          intro m hm _
          have hb : ¬ m < 10 := fun hb => by rw [Lib.nDigits_small hb] at hm; omega
          rw [Lib.nDigits_big hb] at hm
          rcases Nat.eq_zero_or_pos k with rfl | hk
          · simp; omega
          · have := ih (m / 10) (by omega) hk
            rw [Nat.pow_succ]; omega
      exact h3 15 n (by omega) (by omega)
    omega
theorem numV_lt {w : List UInt8} (h : numOk w = true) : numV w < 1000000000000000 := by
  obtain ⟨h1, h2, _⟩ := (numOk_iff w).1 h
  have : ∀ (l : List UInt8), l.all dg = true → numV l < 10 ^ l.length := by
    have hk : ∀ (k : Nat) (l : List UInt8), l.length = k → l.all dg = true → numV l < 10 ^ k := by
      intro k
      induction k with
      | zero => intro l hl _; rw [List.eq_nil_of_length_eq_zero hl]; decide
      | succ k ih =>
        intro l hl ha
        have hw : l ≠ [] := fun e => by rw [e] at hl; cases hl
        obtain ⟨u, c, rfl⟩ : ∃ u c, l = u ++ [c] := ⟨l.dropLast, l.getLast hw, (List.dropLast_concat_getLast hw).symm⟩
        simp only [List.all_append, List.all_cons, List.all_nil, Bool.and_true, Bool.and_eq_true] at ha
        have := ih u (by simpa using hl) ha.1
        have := dg_eq ha.2
        rw [numV_snoc, Nat.pow_succ]
        omega
    exact fun l ha => hk _ l rfl ha
  have h3 := this w h1
  have h4 : 10 ^ w.length ≤ 10 ^ 15 := Nat.pow_le_pow_right (by decide) h2
  omega
theorem puint {l : List UInt8} (h : l.all dg = true) : ∀ acc : Nat, (acc + 1) * 10 ^ l.length ≤ 1000000000000000000 → Lib.parseUint10 acc l = .ok (l.foldl (fun n c => 10 * n + (c.toNat - 48)) acc) := by
  induction l with
  | nil => intro acc _; rfl
  | cons c r ih =>
    intro acc ha
    simp only [List.all_cons, Bool.and_eq_true] at h
    have hc := dg_eq h.1
    rw [List.length_cons, Nat.pow_succ] at ha
    have hp : 0 < 10 ^ r.length := Nat.pow_pos (by decide)
    have h1 : (acc + 1) * 10 ≤ 1000000000000000000 := by
      refine Nat.le_trans ?_ ha
      rw [Nat.mul_comm (10 ^ r.length) 10, ← Nat.mul_assoc]
      exact Nat.le_mul_of_pos_right _ hp
    rw [Lib.parseUint10, if_pos hc, if_neg (by omega), if_neg (by omega), ih h.2, List.foldl_cons, Nat.mul_comm acc 10]
    refine Nat.le_trans (Nat.mul_le_mul_right _ (show acc * 10 + (c.toNat - 48) + 1 ≤ (acc + 1) * 10 by omega)) ?_
    rw [Nat.mul_assoc, Nat.mul_comm 10 (10 ^ r.length)]
    exact ha
/-- The number that strconv.Atoi returns beside its error. -/
def numA (w : List UInt8) : Int := match Lib.atoiAll w with
  | .ok v => v
  | .syntax => 0
  | .range => Lib.atoiSat w
theorem numA_ok {c : UInt8} {r : List UInt8} (h : numOk (c :: r) = true) : Lib.atoiAll (c :: r) = .ok (numV (c :: r) : Int) := by
  have hlt := numV_lt h
  obtain ⟨h1, h2, _⟩ := (numOk_iff _).1 h
  have hc : 48 ≤ c.toNat ∧ c.toNat ≤ 57 := by
    simp only [List.all_cons, Bool.and_eq_true] at h1
    exact dg_eq h1.1
  have hp : Lib.parseMag (c :: r) = .ok (numV (c :: r)) := by
    unfold Lib.parseMag
    rw [if_neg (by simp)]
    refine puint h1 0 ?_
    have : 10 ^ (c :: r).length ≤ 10 ^ 15 := Nat.pow_le_pow_right (by decide) h2
    omega
  unfold Lib.atoiAll
  simp only
  rw [if_neg (by omega), hp]
  simp only
  rw [if_neg (by omega), if_neg (by omega), if_neg (by omega)]
theorem numA_val {c : UInt8} {r : List UInt8} (h : numOk (c :: r) = true) : numA (c :: r) = (numV (c :: r) : Int) := by
  unfold numA; rw [numA_ok h]
/-- The test of the program. -/
theorem numA_iff {c : UInt8} {r : List UInt8} (hc : dg c = true) : (numA (c :: r) ≤ 999999999999999 ∧ Lib.itoa (numA (c :: r)) = c :: r) ↔ numOk (c :: r) = true := by
  constructor
  · rintro ⟨h1, h2⟩
    have hd := dg_eq hc
    unfold Lib.itoa at h2
    split at h2
    · exfalso
      injection h2 with h2 _
      rw [← h2] at hd
      simp at hd
    · have := (numOk_of (n := (numA (c :: r)).toNat) (by omega)).1
      rw [h2] at this
      exact this
  · intro h
    rw [numA_val h]
    have hlt := numV_lt h
    obtain ⟨h1, h2, h3⟩ := (numOk_iff _).1 h
    refine ⟨by omega, ?_⟩
    unfold Lib.itoa
    rw [if_neg (by omega)]
    exact num_dec _ _ (Nat.le_refl _) (by simp) h1 h3
theorem itoa_num {c : UInt8} {r : List UInt8} (hc : dg c = true) (h : numOk (c :: r) = true) : Lib.itoa (numV (c :: r) : Int) = c :: r := by
  rw [← numA_val h]; exact ((numA_iff hc).2 h).2

theorem chr_esc {c : UInt8} {r : List UInt8} (h : c.toNat ≠ 34) (h0 : (chr (c :: r)).2 ≠ 0) : (c :: r).take (chr (c :: r)).2 = esc (chr (c :: r)).1 := by
  simp only [chr] at h0 ⊢
  by_cases hp : pl c = true
  · have hp' := hp
    simp only [pl, decide_eq_true_eq] at hp'
    simp only [hp, if_true, esc]
    rw [if_neg (by omega), if_neg (by omega)]
    rfl
  · simp only [hp, if_false, Bool.false_eq_true] at h0 ⊢
    by_cases h9 : c.toNat = 92
    · have hc : c = 92 := UInt8.toNat_inj.1 h9
      subst hc
      simp only [h9, if_true] at h0 ⊢
      cases r with
      | nil => simp at h0
      | cons d r =>
        simp only at h0 ⊢
        by_cases h1 : d.toNat = 34 ∨ d.toNat = 92
        · simp only [h1, if_true, esc]; rfl
        · simp only [h1, if_false] at h0 ⊢
          by_cases h2 : d.toNat = 110
          · have hd : d = 110 := UInt8.toNat_inj.1 h2
            subst hd
            simp [esc]
          · simp [h2] at h0
    · simp [h9] at h0
theorem txt_text : ∀ (k : Nat) (l acc : List UInt8) (n : Nat), l.length ≤ k → ∀ (kd : Nat) (s : List UInt8) (v m : Nat), txt l acc n = .tok kd s v m →
    kd = 3 ∧ v = 0 ∧ ∃ t, s = acc ++ t ∧ l.take (m - n) = t.flatMap esc ++ [34] ∧ n < m := by
  intro k
  induction k with
  | zero =>
    intro l acc n hl kd s v m h
    obtain rfl := List.eq_nil_of_length_eq_zero (by omega : l.length = 0)
    cases h
  | succ k ih =>
    intro l acc n hl kd s v m h
    cases l with
    | nil => cases h
    | cons c r =>
      by_cases hq : c.toNat = 34
      · rw [txt_quote hq] at h
        injection h with h1 h2 h3 h4
        subst h1 h2 h3 h4
        have hc : c = 34 := UInt8.toNat_inj.1 hq
        subst hc
        exact ⟨rfl, rfl, [], by simp, by simp, by omega⟩
      · by_cases h0 : (chr (c :: r)).2 = 0
        · rw [txt_bad hq h0] at h; cases h
        · by_cases ha : acc.length = 200
          · rw [txt_long hq h0 ha] at h; cases h
          · rw [txt_next hq h0 ha] at h
            have h1 := chr_le c r
            have he := chr_esc hq h0
            simp only [List.length_cons] at hl h1
            obtain ⟨e1, e2, t, e3, e4, e5⟩ := ih _ _ _ (by simp only [List.length_drop, List.length_cons]; omega) _ _ _ _ h
            refine ⟨e1, e2, (chr (c :: r)).1 :: t, by rw [e3]; simp, ?_, by omega⟩
            rw [show m - n = (chr (c :: r)).2 + (m - (n + (chr (c :: r)).2)) by omega, List.take_add, e4, he]
            simp
/-- What is printed of a token are its bytes. -/
theorem step_text {l s : List UInt8} {k v n : Nat} (h : step l = .tok k s v n) : part k s v = some (l.take n) := by
  obtain ⟨c, r, rfl⟩ := ne_cons h rfl
  simp only [step] at h
  by_cases h1 : bl c = true
  · simp [h1] at h
  · simp only [h1, Bool.false_eq_true, if_false] at h
    by_cases h2 : c.toNat = 35
    · simp [h2] at h
    · simp only [h2, if_false] at h
      by_cases h3 : lt c = true
      · simp only [h3, if_true] at h
        split at h
        · cases h
        · injection h with e1 e2 e3 e4
          subst e1 e2 e3 e4
          simp only [part]
          rw [if_pos (by simp), show (c :: r).take (word (c :: r)).length = word (c :: r) from tw_take wd _]
      · simp only [h3, Bool.false_eq_true, if_false] at h
        by_cases h4 : dg c = true
        · simp only [h4, if_true] at h
          split at h
          · rename_i h5
            injection h with e1 e2 e3 e4
            subst e1 e2 e3 e4
            have hw : word (c :: r) = c :: r.takeWhile wd := by unfold word; rw [List.takeWhile_cons, if_pos (dg_wd h4)]
            simp only [part]
            rw [if_neg (by decide), if_pos (by decide), show (c :: r).take (word (c :: r)).length = word (c :: r) from tw_take wd _]
            rw [hw] at h5 ⊢
            rw [itoa_num h4 h5]
          · cases h
        · simp only [h4, Bool.false_eq_true, if_false] at h
          by_cases h5 : c.toNat = 34
          · simp only [h5, if_true] at h
            have hc : c = 34 := UInt8.toNat_inj.1 h5
            subst hc
            obtain ⟨e1, e2, t, e3, e4, e5⟩ := txt_text _ _ _ _ (Nat.le_refl _) _ _ _ _ h
            subst e1 e2
            simp only [part]
            rw [if_neg (by decide), if_neg (by decide), if_pos (by decide)]
            obtain ⟨n, rfl⟩ : ∃ n', n = n' + 1 := ⟨n - 1, by omega⟩
            rw [List.take_succ_cons]
            rw [Nat.add_sub_cancel] at e4
            rw [e4, e3]
            simp [quo]
          · simp only [h5, if_false] at h
            cases r with
            | nil =>
              simp only [sgn] at h
              split at h
              · injection h with e1 e2 e3 e4
                subst e1 e2 e3 e4
                simp [part]
              · cases h
            | cons d r =>
              simp only [sgn] at h
              split at h
              · injection h with e1 e2 e3 e4
                subst e1 e2 e3 e4
                simp [part]
              · split at h
                · injection h with e1 e2 e3 e4
                  subst e1 e2 e3 e4
                  simp [part]
                · cases h
/-- A token that is read from its text, whatever comes behind a space. -/
def Good (t : Tok) : Prop := ∃ b, tpart t = some b ∧ b ≠ [] ∧ ∀ m, (m = [] ∨ (m.headD 0).toNat = 32) → step (b ++ m) = .tok t.k t.s t.v b.length
theorem good_of {l s : List UInt8} {k v n : Nat} (x : Nat) (h : step l = .tok k s v n) (h0 : 0 < n) (hn : n ≤ l.length) : Good ⟨k, x, s, v⟩ := by
  obtain ⟨c, r, rfl⟩ := ne_cons h rfl
  obtain ⟨n, rfl⟩ : ∃ n', n = n' + 1 := ⟨n - 1, by omega⟩
  simp only [List.length_cons] at hn
  refine ⟨(c :: r).take (n + 1), step_text h, by simp, fun m hm => ?_⟩
  have hl : (r.take n).length = n := by rw [List.length_take]; omega
  have hr : r = r.take n ++ r.drop n := (List.take_append_drop n r).symm
  rw [List.take_succ_cons, List.cons_append, List.length_cons, hl]
  have hs : step (c :: (r.take n ++ r.drop n)) = .tok k s v (n + 1) := by rw [← hr]; exact h
  rw [← hs]
  refine step_swap c (r.take n) (r.drop n) m (by rw [hs]; rfl) (by rw [hs, hl]; exact Nat.le_refl _) ?_ (.inr (.inr (.inr (tok_ne h).1)))
  rcases hm with rfl | hm
  · exact .inl rfl
  · exact .inr (by rw [sep, decide_eq_true_eq]; exact .inl hm)
theorem lex_good (l : List UInt8) (x : Nat) : ∀ T, lex l x = .ok T → ∃ U, T = U ++ [fin (x + l.length)] ∧ (∀ t ∈ U, Good t) ∧ (U.map fun t => ((tpart t).getD []).length + 1).sum ≤ 2 * l.length := by
  refine lex_ind (P := fun l x => ∀ T, lex l x = .ok T → ∃ U, T = U ++ [fin (x + l.length)] ∧ (∀ t ∈ U, Good t) ∧ (U.map fun t => ((tpart t).getD []).length + 1).sum ≤ 2 * l.length) (fun x T h => ?_) (fun l x n h h0 hn ih T hT => ?_) (fun l x k s v n h h0 hn ih T hT => ?_) (fun c r x e h T hT => ?_) l x
  · rw [lex_nil] at h; injection h with h; exact ⟨[], h.symm, by simp, by simp⟩
  · rw [lex_skip x h] at hT
    obtain ⟨U, e1, e2, e3⟩ := ih T hT
    rw [List.length_drop] at e1 e3
    exact ⟨U, by rw [e1, show x + n + (l.length - n) = x + l.length by omega], e2, by omega⟩
  · rw [lex_tok x h] at hT
    obtain ⟨V, hV, rfl⟩ := app_ok hT
    obtain ⟨U, e1, e2, e3⟩ := ih V hV
    rw [List.length_drop] at e1 e3
    refine ⟨⟨k, x, s, v⟩ :: U, by rw [e1, show x + n + (l.length - n) = x + l.length by omega]; rfl, fun t ht => ?_, ?_⟩
    · rcases List.mem_cons.1 ht with rfl | ht
      · exact good_of x h h0 hn
      · exact e2 t ht
    · have hp : tpart ⟨k, x, s, v⟩ = some (l.take n) := step_text h
      rw [List.map_cons, List.sum_cons, hp]
      simp only [Option.getD_some, List.length_take]
      omega
  · rw [lex_bad x h] at hT; cases hT
theorem tpart_fin (x : Nat) : tpart (fin x) = none := rfl
theorem good_parts {U : List Tok} (h : ∀ t ∈ U, Good t) : U.filterMap tpart = U.map fun t => (tpart t).getD [] := by
  induction U with
  | nil => rfl
  | cons t U ih =>
    obtain ⟨b, hb, _⟩ := h t (List.mem_cons_self ..)
    rw [List.filterMap_cons, hb, List.map_cons, hb, ih fun u hu => h u (List.mem_cons_of_mem _ hu)]
    rfl
theorem lex_back : ∀ (U : List Tok), (∀ t ∈ U, Good t) → ∀ y, ∃ V z, lex (Lib.join (U.map fun t => (tpart t).getD []) [32]) y = .ok (V ++ [fin z]) ∧ V.map strip = U.map strip
  | [], _, y => ⟨[], y, rfl, rfl⟩
  | t :: U, h, y => by
    obtain ⟨b, hb, hne, hs⟩ := h t (List.mem_cons_self ..)
    rw [List.map_cons, hb, Option.getD_some]
    cases U with
    | nil =>
      rw [List.map_nil, Lib.join_one]
      have h1 := hs [] (.inl rfl)
      rw [List.append_nil] at h1
      refine ⟨[⟨t.k, y, t.s, t.v⟩], y + b.length, ?_, by simp [strip]⟩
      rw [lex_tok y h1, List.drop_length, lex_nil]
      rfl
    | cons u U =>
      obtain ⟨V, z, hV, hm⟩ := lex_back (u :: U) (fun t ht => h t (List.mem_cons_of_mem _ ht)) (y + b.length + 1)
      have ej : Lib.join (b :: (u :: U).map fun t => (tpart t).getD []) [32] = b ++ 32 :: Lib.join ((u :: U).map fun t => (tpart t).getD []) [32] := by
        rw [Lib.join_cons, List.map_cons, Lib.join_cons]
        simp [Lib.joinTail]
      have h1 := hs (32 :: Lib.join ((u :: U).map fun t => (tpart t).getD []) [32]) (.inr (by simp))
      have h2 : ∀ q : List UInt8, step (32 :: q) = .skip 1 := fun q => by simp [step, bl]
      refine ⟨⟨t.k, y, t.s, t.v⟩ :: V, z, ?_, by rw [List.map_cons, List.map_cons, hm]; rfl⟩
      rw [ej, lex_tok y h1, List.drop_left, lex_skip _ (h2 _), List.drop_succ_cons, List.drop_zero, hV]
      rfl
theorem strip_part {T U : List Tok} (h : T.map strip = U.map strip) : T.filterMap tpart = U.filterMap tpart := by
  have e : ∀ V : List Tok, V.filterMap tpart = (V.map strip).filterMap fun q => part q.1 q.2.1 q.2.2 := fun V => by
    rw [List.filterMap_map]; rfl
  rw [e T, e U, h]
/-- P7.4: tokens are read back from their text. -/
theorem lex_text {l : List UInt8} {x : Nat} {T : List Tok} (h : lex l x = .ok T) (y : Nat) : ∃ V, lex (textL T) y = .ok V ∧ V.map strip = T.map strip ∧ textL V = textL T ∧ (textL T).length ≤ 2 * l.length := by
  obtain ⟨U, e1, e2, e3⟩ := lex_good l x T h
  have ep : T.filterMap tpart = U.map fun t => (tpart t).getD [] := by
    rw [e1, List.filterMap_append, good_parts e2]
    simp [tpart_fin]
  obtain ⟨V, z, hV, hm⟩ := lex_back U e2 y
  have hst : (V ++ [fin z]).map strip = T.map strip := by rw [e1, List.map_append, List.map_append, hm]; rfl
  refine ⟨V ++ [fin z], by unfold textL; rw [ep]; exact hV, hst, by unfold textL; rw [strip_part hst], ?_⟩
  unfold textL
  rw [ep]
  have hj : ∀ W : List Tok, (Lib.join (W.map fun t => (tpart t).getD []) [32]).length ≤ (W.map fun t => ((tpart t).getD []).length + 1).sum := by
    intro W
    cases W with
    | nil => simp [Lib.join_nil]
    | cons t W =>
      rw [List.map_cons, Lib.join_length]
      have : ∀ W : List Tok, Lib.lens (W.map fun t => (tpart t).getD []) + W.length = (W.map fun t => ((tpart t).getD []).length + 1).sum := by
        intro W
        induction W with
        | nil => simp [Lib.lens]
        | cons t W ih => simp only [Lib.lens, List.map_cons, List.sum_cons, List.length_cons] at ih ⊢; omega
      have h1 := this (t :: W)
      simp only [List.map_cons, List.length_cons, List.length_nil, List.length_map] at h1 ⊢
      omega
  exact Nat.le_trans (hj U) e3
/-- The blanks at the beginning. -/
def blkF : Nat → List UInt8 → Nat
  | 0, _ => 0
  | f + 1, l =>
    match step l with
    | .skip n => n + blkF f (l.drop n)
    | _ => 0
def blk (l : List UInt8) : Nat := blkF (l.length + 1) l
theorem blkF_fuel : ∀ (f g : Nat) (l : List UInt8), l.length < f → l.length < g → blkF f l = blkF g l := by
  intro f
  induction f with
  | zero => intro g l h; omega
  | succ f ih =>
    intro g l hf hg
    cases g with
    | zero => omega
    | succ g =>
      simp only [blkF]
      have hp := step_len l
      cases h : step l with
      | bad e => rfl
      | tok k s v n => rfl
      | skip n =>
        rw [h] at hp
        have := hp rfl
        simp only [St.len] at this
        simp only
        rw [ih g _ (by rw [List.length_drop]; omega) (by rw [List.length_drop]; omega)]
theorem blk_skip {l : List UInt8} {n : Nat} (h : step l = .skip n) : blk l = n + blk (l.drop n) := by
  have hp := step_len l (by rw [h]; rfl)
  rw [h] at hp
  simp only [St.len] at hp
  unfold blk
  rw [blkF, h]
  simp only
  rw [blkF_fuel _ _ _ (by rw [List.length_drop]; omega : _ < l.length) (Nat.lt_succ_self _)]
theorem blk_stop {l : List UInt8} (h : ∀ n, step l ≠ .skip n) : blk l = 0 := by
  unfold blk
  rw [blkF]
  cases h1 : step l with
  | skip n => exact absurd h1 (h n)
  | bad e => rfl
  | tok k s v n => rfl
theorem lex_blk (l : List UInt8) (x : Nat) : lex l x = lex (l.drop (blk l)) (x + blk l) ∧ blk l ≤ l.length ∧ ∀ n, step (l.drop (blk l)) ≠ .skip n := by
  refine lex_ind (P := fun l x => lex l x = lex (l.drop (blk l)) (x + blk l) ∧ blk l ≤ l.length ∧ ∀ n, step (l.drop (blk l)) ≠ .skip n) (fun x => ?_) (fun l x n h h0 hn ih => ?_) (fun l x k s v n h h0 hn ih => ?_) (fun c r x e h => ?_) l x
  · have : blk [] = 0 := rfl
    rw [this]
    exact ⟨rfl, Nat.le_refl _, fun n h => by cases h⟩
  · rw [blk_skip h, lex_skip x h, ← List.drop_drop, ← Nat.add_assoc]
    rw [List.length_drop] at ih
    exact ⟨ih.1, by omega, ih.2.2⟩
  · have hb : blk l = 0 := blk_stop fun m hm => by rw [h] at hm; cases hm
    rw [hb, List.drop_zero]
    exact ⟨rfl, Nat.zero_le _, fun m hm => by rw [h] at hm; cases hm⟩
  · have hb : blk (c :: r) = 0 := blk_stop fun m hm => by rw [h] at hm; cases hm
    rw [hb, List.drop_zero]
    exact ⟨rfl, Nat.zero_le _, fun m hm => by rw [h] at hm; cases hm⟩
/-- P7.7: the first token of what is left, the bytes before it, and its own. -/
theorem lex_cover {l : List UInt8} {x : Nat} {T : List Tok} (h : lex l x = .ok T) : ∃ t U, T = t :: U ∧ t.a = x + blk l ∧ blk l ≤ l.length ∧
    ((t = fin (x + l.length) ∧ blk l = l.length ∧ U = []) ∨
      ∃ b, tpart t = some b ∧ b ≠ [] ∧ (l.drop (blk l)).take b.length = b ∧ blk l + b.length ≤ l.length ∧ lex (l.drop (blk l + b.length)) (x + blk l + b.length) = .ok U ∧ U ≠ []) := by
  obtain ⟨h1, h2, h3⟩ := lex_blk l x
  rw [h1] at h
  cases hd : l.drop (blk l) with
  | nil =>
    rw [hd, lex_nil] at h
    injection h with h
    have hlen : blk l = l.length := by
      have := congrArg List.length hd
      rw [List.length_drop] at this
      simp at this
      omega
    exact ⟨fin (x + blk l), [], h.symm, rfl, h2, .inl ⟨by rw [hlen], hlen, rfl⟩⟩
  | cons c r =>
    rw [hd] at h h3
    rcases step_cases (c :: r) with ⟨e, he⟩ | ⟨n, he, _⟩ | ⟨k, s, v, n, he, h0, hn⟩
    · rw [lex_bad _ he] at h; cases h
    · exact absurd he (h3 n)
    · rw [lex_tok _ he] at h
      obtain ⟨U, hU, rfl⟩ := app_ok h
      obtain ⟨V, hV⟩ := lex_last _ _ U hU
      have hl : ((c :: r).take n).length = n := by rw [List.length_take]; omega
      have hll : (c :: r).length = l.length - blk l := by rw [← hd, List.length_drop]
      refine ⟨⟨k, x + blk l, s, v⟩, U, rfl, rfl, h2, .inr ⟨(c :: r).take n, step_text he, ?_, ?_, ?_, ?_, ?_⟩⟩
      · intro hn'; rw [hn'] at hl; simp at hl; omega
      · rw [hl]
      · rw [hl]; omega
      · rw [hl, ← List.drop_drop, hd]; exact hU
      · rw [hV]; simp
end Go.Proofs.YtggjgikpiljoiaaDoor.Lx
