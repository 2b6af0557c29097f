/- What the reference's functions compute, as plain functions on lists of bytes; no Go is named here. -/
import Derived.Test.YtggjgikpiljoiaaDoorLM5
namespace Go.Proofs.YtggjgikpiljoiaaDoor.Lx

theorem tw_in (f : UInt8 → Bool) : ∀ (l : List UInt8) (k : Nat), k < (l.takeWhile f).length → ∃ d, l[k]? = some d ∧ f d = true
  | [], k, h => by simp at h
  | c :: r, k, h => by
    rw [List.takeWhile_cons] at h
    cases hc : f c
    · simp [hc] at h
    · simp only [hc, if_true, List.length_cons] at h
      cases k with
      | zero => exact ⟨c, rfl, hc⟩
      | succ k =>
        obtain ⟨d, h1, h2⟩ := tw_in f r k (by omega)
        exact ⟨d, by simpa using h1, h2⟩
theorem tw_out (f : UInt8 → Bool) : ∀ l : List UInt8, (l.takeWhile f).length = l.length ∨ ∃ d, l[(l.takeWhile f).length]? = some d ∧ f d = false
  | [] => .inl rfl
  | c :: r => by
    rw [List.takeWhile_cons]
    cases hc : f c
    · exact .inr ⟨c, by simp, hc⟩
    · simp only [if_true, List.length_cons]
      rcases tw_out f r with h | ⟨d, h1, h2⟩
      · exact .inl (by omega)
      · exact .inr ⟨d, by simpa using h1, h2⟩
theorem blk_nil : blk [] = 0 := rfl
theorem blk_bl {c : UInt8} {r : List UInt8} (h : bl c = true) : blk (c :: r) = 1 + blk r := by
  have h1 : step (c :: r) = .skip 1 := by simp [step, h]
  rw [blk_skip h1]; rfl
theorem blk_cmt {c : UInt8} {r : List UInt8} (h : c.toNat = 35) : blk (c :: r) = (cmt (c :: r)).length + blk ((c :: r).drop (cmt (c :: r)).length) := blk_skip (step_cmt h)
theorem step_noskip {c : UInt8} {r : List UInt8} (h : bl c = false) (h2 : c.toNat ≠ 35) (n : Nat) : step (c :: r) ≠ .skip n := by
  intro hq
  simp only [step, h, Bool.false_eq_true, if_false, h2] at hq
  split at hq
  · split at hq <;> cases hq
  · split at hq
    · split at hq <;> cases hq
    · split at hq
      · have key : ∀ (k : Nat) (l acc : List UInt8) (m : Nat), l.length ≤ k → txt l acc m ≠ .skip n := by
          intro k
          induction k with
          | zero =>
            intro l acc m hl hx
            obtain rfl := List.eq_nil_of_length_eq_zero (by omega : l.length = 0)
            cases hx
          | succ k ih =>
            intro l acc m hl hx
            cases l with
            | nil => cases hx
            | cons c r =>
              by_cases hq : c.toNat = 34
              · rw [txt_quote hq] at hx; cases hx
              · by_cases h0 : (chr (c :: r)).2 = 0
                · rw [txt_bad hq h0] at hx; cases hx
                · by_cases ha : acc.length = 200
                  · rw [txt_long hq h0 ha] at hx; cases hx
                  · rw [txt_next hq h0 ha] at hx
                    have h1 := chr_le c r
                    simp only [List.length_cons] at hl h1
                    exact ih _ _ _ (by simp only [List.length_drop, List.length_cons]; omega) hx
        exact key _ _ _ _ (Nat.le_refl _) hq
      · unfold sgn at hq
        split at hq
        · split at hq
          · cases hq
          · split at hq <;> cases hq
        · split at hq <;> cases hq
theorem blk_else {c : UInt8} {r : List UInt8} (h : bl c = false) (h2 : c.toNat ≠ 35) : blk (c :: r) = 0 := blk_stop (step_noskip h h2)
/-- The text of one token. -/
theorem textL_one (t : Tok) : textL [t] = (tpart t).getD [] := by
  unfold textL
  cases h : tpart t with
  | none => simp [h, Lib.join_nil]
  | some b => simp [h, Lib.join_one]
/-- What the walk over the tokens keeps: what is left of the source gives what is left of the tokens. -/
theorem cover_at {l : List UInt8} {T : List Tok} {k p : Nat} (hk : k < T.length) (h : lex (l.drop p) p = .ok (T.drop k)) (hp : p ≤ l.length) : ∃ t, T[k]? = some t ∧ t.a = p + blk (l.drop p) ∧
    t.a + (textL [t]).length ≤ l.length ∧ (l.drop t.a).take (textL [t]).length = textL [t] ∧
    ((k + 1 < T.length ∧ textL [t] ≠ [] ∧ lex (l.drop (t.a + (textL [t]).length)) (t.a + (textL [t]).length) = .ok (T.drop (k + 1))) ∨
      (k + 1 = T.length ∧ textL [t] = [] ∧ t.a = l.length)) := by
  obtain ⟨t, U, h1, h2, h3, h4⟩ := lex_cover h
  have ht : T[k]? = some t := by
    have := congrArg (·[0]?) h1
    simpa [List.getElem?_drop] using this
  have hl : (T.drop k).length = U.length + 1 := by rw [h1, List.length_cons]
  have hU : T.drop (k + 1) = U := by rw [← List.drop_drop, h1]; rfl
  rw [List.length_drop] at hl h3
  refine ⟨t, ht, h2, ?_⟩
  rcases h4 with ⟨e1, e2, e3⟩ | ⟨b, e1, e2, e3, e4, e5, e6⟩
  · rw [List.length_drop] at e1 e2
    have hb : textL [t] = [] := by rw [textL_one, e1]; rfl
    have ha : t.a = l.length := by omega
    subst e3
    rw [hb]
    refine ⟨by simp; omega, by simp, .inr ⟨by simp at hl; omega, rfl, ha⟩⟩
  · have hb : textL [t] = b := by rw [textL_one, e1]; rfl
    have hd : ∀ n, (l.drop p).drop (blk (l.drop p) + n) = l.drop (t.a + n) := fun n => by rw [List.drop_drop, h2, Nat.add_assoc]
    rw [List.length_drop] at e4
    have hul : 0 < U.length := List.length_pos_iff.2 e6
    rw [hb]
    refine ⟨by omega, ?_, .inl ⟨by omega, e2, ?_⟩⟩
    · rw [h2, ← List.drop_drop]; exact e3
    · rw [hU, ← hd, h2, Nat.add_assoc]
      rw [Nat.add_assoc] at e5
      exact e5
end Go.Proofs.YtggjgikpiljoiaaDoor.Lx
