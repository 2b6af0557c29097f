/- Where the runes of a source end, and where what is read ends; only the model's decoding of runes is named here. -/
import Derived.Test.YtggjgikpiljoiaaDoorLM3
import Derived.Laws.RangeString
namespace Go.Proofs.YtggjgikpiljoiaaDoor.Lx

def bytes (l : List UInt8) : ByteArray := ⟨l.toArray⟩
theorem bytes_get (l : List UInt8) (k : Nat) : (bytes l).get! k = l[k]?.getD 0 := by
  show (bytes l).data[k]! = _
  simp [bytes, getElem!_def]
  cases l[k]? <;> rfl
/-- The bytes of a rune behind its first one are no ASCII, and neither is the first one, if there are more. -/
theorem width (s : ByteArray) (i : Nat) : 1 ≤ (Utf8.decode s i).2 ∧ (∀ k, 0 < k → k < (Utf8.decode s i).2 → i + k < s.size ∧ 128 ≤ (s.get! (i + k)).toNat) ∧ (1 < (Utf8.decode s i).2 → 128 ≤ (s.get! (i + 0)).toNat) := by
  unfold Utf8.decode
  simp only
  by_cases h0 : (s.get! (i + 0)).toNat < 0x80
  · rw [if_pos h0]; exact ⟨by simp, fun k h1 h2 => by simp at h2; omega, fun h => by simp at h⟩
  · rw [if_neg h0]
    have hc : ∀ k, (decide (i + k < s.size) && (s.get! (i + k)).toNat / 64 == 2) = true → i + k < s.size ∧ 128 ≤ (s.get! (i + k)).toNat := fun k h => by
      simp only [Bool.and_eq_true, decide_eq_true_eq, beq_iff_eq] at h
      omega
    have one : ∀ a : Nat, 1 ≤ ((a, 1) : Nat × Nat).2 ∧ (∀ k, 0 < k → k < ((a, 1) : Nat × Nat).2 → i + k < s.size ∧ 128 ≤ (s.get! (i + k)).toNat) ∧ (1 < ((a, 1) : Nat × Nat).2 → 128 ≤ (s.get! (i + 0)).toNat) :=
      fun a => ⟨by simp, fun k h1 h2 => by simp at h2; omega, fun h => by simp at h⟩
    split
    · rename_i h1
      simp only [Bool.and_eq_true] at h1
      split
      · refine ⟨by simp, fun k h2 h3 => ?_, fun _ => by omega⟩
        obtain rfl : k = 1 := by simp at h3; omega
        exact hc 1 (by simp only [Bool.and_eq_true]; exact h1.2)
      · exact one _
    · split
      · rename_i h1
        simp only [Bool.and_eq_true] at h1
        split
        · refine ⟨by simp, fun k h2 h3 => ?_, fun _ => by omega⟩
          obtain rfl | rfl : k = 1 ∨ k = 2 := by simp at h3; omega
          · exact hc 1 (by simp only [Bool.and_eq_true]; exact h1.1.2)
          · exact hc 2 (by simp only [Bool.and_eq_true]; exact h1.2)
        · exact one _
      · split
        · rename_i h1
          simp only [Bool.and_eq_true] at h1
          split
          · refine ⟨by simp, fun k h2 h3 => ?_, fun _ => by omega⟩
            obtain rfl | rfl | rfl : k = 1 ∨ k = 2 ∨ k = 3 := by simp at h3; omega
            · exact hc 1 (by simp only [Bool.and_eq_true]; exact h1.1.1.2)
            · exact hc 2 (by simp only [Bool.and_eq_true]; exact h1.1.2)
            · exact hc 3 (by simp only [Bool.and_eq_true]; exact h1.2)
          · exact one _
        · exact one _
/-- Places at which no rune begins before and ends behind. -/
def Bnd (l : List UInt8) (b : Nat) : Prop := b = l.length ∨ (∃ d, l[b]? = some d ∧ d.toNat < 128) ∨ (0 < b ∧ ∃ d, l[b - 1]? = some d ∧ d.toNat < 128)
theorem rune_in {l : List UInt8} {pos b : Nat} (_hb : b ≤ l.length) (hlt : pos < b) (h : Bnd l b) : 1 ≤ (Utf8.decode (bytes l) pos).2 ∧ pos + (Utf8.decode (bytes l) pos).2 ≤ b := by
  obtain ⟨h1, h2, h3⟩ := width (bytes l) pos
  have hs : (bytes l).size = l.length := by simp [bytes, ByteArray.size]
  refine ⟨h1, ?_⟩
  rcases Nat.lt_or_ge b (pos + (Utf8.decode (bytes l) pos).2) with h4 | h4
  · exfalso
    have h5 := h2 (b - pos) (by omega) (by omega)
    rw [show pos + (b - pos) = b by omega, hs, bytes_get] at h5
    rcases h with h | ⟨d, hd, hd'⟩ | ⟨_, d, hd, hd'⟩
    · omega
    · rw [hd] at h5; simp at h5; omega
    · rcases Nat.eq_or_lt_of_le (show pos ≤ b - 1 by omega) with h6 | h6
      · have h7 := h3 (by omega)
        rw [Nat.add_zero, bytes_get, h6, hd] at h7
        simp at h7; omega
      · have h7 := (h2 (b - 1 - pos) (by omega) (by omega)).2
        rw [show pos + (b - 1 - pos) = b - 1 by omega, bytes_get, hd] at h7
        simp at h7; omega
  · exact h4
theorem wd_ascii {d : UInt8} (h : wd d = true) : d.toNat < 128 := by
  simp only [wd, dg, lt, Bool.or_eq_true, decide_eq_true_eq] at h; omega
theorem tw_last (f : UInt8 → Bool) : ∀ l : List UInt8, 0 < (l.takeWhile f).length → ∃ d, l[(l.takeWhile f).length - 1]? = some d ∧ f d = true
  | [], h => by simp at h
  | c :: r, h => by
    rw [List.takeWhile_cons] at h ⊢
    cases hc : f c
    · simp [hc] at h
    · simp only [if_true, List.length_cons, Nat.add_sub_cancel]
      cases hr : (r.takeWhile f).length with
      | zero => exact ⟨c, rfl, hc⟩
      | succ k =>
        obtain ⟨d, h1, h2⟩ := tw_last f r (by omega)
        rw [hr, Nat.add_sub_cancel] at h1
        exact ⟨d, by rw [List.getElem?_cons_succ]; exact h1, h2⟩
/-- What is read ends where a rune begins. -/
theorem step_bnd {l : List UInt8} (h : (step l).fine = true) : Bnd l (step l).len := by
  have hl := step_len l h
  cases l with
  | nil => cases h
  | cons c r =>
    by_cases h2 : c.toNat = 35
    · rw [step_cmt h2]
      have hp : (cmt (c :: r)).length ≤ (c :: r).length := tw_le nlf (c :: r)
      rcases Nat.eq_or_lt_of_le hp with h3 | h3
      · exact .inl h3
      · refine .inr (.inl ?_)
        have e := tw_take nlf (c :: r)
        have hsplit : c :: r = cmt (c :: r) ++ (c :: r).drop (cmt (c :: r)).length := by
          have := (List.take_append_drop (cmt (c :: r)).length (c :: r)).symm
          rw [show (c :: r).take (cmt (c :: r)).length = cmt (c :: r) from e] at this
          exact this
        obtain ⟨d, q, hd⟩ : ∃ d q, (c :: r).drop (cmt (c :: r)).length = d :: q := by
          cases hq : (c :: r).drop (cmt (c :: r)).length with
          | nil => have := congrArg List.length hq; rw [List.length_drop] at this; simp only [List.length_nil] at this; omega
          | cons d q => exact ⟨d, q, rfl⟩
        rcases cmt_ends (d :: q) (cmt (c :: r)) (by rw [← hd, ← hsplit]) with h4 | h4
        · cases h4
        · refine ⟨d, ?_, ?_⟩
          · have := congrArg (·[0]?) hd
            simpa [St.len] using this
          · simp only [List.headD_cons] at h4; omega
    · refine .inr (.inr ⟨hl.1, ?_⟩)
      simp only [step] at h hl ⊢
      by_cases h1 : bl c = true
      · simp only [h1, if_true, St.len]
        refine ⟨c, rfl, ?_⟩
        simp only [bl, decide_eq_true_eq] at h1; omega
      · simp only [h1, Bool.false_eq_true, if_false, h2] at h hl ⊢
        by_cases h3 : lt c = true
        · simp only [h3, if_true] at h hl ⊢
          split
          · rename_i h4; simp [h4, St.fine] at h
          · obtain ⟨d, hd, hw⟩ := tw_last wd (c :: r) (word_pos (lt_wd h3))
            exact ⟨d, hd, wd_ascii hw⟩
        · simp only [h3, Bool.false_eq_true, if_false] at h hl ⊢
          by_cases h4 : dg c = true
          · simp only [h4, if_true] at h hl ⊢
            split
            · obtain ⟨d, hd, hw⟩ := tw_last wd (c :: r) (word_pos (dg_wd h4))
              exact ⟨d, hd, wd_ascii hw⟩
            · rename_i h5; simp [h5, St.fine] at h
          · simp only [h4, Bool.false_eq_true, if_false] at h hl ⊢
            by_cases h5 : c.toNat = 34
            · simp only [h5, if_true] at h hl ⊢
              cases ht : txt r [] 1 with
              | bad e => rw [ht] at h; cases h
              | skip n =>
                have : ∀ (k : Nat) (l acc : List UInt8) (m : Nat), l.length ≤ k → txt l acc m ≠ .skip n := by
                  intro k
                  induction k with
                  | zero =>
                    intro l acc m hl h
                    obtain rfl := List.eq_nil_of_length_eq_zero (by omega : l.length = 0)
                    cases h
                  | succ k ih =>
                    intro l acc m hl h
                    cases l with
                    | nil => cases h
                    | cons c r =>
                      by_cases hq : c.toNat = 34
                      · rw [txt_quote hq] at h; cases h
                      · by_cases h0 : (chr (c :: r)).2 = 0
                        · rw [txt_bad hq h0] at h; cases h
                        · by_cases ha : acc.length = 200
                          · rw [txt_long hq h0 ha] at h; cases h
                          · rw [txt_next hq h0 ha] at h
                            simp only [List.length_cons] at hl
                            exact ih _ _ _ (by simp only [List.length_drop, List.length_cons]; omega) h
                exact absurd ht (this _ _ _ _ (Nat.le_refl _))
              | tok k s v n =>
                obtain ⟨e1, e2, t, e3, e4, e5⟩ := txt_text _ _ _ _ (Nat.le_refl _) _ _ _ _ ht
                rw [ht] at hl
                simp only [St.len] at hl ⊢
                refine ⟨34, ?_, by decide⟩
                have hlen := congrArg List.length e4
                simp only [List.length_take, List.length_append, List.length_cons, List.length_nil] at hlen hl
                obtain ⟨m, rfl⟩ : ∃ m, n = m + 2 := ⟨n - 2, by omega⟩
                rw [show m + 2 - 1 = m + 1 by omega, List.getElem?_cons_succ]
                rw [show m + 2 - 1 = m + 1 by omega] at e4 hlen
                have h6 : (r.take (m + 1))[m]? = r[m]? := by rw [List.getElem?_take]; simp
                rw [← h6, e4, List.getElem?_append_right (by omega), show m - (t.flatMap esc).length = 0 by omega]
                rfl
            · simp only [h5, if_false] at h hl ⊢
              cases r with
              | nil =>
                simp only [sgn] at h ⊢
                split
                · rename_i h6; refine ⟨c, rfl, ?_⟩; simp only [one, decide_eq_true_eq] at h6; omega
                · rename_i h6; simp [h6, St.fine] at h
              | cons d r =>
                simp only [sgn] at h ⊢
                split
                · rename_i h6; refine ⟨d, rfl, ?_⟩; simp only [two, decide_eq_true_eq] at h6; omega
                · rename_i h6
                  split
                  · rename_i h7; refine ⟨c, rfl, ?_⟩; simp only [one, decide_eq_true_eq] at h7; omega
                  · rename_i h7; simp [h6, h7, St.fine] at h
theorem bnd_add {l : List UInt8} {p n : Nat} (h : Bnd (l.drop p) n) (hp : p ≤ l.length) : Bnd l (p + n) := by
  rcases h with h | ⟨d, hd, h⟩ | ⟨h0, d, hd, h⟩
  · rw [List.length_drop] at h; exact .inl (by omega)
  · rw [List.getElem?_drop] at hd; exact .inr (.inl ⟨d, hd, h⟩)
  · rw [List.getElem?_drop, show p + (n - 1) = p + n - 1 by omega] at hd; exact .inr (.inr ⟨by omega, d, hd, h⟩)
end Go.Proofs.YtggjgikpiljoiaaDoor.Lx
