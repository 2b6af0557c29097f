/- How long the strings of tokens are, how large their numbers, and how many they are; no Go is named here. -/
import Derived.Test.YtggjgikpiljoiaaDoorLM3
namespace Go.Proofs.YtggjgikpiljoiaaDoor.Lx

theorem esc_flat (t : List UInt8) : t.length ≤ (t.flatMap esc).length := by
  induction t with
  | nil => simp
  | cons c r ih =>
    rw [List.flatMap_cons, List.length_append, List.length_cons]
    have : 1 ≤ (esc c).length := by unfold esc; split <;> (try split) <;> simp
    omega
theorem step_small {l s : List UInt8} {k v n : Nat} (h : step l = .tok k s v n) (hn : n ≤ l.length) : s.length ≤ l.length ∧ v < 1000000000000000 := by
  obtain ⟨c, r, rfl⟩ := ne_cons h rfl
  simp only [step] at h
  by_cases h1 : bl c = true
  · simp [h1] at h
  · simp only [h1, Bool.false_eq_true, if_false] at h
    by_cases h2 : c.toNat = 35
    · simp [h2] at h
    · simp only [h2, if_false] at h
      by_cases h3 : lt c = true
      · simp only [h3, if_true] at h
        split at h
        · cases h
        · injection h with e1 e2 e3 e4
          subst e1 e2 e3 e4
          exact ⟨hn, by decide⟩
      · simp only [h3, Bool.false_eq_true, if_false] at h
        by_cases h4 : dg c = true
        · simp only [h4, if_true] at h
          split at h
          · rename_i h5
            injection h with e1 e2 e3 e4
            subst e1 e2 e3 e4
            exact ⟨by simp, numV_lt h5⟩
          · cases h
        · simp only [h4, Bool.false_eq_true, if_false] at h
          by_cases h5 : c.toNat = 34
          · simp only [h5, if_true] at h
            obtain ⟨e1, e2, t, e3, e4, e5⟩ := txt_text _ _ _ _ (Nat.le_refl _) _ _ _ _ h
            subst e1 e2
            rw [List.nil_append] at e3
            subst e3
            have e6 := congrArg List.length e4
            rw [List.length_take, List.length_append] at e6
            have e7 := esc_flat s
            rw [List.length_cons]
            exact ⟨by omega, by decide⟩
          · simp only [h5, if_false] at h
            cases r with
            | nil =>
              simp only [sgn] at h
              split at h
              · injection h with e1 e2 e3 e4
                subst e1 e2 e3 e4
                exact ⟨by simp, by decide⟩
              · cases h
            | cons d r =>
              simp only [sgn] at h
              split at h
              · injection h with e1 e2 e3 e4
                subst e1 e2 e3 e4
                exact ⟨by simp, by decide⟩
              · split at h
                · injection h with e1 e2 e3 e4
                  subst e1 e2 e3 e4
                  exact ⟨by simp, by decide⟩
                · cases h
theorem lex_small (l : List UInt8) (x : Nat) : ∀ T, lex l x = .ok T → T.length ≤ l.length + 1 ∧ ∀ t ∈ T, t.s.length ≤ l.length ∧ t.v < 1000000000000000 := by
  refine lex_ind (P := fun l x => ∀ T, lex l x = .ok T → T.length ≤ l.length + 1 ∧ ∀ t ∈ T, t.s.length ≤ l.length ∧ t.v < 1000000000000000) (fun x T h => ?_) (fun l x n h _ hn ih T hT => ?_) (fun l x k s v n h h0 hn ih T hT => ?_) (fun c r x e h T hT => ?_) l x
  · rw [lex_nil] at h
    injection h with h
    subst h
    exact ⟨by simp, fun t ht => by rw [List.mem_singleton] at ht; subst ht; exact ⟨by simp [fin], by simp [fin]⟩⟩
  · rw [lex_skip x h] at hT
    obtain ⟨h1, h2⟩ := ih T hT
    rw [List.length_drop] at h1 h2
    exact ⟨by omega, fun t ht => ⟨by have := (h2 t ht).1; omega, (h2 t ht).2⟩⟩
  · rw [lex_tok x h] at hT
    obtain ⟨V, hV, rfl⟩ := app_ok hT
    obtain ⟨h1, h2⟩ := ih V hV
    rw [List.length_drop] at h1 h2
    have h3 := step_small h hn
    refine ⟨by rw [List.length_append, List.length_singleton]; omega, fun t ht => ?_⟩
    rw [List.mem_append, List.mem_singleton] at ht
    rcases ht with rfl | ht
    · exact h3
    · exact ⟨by have := (h2 t ht).1; omega, (h2 t ht).2⟩
  · rw [lex_bad x h] at hT; cases hT
end Go.Proofs.YtggjgikpiljoiaaDoor.Lx
