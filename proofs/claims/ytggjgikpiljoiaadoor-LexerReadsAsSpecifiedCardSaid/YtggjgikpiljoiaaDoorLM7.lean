/- Blanks and comments that are put in before a token; no Go is named here. -/
import Derived.Test.YtggjgikpiljoiaaDoorLM6
namespace Go.Proofs.YtggjgikpiljoiaaDoor.Lx

/-- Bytes that are blanks, whatever follows them. -/
def Bls (bs : List UInt8) : Prop := bs ≠ [] ∧ sep (bs.headD 0) = true ∧ ∀ (r : List UInt8) (x : Nat), lex (bs ++ r) x = lex r (x + bs.length)
theorem lex_bl {c : UInt8} (h : bl c = true) (r : List UInt8) (x : Nat) : lex (c :: r) x = lex r (x + 1) := by
  have h1 : step (c :: r) = .skip 1 := by simp [step, h]
  rw [lex_skip x h1]; rfl
theorem bls_32 : Bls [32] := ⟨by simp, by decide, fun r x => lex_bl (by decide) r x⟩
theorem bls_9 : Bls [9, 13] := ⟨by simp, by decide, fun r x => by
  show lex (9 :: 13 :: r) x = _
  rw [lex_bl (by decide), lex_bl (by decide)]; rfl⟩
theorem bls_10 : Bls [10] := ⟨by simp, by decide, fun r x => lex_bl (by decide) r x⟩
theorem bls_cmt {u : List UInt8} (h : ∀ c ∈ u, c.toNat ≠ 10) : Bls (35 :: (u ++ [10])) := by
  have hc : ∀ r : List UInt8, cmt (35 :: (u ++ 10 :: r)) = 35 :: u := fun r => by
    have hu : ∀ u : List UInt8, (∀ c ∈ u, c.toNat ≠ 10) → (u ++ 10 :: r).takeWhile nlf = u := by
      intro u
      induction u with
      | nil => intro _; rfl
      | cons c u ih =>
        intro hu
        rw [List.cons_append, List.takeWhile_cons, if_pos (by simpa [nlf] using hu c (List.mem_cons_self ..)), ih fun d hd => hu d (List.mem_cons_of_mem _ hd)]
    unfold cmt
    rw [List.takeWhile_cons, if_pos (by decide), hu u h]
  refine ⟨by simp, by simp [sep], fun r x => ?_⟩
  have e : 35 :: (u ++ [10]) ++ r = 35 :: (u ++ 10 :: r) := by simp
  have hs := step_cmt (c := 35) (r := u ++ 10 :: r) rfl
  rw [hc] at hs
  rw [e, lex_skip x hs]
  have hd : (35 :: (u ++ 10 :: r)).drop (35 :: u).length = 10 :: r := by
    rw [← List.cons_append, List.drop_left]
  rw [hd, lex_bl (by decide)]
  congr 1
  simp only [List.length_cons, List.length_append, List.length_nil]
  omega
theorem strip_shift (T : List Tok) (d : Nat) : (T.map fun t => (⟨t.k, t.a + d, t.s, t.v⟩ : Tok)).map strip = T.map strip := by
  rw [List.map_map]; rfl
theorem lex_ins {l bs : List UInt8} {T : List Tok} {i : Nat} {t : Tok} (h : lex l 0 = .ok T) (hi : T[i]? = some t) (hb : Bls bs) : t.a ≤ l.length ∧
    ∃ V, lex ((if t.a = l.length then l ++ [10] else l.take t.a) ++ bs ++ l.drop t.a) 0 = .ok V ∧ V.map strip = T.map strip := by
  obtain ⟨p, r, e1, e2, e3, e4, e5⟩ := lex_pre l 0 T i t h hi
  rw [Nat.zero_add] at e2
  have hll : l.length = p.length + r.length := by rw [e1, List.length_append]
  refine ⟨by omega, ?_⟩
  have hd : l.drop t.a = r := by rw [e1, e2, List.drop_left]
  have ht : l.take t.a = p := by rw [e1, e2, List.take_left]
  rw [hd, ht]
  have fin : ∀ (m : List UInt8) (n : Nat), (∀ x, lex m x = lex r (x + n)) → lex m (0 + p.length) = (Rs.ok (T.drop i)).shift n := fun m n hm => by
    rw [hm, Nat.zero_add, lex_shift, ← e2, e3]
  have two : ∀ (m : List UInt8) (n : Nat), (m = [] ∨ sep (m.headD 0) = true) → (m = [] ∨ (m.headD 0).toNat = 10 ∨ i + 1 < T.length) → (∀ x, lex m x = lex r (x + n)) → ∃ V, lex (p ++ m) 0 = .ok V ∧ V.map strip = T.map strip := fun m n h1 h2 h3 => by
    refine ⟨T.take i ++ (T.drop i).map fun t => ⟨t.k, t.a + n, t.s, t.v⟩, by rw [e5 m h1 h2, fin m n h3]; rfl, ?_⟩
    rw [List.map_append, strip_shift, ← List.map_append, List.take_append_drop]
  obtain ⟨b0, b1, b2⟩ := hb
  have hhd : ∀ q : List UInt8, (bs ++ q).headD 0 = bs.headD 0 := fun q => by
    cases bs with
    | nil => exact absurd rfl b0
    | cons c u => rfl
  by_cases hl : t.a = l.length
  · rw [if_pos hl]
    have hr : r = [] := List.eq_nil_of_length_eq_zero (by omega)
    have hp : l = p := by rw [e1, hr, List.append_nil]
    have key := two (10 :: (bs ++ r)) (1 + bs.length) (.inr (by simp [sep])) (.inr (.inl (by simp))) (fun x => by rw [lex_bl (by decide), b2, Nat.add_assoc])
    rw [hp]
    have e : p ++ [10] ++ bs ++ r = p ++ 10 :: (bs ++ r) := by simp
    rw [e]; exact key
  · rw [if_neg hl]
    obtain ⟨U, hU⟩ := lex_last l 0 T h
    have hlt : i + 1 < T.length := by
      rcases Nat.lt_or_ge (i + 1) T.length with h1 | h1
      · exact h1
      · exfalso
        have hi2 := (List.getElem?_eq_some_iff.1 hi).1
        rw [hU] at hi hi2 h1
        rw [List.length_append, List.length_singleton] at hi2 h1
        rw [List.getElem?_append_right (by omega), show i - U.length = 0 by omega] at hi
        simp only [List.getElem?_cons_zero, Option.some.injEq] at hi
        rw [← hi] at hl
        exact hl (by simp [Lx.fin])
    rw [List.append_assoc]
    exact two (bs ++ r) bs.length (.inr (by rw [hhd]; exact b1)) (.inr (.inr hlt)) (fun x => b2 r x)
end Go.Proofs.YtggjgikpiljoiaaDoor.Lx
