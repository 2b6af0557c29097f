/- All tokens of a source, and what a change of the source does to them; no program is named here. -/
import Derived.Test.YtggjgikpiljoiaaDoorLMath
namespace Go.Proofs.YtggjgikpiljoiaaDoor.Lx

structure Tok where
  k : Nat
  a : Nat
  s : List UInt8
  v : Nat
inductive Rs where
  | ok (l : List Tok)
  | bad (x e : Nat)
def Rs.app (t : List Tok) : Rs → Rs
  | .ok l => .ok (t ++ l)
  | .bad x e => .bad x e
def Rs.shift (d : Nat) : Rs → Rs
  | .ok l => .ok (l.map fun t => ⟨t.k, t.a + d, t.s, t.v⟩)
  | .bad x e => .bad (x + d) e
def fin (x : Nat) : Tok := ⟨5, x, [], 0⟩
/-- The tokens of bytes that begin at x. -/
def lexF : Nat → List UInt8 → Nat → Rs
  | 0, _, x => .ok [fin x]
  | _ + 1, [], x => .ok [fin x]
  | f + 1, c :: r, x =>
    match step (c :: r) with
    | .skip n => lexF f ((c :: r).drop n) (x + n)
    | .tok k s v n => (lexF f ((c :: r).drop n) (x + n)).app [⟨k, x, s, v⟩]
    | .bad e => .bad x e
def lex (l : List UInt8) (x : Nat) : Rs := lexF (l.length + 1) l x
theorem app_nil (q : Rs) : q.app [] = q := by cases q <;> rfl
theorem app_app (t u : List Tok) (q : Rs) : (q.app u).app t = q.app (t ++ u) := by cases q <;> simp [Rs.app]
theorem app_ok {t T : List Tok} {q : Rs} (h : q.app t = .ok T) : ∃ U, q = .ok U ∧ T = t ++ U := by
  cases q with
  | ok U => exact ⟨U, rfl, by injection h with h; exact h.symm⟩
  | bad x e => cases h
theorem app_bad {t : List Tok} {x e : Nat} {q : Rs} (h : q.app t = .bad x e) : q = .bad x e := by
  cases q with
  | ok U => cases h
  | bad y e' => exact h
theorem lexF_fuel : ∀ (f g : Nat) (l : List UInt8) (x : Nat), l.length < f → l.length < g → lexF f l x = lexF g l x := by
  intro f
  induction f with
  | zero => intro g l x h; omega
  | succ f ih =>
    intro g l x hf hg
    cases g with
    | zero => omega
    | succ g =>
      cases l with
      | nil => rfl
      | cons c r =>
        have hp := step_len (c :: r)
        simp only [List.length_cons] at hf hg hp
        simp only [lexF]
        cases h : step (c :: r) with
        | bad e => rfl
        | skip n =>
          rw [h] at hp
          have := hp rfl
          simp only [St.len] at this
          exact ih g _ _ (by simp only [List.length_drop, List.length_cons]; omega) (by simp only [List.length_drop, List.length_cons]; omega)
        | tok k s v n =>
          rw [h] at hp
          have := hp rfl
          simp only [St.len] at this
          simp only
          rw [ih g _ _ (by simp only [List.length_drop, List.length_cons]; omega) (by simp only [List.length_drop, List.length_cons]; omega)]
theorem lex_nil (x : Nat) : lex [] x = .ok [fin x] := rfl
theorem ne_cons {l : List UInt8} {q : St} (h : step l = q) (hq : q.fine = true) : ∃ c r, l = c :: r := by
  cases l with
  | nil => subst h; cases hq
  | cons c r => exact ⟨c, r, rfl⟩
theorem lex_skip {l : List UInt8} {n : Nat} (x : Nat) (h : step l = .skip n) : lex l x = lex (l.drop n) (x + n) := by
  obtain ⟨c, r, rfl⟩ := ne_cons h rfl
  have hp := step_len (c :: r) (by rw [h]; rfl)
  rw [h] at hp
  simp only [St.len, List.length_cons] at hp
  unfold lex
  rw [List.length_cons, lexF, h]
  exact lexF_fuel _ _ _ _ (by simp only [List.length_drop, List.length_cons]; omega) (by simp only [List.length_drop, List.length_cons]; omega)
theorem lex_tok {l s : List UInt8} {k v n : Nat} (x : Nat) (h : step l = .tok k s v n) : lex l x = (lex (l.drop n) (x + n)).app [⟨k, x, s, v⟩] := by
  obtain ⟨c, r, rfl⟩ := ne_cons h rfl
  have hp := step_len (c :: r) (by rw [h]; rfl)
  rw [h] at hp
  simp only [St.len, List.length_cons] at hp
  unfold lex
  rw [List.length_cons, lexF, h]
  simp only
  rw [lexF_fuel _ _ _ _ (by simp only [List.length_drop, List.length_cons]; omega : _ < r.length + 1) (Nat.lt_succ_self _)]
theorem lex_bad {c : UInt8} {r : List UInt8} {e : Nat} (x : Nat) (h : step (c :: r) = .bad e) : lex (c :: r) x = .bad x e := by
  unfold lex
  rw [List.length_cons, lexF, h]
/-- A step at the beginning of what is left. -/
theorem step_cases (l : List UInt8) : (∃ e, step l = .bad e) ∨ (∃ n, step l = .skip n ∧ 0 < n ∧ n ≤ l.length) ∨ ∃ k s v n, step l = .tok k s v n ∧ 0 < n ∧ n ≤ l.length := by
  have hp := step_len l
  cases h : step l with
  | bad e => exact .inl ⟨e, rfl⟩
  | skip n => rw [h] at hp; exact .inr (.inl ⟨n, rfl, hp rfl⟩)
  | tok k s v n => rw [h] at hp; exact .inr (.inr ⟨k, s, v, n, rfl, hp rfl⟩)
/-- Induction over the steps of a source. -/
theorem lex_ind {P : List UInt8 → Nat → Prop} (h0 : ∀ x, P [] x) (h1 : ∀ l x n, step l = .skip n → 0 < n → n ≤ l.length → P (l.drop n) (x + n) → P l x)
    (h2 : ∀ l x k s v n, step l = .tok k s v n → 0 < n → n ≤ l.length → P (l.drop n) (x + n) → P l x) (h3 : ∀ c r x e, step (c :: r) = .bad e → P (c :: r) x) : ∀ l x, P l x := by
  have : ∀ (k : Nat) (l : List UInt8) (x : Nat), l.length ≤ k → P l x := by
    intro k
    induction k with
    | zero =>
      intro l x hl
      obtain rfl := List.eq_nil_of_length_eq_zero (by omega : l.length = 0)
      exact h0 x
    | succ k ih =>
      intro l x hl
      cases l with
      | nil => exact h0 x
      | cons c r =>
        rcases step_cases (c :: r) with ⟨e, h⟩ | ⟨n, h, ha, hb⟩ | ⟨k', s, v, n, h, ha, hb⟩
        · exact h3 c r x e h
        · exact h1 _ x n h ha hb (ih _ _ (by rw [List.length_drop]; omega))
        · exact h2 _ x k' s v n h ha hb (ih _ _ (by rw [List.length_drop]; omega))
  exact fun l x => this l.length l x (Nat.le_refl _)
theorem lex_shift (d : Nat) (l : List UInt8) (x : Nat) : lex l (x + d) = (lex l x).shift d := by
  refine lex_ind (P := fun l x => lex l (x + d) = (lex l x).shift d) (fun x => rfl) (fun l x n h _ _ ih => ?_) (fun l x k s v n h _ _ ih => ?_) (fun c r x e h => ?_) l x
  · rw [lex_skip _ h, lex_skip x h, ← ih]; congr 1; omega
  · rw [lex_tok _ h, lex_tok x h, show x + d + n = x + n + d by omega, ih]
    cases lex (l.drop n) (x + n) <;> rfl
  · rw [lex_bad _ h, lex_bad x h]; rfl
/-- The last token is the end. -/
theorem lex_last (l : List UInt8) (x : Nat) : ∀ T, lex l x = .ok T → ∃ U, T = U ++ [fin (x + l.length)] := by
  refine lex_ind (P := fun l x => ∀ T, lex l x = .ok T → ∃ U, T = U ++ [fin (x + l.length)]) (fun x T h => ?_) (fun l x n h _ hn ih T hT => ?_) (fun l x k s v n h _ hn ih T hT => ?_) (fun c r x e h T hT => ?_) l x
  · rw [lex_nil] at h; injection h with h; exact ⟨[], h.symm⟩
  · rw [lex_skip x h] at hT
    obtain ⟨U, hU⟩ := ih T hT
    exact ⟨U, by rw [hU, List.length_drop]; congr 2; congr 1; omega⟩
  · rw [lex_tok x h] at hT
    obtain ⟨V, hV, rfl⟩ := app_ok hT
    obtain ⟨U, hU⟩ := ih V hV
    exact ⟨_ :: U, by rw [hU, List.length_drop]; simp only [List.cons_append, List.nil_append]; congr 3; congr 1; omega⟩
  · rw [lex_bad x h] at hT; cases hT
/-- P7.5, two sources: with a line feed between them. -/
theorem lex_join (b : List UInt8) (l : List UInt8) (x : Nat) : lex (l ++ 10 :: b) x = match lex l x with
    | .ok T => (lex b (x + l.length + 1)).app T.dropLast
    | .bad y e => .bad y e := by
  refine lex_ind (P := fun l x => lex (l ++ 10 :: b) x = match lex l x with
    | .ok T => (lex b (x + l.length + 1)).app T.dropLast
    | .bad y e => .bad y e) (fun x => ?_) (fun l x n h _ hn ih => ?_) (fun l x k s v n h _ hn ih => ?_) (fun c r x e h => ?_) l x
  · have h : step (10 :: b) = .skip 1 := by simp [step, bl]
    rw [List.nil_append, lex_skip x h, lex_nil]
    simp only [List.drop_succ_cons, List.drop_zero, List.dropLast_singleton, app_nil, List.length_nil, Nat.add_zero]
  · obtain ⟨c, r, rfl⟩ := ne_cons h rfl
    have e := step_end c r b
    rw [List.cons_append, lex_skip x (by rw [e]; exact h), lex_skip x h, ← List.cons_append, List.drop_append_of_le_length hn, ih, List.length_drop, show x + n + ((c :: r).length - n) + 1 = x + (c :: r).length + 1 by omega]
  · obtain ⟨c, r, rfl⟩ := ne_cons h rfl
    have e := step_end c r b
    rw [List.cons_append, lex_tok x (by rw [e]; exact h), lex_tok x h, ← List.cons_append, List.drop_append_of_le_length hn, ih, List.length_drop, show x + n + ((c :: r).length - n) + 1 = x + (c :: r).length + 1 by omega]
    cases hT : lex ((c :: r).drop n) (x + n) with
    | bad y e => rfl
    | ok T =>
      obtain ⟨U, hU⟩ := lex_last _ _ T hT
      show ((lex b (x + (c :: r).length + 1)).app T.dropLast).app _ = (lex b (x + (c :: r).length + 1)).app _
      rw [app_app, hU, ← List.append_assoc, List.dropLast_concat, List.dropLast_concat]
  · rw [List.cons_append, lex_bad x (by rw [step_end]; exact h), lex_bad x h]
theorem cmt_ends (r : List UInt8) : ∀ p : List UInt8, (cmt (p ++ r)).length = p.length → r = [] ∨ (r.headD 0).toNat = 10
  | [], h => by
    cases r with
    | nil => exact .inl rfl
    | cons d r =>
      refine .inr ?_
      simp only [cmt, List.nil_append, List.takeWhile_cons] at h
      cases hd : nlf d
      · simpa [nlf] using hd
      · simp [hd] at h
  | c :: p, h => by
    simp only [cmt, List.cons_append, List.takeWhile_cons] at h
    cases hc : nlf c
    · simp [hc] at h
    · simp only [hc, if_true, List.length_cons] at h
      exact cmt_ends r p (by unfold cmt; omega)
theorem step_cmt {c : UInt8} {r : List UInt8} (h : c.toNat = 35) : step (c :: r) = .skip (cmt (c :: r)).length := by
  simp [step, bl, h]
theorem tok_ne {c : UInt8} {r s : List UInt8} {k v n : Nat} (h : step (c :: r) = .tok k s v n) : c.toNat ≠ 35 ∧ c.toNat ≠ 10 := by
  constructor
  · intro hc; rw [step_cmt hc] at h; cases h
  · intro hc; simp [step, bl, hc] at h
/-- What stands behind a place at which a token begins may be other bytes, if these begin with a separator. -/
theorem lex_pre (l : List UInt8) (x : Nat) : ∀ (T : List Tok) (i : Nat) (t : Tok), lex l x = .ok T → T[i]? = some t →
    ∃ p r, l = p ++ r ∧ t.a = x + p.length ∧ lex r t.a = .ok (T.drop i) ∧ (i + 1 < T.length → r ≠ [] ∧ (r.headD 0).toNat ≠ 10) ∧
      ∀ m, (m = [] ∨ sep (m.headD 0) = true) → (m = [] ∨ (m.headD 0).toNat = 10 ∨ i + 1 < T.length) → lex (p ++ m) x = (lex m (x + p.length)).app (T.take i) := by
  have go : ∀ (c : UInt8) (q p r : List UInt8) (n : Nat) (ok : Prop), (step (c :: q)).fine = true → (step (c :: q)).len = n → n ≤ (c :: q).length → (c :: q).drop n = p ++ r → (ok → r ≠ [] ∧ (r.headD 0).toNat ≠ 10) →
      ∀ m, (m = [] ∨ sep (m.headD 0) = true) → (m = [] ∨ (m.headD 0).toNat = 10 ∨ ok) → step ((c :: q).take n ++ p ++ m) = step (c :: q) ∧ ((c :: q).take n ++ p ++ m).drop n = p ++ m := by
    intro c q p r n ok hf hl hn hd hok m hm hm'
    have hn0 : 0 < n := by have := step_len (c :: q) hf; omega
    obtain ⟨n, rfl⟩ : ∃ n', n = n' + 1 := ⟨n - 1, by omega⟩
    simp only [List.length_cons] at hn
    have hq : q = q.take n ++ p ++ r := by
      rw [List.drop_succ_cons] at hd
      rw [List.append_assoc, ← hd, List.take_append_drop]
    have hlen : (q.take n).length = n := by rw [List.length_take]; omega
    constructor
    · rw [List.take_succ_cons, List.cons_append, List.cons_append]
      generalize q.take n = u at hq hlen ⊢
      subst hq
      refine step_swap c (u ++ p) r m hf (by rw [hl, List.length_append]; omega) hm ?_
      rcases hm' with hm' | hm' | hm'
      · exact .inr (.inl hm')
      · exact .inr (.inr (.inl hm'))
      · rcases Nat.lt_or_ge (n + 1) ((u ++ p).length + 1) with h1 | h1
        · exact .inl (by rw [hl]; exact h1)
        · refine .inr (.inr (.inr fun hc => ?_))
          obtain ⟨h2, h3⟩ := hok hm'
          rw [step_cmt hc] at hl
          simp only [St.len] at hl
          rcases cmt_ends r (c :: (u ++ p)) (by
            rw [List.cons_append, hl, List.length_cons]
            rw [List.length_append] at h1 ⊢
            omega) with h4 | h4
          · exact h2 h4
          · exact h3 h4
    · rw [List.append_assoc, List.drop_append_of_le_length (by rw [List.length_take, List.length_cons]; omega), List.drop_eq_nil_of_le (by rw [List.length_take, List.length_cons]; omega), List.nil_append]
  refine lex_ind (P := fun l x => ∀ (T : List Tok) (i : Nat) (t : Tok), lex l x = .ok T → T[i]? = some t →
    ∃ p r, l = p ++ r ∧ t.a = x + p.length ∧ lex r t.a = .ok (T.drop i) ∧ (i + 1 < T.length → r ≠ [] ∧ (r.headD 0).toNat ≠ 10) ∧
      ∀ m, (m = [] ∨ sep (m.headD 0) = true) → (m = [] ∨ (m.headD 0).toNat = 10 ∨ i + 1 < T.length) → lex (p ++ m) x = (lex m (x + p.length)).app (T.take i)) (fun x T i t hT hi => ?_) (fun l x n h h0 hn ih T i t hT hi => ?_) (fun l x k s v n h h0 hn ih T i t hT hi => ?_) (fun c r x e h T i t hT => ?_) l x
  · rw [lex_nil] at hT
    injection hT with hT
    subst hT
    cases i with
    | succ i => simp at hi
    | zero =>
      simp only [List.getElem?_cons_zero, Option.some.injEq] at hi
      subst hi
      refine ⟨[], [], rfl, by simp [fin], by simp [fin, lex_nil], fun h => by simp at h, fun m _ _ => ?_⟩
      simp [app_nil]
  · rw [lex_skip x h] at hT
    obtain ⟨c, q, rfl⟩ := ne_cons h rfl
    obtain ⟨p, r, e1, e2, e3, e4, e5⟩ := ih T i t hT hi
    have hlen : ((c :: q).take n).length = n := by rw [List.length_take]; omega
    refine ⟨(c :: q).take n ++ p, r, by rw [List.append_assoc, ← e1, List.take_append_drop], by rw [e2, List.length_append, hlen]; omega, e3, e4, fun m hm hm' => ?_⟩
    obtain ⟨g1, g2⟩ := go c q p r n (i + 1 < T.length) (by rw [h]; rfl) (by rw [h]; rfl) hn e1 e4 m hm hm'
    rw [lex_skip x (by rw [g1]; exact h), g2, e5 m hm hm', List.length_append, hlen]
    congr 2; omega
  · rw [lex_tok x h] at hT
    obtain ⟨c, q, rfl⟩ := ne_cons h rfl
    obtain ⟨U, hU, rfl⟩ := app_ok hT
    obtain ⟨V, hV⟩ := lex_last _ _ U hU
    have hUl : 0 < U.length := by rw [hV]; simp
    cases i with
    | zero =>
      simp only [List.cons_append, List.nil_append, List.getElem?_cons_zero, Option.some.injEq] at hi
      subst hi
      refine ⟨[], c :: q, rfl, rfl, by rw [lex_tok x h, hU]; rfl, fun _ => ⟨by simp, by simpa using (tok_ne h).2⟩, fun m _ _ => ?_⟩
      simp [app_nil]
    | succ i =>
      simp only [List.cons_append, List.nil_append, List.getElem?_cons_succ] at hi
      obtain ⟨p, r, e1, e2, e3, e4, e5⟩ := ih U i t hU hi
      have hlen : ((c :: q).take n).length = n := by rw [List.length_take]; omega
      have hsl : i + 1 + 1 < ([(⟨k, x, s, v⟩ : Tok)] ++ U).length ↔ i + 1 < U.length := by simp
      refine ⟨(c :: q).take n ++ p, r, by rw [List.append_assoc, ← e1, List.take_append_drop], by rw [e2, List.length_append, hlen]; omega, by simpa using e3, fun hi' => e4 (hsl.1 hi'), fun m hm hm' => ?_⟩
      rw [hsl] at hm'
      obtain ⟨g1, g2⟩ := go c q p r n (i + 1 < U.length) (by rw [h]; rfl) (by rw [h]; rfl) hn e1 e4 m hm hm'
      rw [lex_tok x (by rw [g1]; exact h), g2, e5 m hm hm', List.length_append, hlen, app_app]
      simp only [List.cons_append, List.nil_append, List.take_succ_cons]
      congr 2; omega
  · rw [lex_bad x h] at hT; cases hT
/-- P7.6: what stands before the first problem has none. -/
theorem lex_stop (l : List UInt8) (x : Nat) : ∀ y e, lex l x = .bad y e → ∃ p r T, l = p ++ r ∧ y = x + p.length ∧ r ≠ [] ∧ lex p x = .ok (T ++ [fin y]) := by
  have go : ∀ (c : UInt8) (q p r : List UInt8) (n : Nat), (step (c :: q)).fine = true → (step (c :: q)).len = n → n ≤ (c :: q).length → (c :: q).drop n = p ++ r →
      step ((c :: q).take n ++ p) = step (c :: q) ∧ ((c :: q).take n ++ p).drop n = p := by
    intro c q p r n hf hl hn hd
    have hn0 : 0 < n := by have := step_len (c :: q) hf; omega
    obtain ⟨n, rfl⟩ : ∃ n', n = n' + 1 := ⟨n - 1, by omega⟩
    simp only [List.length_cons] at hn
    have hq : q = q.take n ++ p ++ r := by
      rw [List.drop_succ_cons] at hd
      rw [List.append_assoc, ← hd, List.take_append_drop]
    have hlen : (q.take n).length = n := by rw [List.length_take]; omega
    constructor
    · rw [List.take_succ_cons, List.cons_append]
      generalize q.take n = u at hq hlen ⊢
      subst hq
      have := step_swap c (u ++ p) r [] hf (by rw [hl, List.length_append]; omega) (.inl rfl) (.inr (.inl rfl))
      rw [List.append_nil] at this
      exact this
    · rw [List.drop_append_of_le_length (by rw [List.length_take, List.length_cons]; omega), List.drop_eq_nil_of_le (by rw [List.length_take, List.length_cons]; omega), List.nil_append]
  refine lex_ind (P := fun l x => ∀ y e, lex l x = .bad y e → ∃ p r T, l = p ++ r ∧ y = x + p.length ∧ r ≠ [] ∧ lex p x = .ok (T ++ [fin y])) (fun x y e h => by cases h) (fun l x n h h0 hn ih y e hT => ?_) (fun l x k s v n h h0 hn ih y e hT => ?_) (fun c r x e h y e' hT => ?_) l x
  · rw [lex_skip x h] at hT
    obtain ⟨c, q, rfl⟩ := ne_cons h rfl
    obtain ⟨p, r, T, e1, e2, e3, e4⟩ := ih y e hT
    have hlen : ((c :: q).take n).length = n := by rw [List.length_take]; omega
    obtain ⟨g1, g2⟩ := go c q p r n (by rw [h]; rfl) (by rw [h]; rfl) hn e1
    refine ⟨(c :: q).take n ++ p, r, T, by rw [List.append_assoc, ← e1, List.take_append_drop], by rw [e2, List.length_append, hlen]; omega, e3, ?_⟩
    rw [lex_skip x (by rw [g1]; exact h), g2, e4]
  · rw [lex_tok x h] at hT
    obtain ⟨c, q, rfl⟩ := ne_cons h rfl
    obtain ⟨p, r, T, e1, e2, e3, e4⟩ := ih y e (app_bad hT)
    have hlen : ((c :: q).take n).length = n := by rw [List.length_take]; omega
    obtain ⟨g1, g2⟩ := go c q p r n (by rw [h]; rfl) (by rw [h]; rfl) hn e1
    refine ⟨(c :: q).take n ++ p, r, ⟨k, x, s, v⟩ :: T, by rw [List.append_assoc, ← e1, List.take_append_drop], by rw [e2, List.length_append, hlen]; omega, e3, ?_⟩
    rw [lex_tok x (by rw [g1]; exact h), g2, e4]; rfl
  · rw [lex_bad x h] at hT
    injection hT with h1 h2
    subst h1
    exact ⟨[], c :: r, [], rfl, rfl, by simp, by simp [lex_nil]⟩
end Go.Proofs.YtggjgikpiljoiaaDoor.Lx
