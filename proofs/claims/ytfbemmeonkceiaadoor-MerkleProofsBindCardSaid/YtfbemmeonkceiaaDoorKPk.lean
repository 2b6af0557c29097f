/- Plain mathematics of growing trees: the tops of a list's parts, how they grow, and their root. -/
import Derived.Test.YtfbemmeonkceiaaDoorK22
namespace Go.Proofs.YtfbemmeonkceiaaDoor
open Go.RowKit Hm Wm

/-- The number of digits 1 at the end of a number. -/
def tO : Nat → Nat → Nat
  | 0, _ => 0
  | f + 1, s => if s % 2 = 1 then 1 + tO f (s / 2) else 0
theorem tO_le : ∀ (f s : Nat), tO f s ≤ Go.Lib.popAux f s
  | 0, _ => Nat.le_refl _
  | f + 1, s => by
    have := tO_le f (s / 2)
    unfold tO Go.Lib.popAux
    split <;> omega
theorem ctz_ones : ∀ (f s : Nat), s + 1 < 2 ^ f → Go.Lib.ctzFrom f (2 ^ f - 1 - s) = tO f s
  | 0, s, h => by simp at h
  | f + 1, s, h => by
    have hp : 2 ^ (f + 1) = 2 * 2 ^ f := by rw [Nat.pow_succ]; omega
    unfold Go.Lib.ctzFrom tO
    by_cases h1 : s % 2 = 1
    · rw [if_neg (by omega), if_pos h1, show (2 ^ (f + 1) - 1 - s) / 2 = 2 ^ f - 1 - s / 2 by omega, ctz_ones f (s / 2) (by omega)]
    · rw [if_pos (by omega), if_neg h1]
theorem ctz64_ones (s : Nat) (h : s ≤ 1099511627776) : Go.Lib.ctz 64 (18446744073709551615 - s) = tO 64 s := by
  unfold Go.Lib.ctz
  rw [if_neg (by omega)]
  have := ctz_ones 64 s (by omega)
  rw [← this]

/-- The tops after one more element, as they are computed. -/
noncomputable def appD (tops : List Dg) (s : Nat) (d : Dg) : List Dg := tops.take (tops.length - tO 64 s) ++ [joinD (tops.drop (tops.length - tO 64 s)) d]
/-- The same, the last top first, by the digits. -/
noncomputable def appR : Nat → List Dg → Nat → Dg → List Dg
  | 0, r, _, d => d :: r
  | f + 1, r, s, d => if s % 2 = 1 then appR f r.tail (s / 2) (nodeD (r.headD dz) d) else d :: r
theorem appR_eq : ∀ (f : Nat) (r : List Dg) (s : Nat) (d : Dg), tO f s ≤ r.length → appR f r s d = ((r.take (tO f s)).foldl (fun acc t => nodeD t acc) d) :: r.drop (tO f s)
  | 0, r, s, d, _ => by simp [appR, tO]
  | f + 1, r, s, d, h => by
    unfold appR tO
    unfold tO at h
    by_cases h1 : s % 2 = 1
    · rw [if_pos h1] at h
      rw [if_pos h1, if_pos h1]
      rcases r with _ | ⟨x, r⟩
      · simp at h
      · simp only [List.length_cons] at h
        show appR f r (s / 2) (nodeD x d) = _
        rw [appR_eq f r (s / 2) (nodeD x d) (by omega), Nat.add_comm 1, List.take_succ_cons, List.drop_succ_cons, List.foldl_cons]
    · rw [if_neg h1, if_neg h1]; simp
theorem appD_rev (r : List Dg) (s : Nat) (d : Dg) (h : tO 64 s ≤ r.length) : appD r.reverse s d = (appR 64 r s d).reverse := by
  rw [appR_eq 64 r s d h]
  unfold appD joinD
  rw [List.reverse_cons, List.length_reverse, ← List.reverse_drop, List.drop_reverse, show r.length - (r.length - tO 64 s) = tO 64 s by omega, List.foldr_reverse]

/-- The last tops of a list of s blocks of 2^e elements each, the last first. -/
def Pk : Nat → Nat → List Dg → List Dg → Nat → Prop
  | 0, _, r, l, s => r = [] ∧ l = [] ∧ s = 0
  | f + 1, e, r, l, s => (s % 2 = 0 ∧ Pk f (e + 1) r l (s / 2)) ∨ (s % 2 = 1 ∧ ∃ a b r', l = a ++ b ∧ b.length = 2 ^ e ∧ r = rootD b :: r' ∧ Pk f (e + 1) r' a (s / 2))
theorem Pk.zero : ∀ (f e : Nat), Pk f e [] [] 0
  | 0, _ => ⟨rfl, rfl, rfl⟩
  | f + 1, e => .inl ⟨rfl, Pk.zero f (e + 1)⟩
theorem Pk.len : ∀ {f e : Nat} {r l : List Dg} {s : Nat}, Pk f e r l s → l.length = s * 2 ^ e ∧ r.length = Go.Lib.popAux f s
  | 0, e, r, l, s, h => by obtain ⟨rfl, rfl, rfl⟩ := h; exact ⟨by simp, rfl⟩
  | f + 1, e, r, l, s, h => by
    rcases h with ⟨h0, h1⟩ | ⟨h0, a, b, r', rfl, hb, rfl, h1⟩
    · obtain ⟨e1, e2⟩ := Pk.len h1
      refine ⟨?_, ?_⟩
      · rw [e1, Nat.pow_succ, Nat.mul_comm (2 ^ e) 2, ← Nat.mul_assoc]; congr 1; omega
      · rw [e2, show Go.Lib.popAux (f + 1) s = s % 2 + Go.Lib.popAux f (s / 2) from rfl]; omega
    · obtain ⟨e1, e2⟩ := Pk.len h1
      refine ⟨?_, ?_⟩
      · rw [List.length_append, e1, hb, Nat.pow_succ, Nat.mul_comm (2 ^ e) 2, ← Nat.mul_assoc]
        have : s = s / 2 * 2 + 1 := by omega
        conv => rhs; rw [this, Nat.add_mul, Nat.one_mul]
      · rw [List.length_cons, e2, show Go.Lib.popAux (f + 1) s = s % 2 + Go.Lib.popAux f (s / 2) from rfl]; omega
theorem root_join {a b : List Dg} {e : Nat} (ha : a.length = 2 ^ e) (h1 : 0 < b.length) (h2 : b.length ≤ 2 ^ e) : rootD (a ++ b) = nodeD (rootD a) (rootD b) := by
  have hp := Nat.two_pow_pos e
  have hl : (a ++ b).length = 2 ^ e + b.length := by rw [List.length_append, ha]
  have hh : hf (a ++ b).length = 2 ^ e := hf_only (by omega) (by omega)
  rw [rootD_two (by omega), hh, List.take_append_of_le_length (by omega), List.drop_append_of_le_length (by omega), List.take_of_length_le (by omega), List.drop_of_length_le (by omega), List.nil_append]
theorem Pk.grow : ∀ {f e : Nat} {r l : List Dg} {s : Nat} (b : List Dg), Pk f e r l s → s + 1 < 2 ^ f → b.length = 2 ^ e → Pk f e (appR f r s (rootD b)) (l ++ b) (s + 1)
  | 0, e, r, l, s, b, h, hs, hb => by simp at hs
  | f + 1, e, r, l, s, b, h, hs, hb => by
    have hp : 2 ^ (f + 1) = 2 * 2 ^ f := by rw [Nat.pow_succ]; omega
    rcases h with ⟨h0, h1⟩ | ⟨h0, a, b', r', rfl, hb', rfl, h1⟩
    · refine .inr ⟨by omega, l, b, r, rfl, hb, ?_, ?_⟩
      · unfold appR; rw [if_neg (by omega)]
      · rw [show (s + 1) / 2 = s / 2 by omega]; exact h1
    · refine .inl ⟨by omega, ?_⟩
      have hbb : (b' ++ b).length = 2 ^ (e + 1) := by rw [List.length_append, hb, hb', Nat.pow_succ]; omega
      have hroot := root_join (a := b') (b := b) hb' (by rw [hb]; exact Nat.two_pow_pos e) (by omega)
      have ih := Pk.grow (b' ++ b) h1 (by omega) hbb
      rw [hroot] at ih
      unfold appR
      rw [if_pos h0, show (s + 1) / 2 = s / 2 + 1 by omega, List.append_assoc]
      exact ih
theorem Pk.top : ∀ {f e : Nat} {r l : List Dg} {s : Nat} (m : List Dg), Pk f e r l s → 0 < m.length → m.length ≤ 2 ^ e → r.foldl (fun acc t => nodeD t acc) (rootD m) = rootD (l ++ m)
  | 0, e, r, l, s, m, h, _, _ => by obtain ⟨rfl, rfl, rfl⟩ := h; rfl
  | f + 1, e, r, l, s, m, h, h1, h2 => by
    rcases h with ⟨h0, h3⟩ | ⟨h0, a, b, r', rfl, hb, rfl, h3⟩
    · exact Pk.top m h3 h1 (by rw [Nat.pow_succ]; omega)
    · have hroot := root_join (a := b) (b := m) hb h1 h2
      rw [List.foldl_cons, ← hroot, List.append_assoc]
      exact Pk.top (b ++ m) h3 (by rw [List.length_append]; omega) (by rw [List.length_append, hb, Nat.pow_succ]; omega)
/-- Of a list that is not empty: the root of the last top and those before it. -/
theorem Pk.root : ∀ {f e : Nat} {r l : List Dg} {s : Nat}, Pk f e r l s → s ≠ 0 → s < 2 ^ f → ∃ x r', r = x :: r' ∧ r'.foldl (fun acc t => nodeD t acc) x = rootD l
  | 0, e, r, l, s, h, h0, _ => by obtain ⟨rfl, rfl, rfl⟩ := h; exact absurd rfl h0
  | f + 1, e, r, l, s, h, h0, hf => by
    have hp : 2 ^ (f + 1) = 2 * 2 ^ f := by rw [Nat.pow_succ]; omega
    rcases h with ⟨h1, h3⟩ | ⟨h1, a, b, r', rfl, hb, rfl, h3⟩
    · exact Pk.root h3 (by omega) (by omega)
    · refine ⟨_, _, rfl, ?_⟩
      exact Pk.top b h3 (by rw [hb]; exact Nat.two_pow_pos e) (by rw [hb, Nat.pow_succ]; omega)

/-- Tops are those of a list. -/
def PkD (tops : List Dg) (l : List Dg) : Prop := Pk 64 0 tops.reverse l l.length
theorem PkD.nil : PkD [] [] := Pk.zero 64 0
theorem PkD.len {tops l : List Dg} (h : PkD tops l) : tops.length = Go.Lib.popAux 64 l.length := by have := (Pk.len h).2; rwa [List.length_reverse] at this
theorem PkD.grow {tops l : List Dg} (h : PkD tops l) (hl : l.length ≤ 1099511627776) (d : Dg) : PkD (appD tops l.length d) (l ++ [d]) := by
  have h1 := tO_le 64 l.length
  have h2 := h.len
  have e := appD_rev tops.reverse l.length d (by rw [List.length_reverse]; omega)
  rw [List.reverse_reverse] at e
  unfold PkD
  rw [e, List.reverse_reverse, List.length_append, List.length_singleton]
  have := Pk.grow [d] h (by omega) rfl
  rw [rootD_one] at this
  exact this
theorem PkD.top {tops l : List Dg} (h : PkD tops l) (h0 : l ≠ []) (hl : l.length ≤ 1099511627776) : ∃ t x, tops = t ++ [x] ∧ joinD t x = rootD l := by
  obtain ⟨x, r', e1, e2⟩ := Pk.root h (by intro e; exact h0 (List.eq_nil_of_length_eq_zero e)) (by omega)
  refine ⟨r'.reverse, x, ?_, ?_⟩
  · have := congrArg List.reverse e1
    rw [List.reverse_reverse, List.reverse_cons] at this
    exact this
  · unfold joinD
    rw [List.foldr_reverse]; exact e2
theorem appD_len (tops : List Dg) (s : Nat) (d : Dg) : (appD tops s d).length ≤ tops.length + 1 := by
  unfold appD
  rw [List.length_append, List.length_take, List.length_singleton]; omega
end Go.Proofs.YtfbemmeonkceiaaDoor
