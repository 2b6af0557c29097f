/- divMod: the plain part. -/
import Derived.Test.YtkjnfobaoaaopaaGreatDoorN17
namespace Go.Proofs.YtkjnfobaoaaopaaGreatDoor
open Go.RowKit Hm Wm Wn

/-- A guess is not less than the true digit. -/
theorem guess_ge {W d q hi lo top k r : Nat} (hW : W = (hi * 18446744073709551616 + lo) * k + r) (hr : r < k) (hd : top * k ≤ d) (ht : 0 < top) (hq : q * d ≤ W) (hqB : q < B) : q ≤ guessN hi lo top := by
  unfold guessN
  by_cases h : top ≤ hi
  · rw [if_pos h]
    exact Nat.le_of_lt_succ hqB
  · rw [if_neg h, Nat.le_div_iff_mul_le ht]
    have h1 : q * (top * k) ≤ q * d := Nat.mul_le_mul_left _ hd
    rw [← Nat.mul_assoc] at h1
    have h2 : q * top * k < (hi * 18446744073709551616 + lo + 1) * k := by rw [Nat.add_mul _ 1, Nat.one_mul]; omega
    exact Nat.le_of_lt_succ (Nat.lt_of_mul_lt_mul_right h2)
section
variable {W d f f2 q Z b n n2 : Nat}
theorem take_ok (hd : 0 < d) (hq : W / d = q) (hf : q ≤ f) (hs : n + f * d = W + Z * b) (hb : b = 0) : f = q ∧ n < d ∧ n + q * d = W := by
  subst hb
  rw [Nat.mul_zero, Nat.add_zero] at hs
  have h1 : f ≤ q := by rw [← hq, Nat.le_div_iff_mul_le hd]; omega
  obtain rfl : f = q := Nat.le_antisymm h1 hf
  have h2 := Nat.div_add_mod W d
  have h3 := Nat.mod_lt W hd
  rw [hq, Nat.mul_comm] at h2
  exact ⟨rfl, by omega, hs⟩
theorem take_no (hq : W / d = q) (hs : n + f * d = W + Z * b) (hb : b ≠ 0) (hn : n < Z) (hfd : f * d < Z) : n + f * d = W + Z ∧ q < f := by
  have hb1 : b = 1 := by
    rcases Nat.lt_or_ge b 2 with h | h
    · omega
    · have := Nat.mul_le_mul_left Z h
      omega
  subst hb1
  rw [Nat.mul_one] at hs
  refine ⟨hs, ?_⟩
  rcases Nat.lt_or_ge q f with h | h
  · exact h
  · have h1 := Nat.mul_le_mul_right d h
    have h2 := Nat.div_mul_le_self W d
    rw [hq] at h2
    omega
theorem back_no (hq : W / d = q) (h0 : n + f * d = W + Z) (hf : f = f2 + 1) (hs : n2 + Z * b = n + d) (hb : b = 0) (hn2 : n2 < Z) : n2 + f2 * d = W + Z ∧ q < f2 := by
  subst hb hf
  rw [Nat.mul_zero, Nat.add_zero] at hs
  rw [Nat.add_mul, Nat.one_mul] at h0
  have h1 : n2 + f2 * d = W + Z := by omega
  refine ⟨h1, ?_⟩
  rcases Nat.lt_or_ge q f2 with h | h
  · exact h
  · have h3 := Nat.mul_le_mul_right d h
    have h2 := Nat.div_mul_le_self W d
    rw [hq] at h2
    omega
theorem back_ok (hd : 0 < d) (hq : W / d = q) (h0 : n + f * d = W + Z) (hqf : q < f) (hf : f = f2 + 1) (hs : n2 + Z * b = n + d) (hb : b ≠ 0) (hn : n < Z) (hdZ : d ≤ Z) : f2 = q ∧ n2 < d ∧ n2 + q * d = W := by
  have hb1 : b = 1 := by
    rcases Nat.lt_or_ge b 2 with h | h
    · omega
    · have := Nat.mul_le_mul_left Z h
      omega
  subst hb1 hf
  rw [Nat.mul_one] at hs
  rw [Nat.add_mul, Nat.one_mul] at h0
  exact take_ok (Z := 0) (b := 0) hd hq (by omega) (by omega) rfl
end
/-- A row set at a place where it was 0. -/
theorem num_set0 : ∀ (l : List Nat) (i v : Nat), l[i]? = some 0 → num (l.set i v) = num l + B ^ i * v
  | [], i, v, h => by simp at h
  | x :: r, 0, v, h => by
    obtain rfl : x = 0 := by simpa using h
    rw [List.set_cons_zero, num, num, Nat.pow_zero]; omega
  | x :: r, i + 1, v, h => by
    rw [List.set_cons_succ, num, num, num_set0 r i v (by simpa using h), Nat.mul_add, Nat.pow_succ, Nat.mul_comm (B ^ i) B, Nat.mul_assoc]; omega
/-- The window at a place. -/
theorem win_split (R : List Nat) (i k : Nat) (h : i + k ≤ R.length) : (R.take i).length = i ∧ ((R.drop i).take k).length = k ∧ R = R.take i ++ (R.drop i).take k ++ R.drop (i + k) ∧
    num R = num (R.take i) + B ^ i * num (R.drop i) ∧ num (R.drop i) = num ((R.drop i).take k) + B ^ k * num (R.drop (i + k)) := by
  have h1 : (R.take i).length = i := by rw [List.length_take]; omega
  have h2 : ((R.drop i).take k).length = k := by rw [List.length_take, List.length_drop]; omega
  have h3 : R.drop (i + k) = (R.drop i).drop k := by rw [List.drop_drop]
  refine ⟨h1, h2, by rw [h3, List.append_assoc, List.take_append_drop, List.take_append_drop], ?_, ?_⟩
  · conv => lhs; rw [← List.take_append_drop i R, num_append, h1]
  · rw [h3]
    conv => lhs; rw [← List.take_append_drop k (R.drop i), num_append, h2]
/-- Nothing stands above the window. -/
theorem win_num (R : List Nat) (i k d : Nat) (hR : Dig R) (h : i + (k + 1) ≤ R.length) (hlt : num (R.drop (i + 1)) < d) (hd : d < B ^ k) :
    num ((R.drop i).take (k + 1)) < B * d ∧ num ((R.drop i).take (k + 1)) = num (R.drop i) ∧ num (R.drop (i + (k + 1))) = 0 := by
  obtain ⟨_, _, _, _, h5⟩ := win_split R i (k + 1) h
  have hi : i < R.length := by omega
  have h6 : num (R.drop i) = R[i] + B * num (R.drop (i + 1)) := by rw [List.drop_eq_getElem_cons hi, num]
  have h7 := hR _ (List.getElem_mem hi)
  have h8 : num (R.drop i) < B * d := by
    have := Nat.mul_le_mul_left B (Nat.succ_le_of_lt hlt)
    rw [Nat.mul_succ] at this
    omega
  have h9 : B * d < B ^ (k + 1) := by
    rw [Nat.pow_succ, Nat.mul_comm]
    exact Nat.mul_lt_mul_of_pos_right hd B_pos
  have h10 : num (R.drop (i + (k + 1))) = 0 := by
    rcases Nat.eq_zero_or_pos (num (R.drop (i + (k + 1)))) with h0 | h0
    · exact h0
    · have := Nat.mul_le_mul_left (B ^ (k + 1)) h0
      omega
  rw [h10, Nat.mul_zero, Nat.add_zero] at h5
  exact ⟨by omega, h5.symm, h10⟩
/-- A window of new digits: what the whole row is. -/
theorem win_new (R V : List Nat) (i k W q d : Nat) (h : i + k ≤ R.length) (hV : V.length = k) (hp : num (R.drop (i + k)) = 0) (hW : num (R.drop i) = W) (hv : num V + q * d = W) :
    (R.take i ++ V ++ R.drop (i + k)).length = R.length ∧ num ((R.take i ++ V ++ R.drop (i + k)).drop i) = num V ∧ num R = num (R.take i ++ V ++ R.drop (i + k)) + B ^ i * (q * d) := by
  obtain ⟨h1, _, _, h4, _⟩ := win_split R i k h
  have e : num (V ++ R.drop (i + k)) = num V := by rw [num_append, hp, Nat.mul_zero, Nat.add_zero]
  refine ⟨?_, ?_, ?_⟩
  · rw [List.length_append, List.length_append, h1, hV, List.length_drop]; omega
  · rw [List.append_assoc, List.drop_append_of_le_length (by omega), List.drop_eq_nil_of_le (by omega), List.nil_append, e]
  · rw [List.append_assoc, num_append, h1, e, h4, hW, ← hv, Nat.mul_add]; omega
/-- What stands at a place of the division: j digits of the quotient are left. -/
structure DvI (X Y : List Nat) (s d : Nat) (R Q : List Nat) (j : Nat) : Prop where
  rl : R.length = X.length + 1
  rd : Dig R
  top : num (R.drop j) < d
  ql : Q.length = X.length - Y.length + 1
  qd : Dig Q
  q0 : ∀ k, k < j → Q[k]? = some 0
  sum : num Q * d + num R = num X * 2 ^ s
theorem DvI.start {X Y R : List Nat} {s d : Nat} (hX : Dig X) (hY0 : B ^ (Y.length - 1) ≤ num Y) (hY1 : 0 < Y.length) (hl : Y.length ≤ X.length) (hd : d = num Y * 2 ^ s) (hR : R.length = X.length + 1) (hRd : Dig R) (hn : num R = num X * 2 ^ s) :
    DvI X Y s d R (List.replicate (X.length - Y.length + 1) 0) (X.length - Y.length + 1) := by
  refine ⟨hR, hRd, ?_, List.length_replicate, dig_zeros _, ?_, by rw [num_zeros, Nat.zero_mul, Nat.zero_add, hn]⟩
  · obtain ⟨_, _, _, h4, _⟩ := win_split R (X.length - Y.length + 1) 0 (by omega)
    have h1 := num_lt hX
    have h2 : B ^ X.length ≤ B ^ (X.length - Y.length + 1) * num Y := by
      have := Nat.mul_le_mul_left (B ^ (X.length - Y.length + 1)) hY0
      rw [← Nat.pow_add, show X.length - Y.length + 1 + (Y.length - 1) = X.length by omega] at this
      exact this
    have h3 : num X * 2 ^ s < B ^ (X.length - Y.length + 1) * d := by
      rw [hd, ← Nat.mul_assoc]
      exact Nat.mul_lt_mul_of_pos_right (by omega) (Nat.two_pow_pos s)
    rw [hn] at h4
    exact Nat.lt_of_mul_lt_mul_left (a := B ^ (X.length - Y.length + 1)) (by omega)
  · intro k hk
    rw [List.getElem?_replicate, if_pos hk]
theorem DvI.next {X Y R Q R2 : List Nat} {s d i q : Nat} (h : DvI X Y s d R Q (i + 1)) (hl : R2.length = R.length) (hd : Dig R2) (ht : num (R2.drop i) < d) (hn : num R = num R2 + B ^ i * (q * d)) (hq : q < B) : DvI X Y s d R2 (Q.set i q) i := by
  refine ⟨by rw [hl, h.rl], hd, ht, by rw [List.length_set, h.ql], ?_, ?_, ?_⟩
  · intro x hx
    rcases List.mem_or_eq_of_mem_set hx with hx | rfl
    · exact h.qd x hx
    · exact hq
  · intro k hk
    rw [List.getElem?_set_ne (by omega)]
    exact h.q0 k (by omega)
  · rw [num_set0 Q i q (h.q0 i (by omega)), ← h.sum, hn, Nat.add_mul, Nat.mul_assoc]; omega
theorem DvI.done {X Y R Q : List Nat} {s d : Nat} (h : DvI X Y s d R Q 0) (hd : d = num Y * 2 ^ s) (hs : s ≤ 64) : num Q = num X / num Y ∧ num (dnL R s) = num X % num Y := by
  have h1 := h.top
  rw [List.drop_zero] at h1
  have h2 := h.sum
  have hp := Nat.two_pow_pos s
  have h3 : num X * 2 ^ s / d = num Q := by
    rw [← h2, Nat.mul_comm (num Q) d, Nat.mul_add_div (by omega), Nat.div_eq_of_lt h1, Nat.add_zero]
  have h4 : num X * 2 ^ s % d = num R := by
    rw [← h2, Nat.mul_comm (num Q) d, Nat.mul_add_mod, Nat.mod_eq_of_lt h1]
  rw [hd, Nat.mul_div_mul_right _ _ hp] at h3
  rw [hd, Nat.mul_mod_mul_right] at h4
  exact ⟨h3.symm, by rw [dnL_num R s hs, ← h4, Nat.mul_div_cancel _ hp]⟩
/-- The divisor, shifted up. -/
theorem dv_divisor {Y P : List Nat} {s top : Nat} (hY : Dig Y) (hl : 0 < Y.length) (ht : Y[Y.length - 1]? = some top) (ht0 : 0 < top) (h2 : top * 2 ^ s < B) (hs : s ≤ 64) (hP : P.length = Y.length + 1) (hn : num P = num Y * 2 ^ s) :
    (P.take Y.length).length = Y.length ∧ num (P.take Y.length) = num Y * 2 ^ s ∧ B ^ (Y.length - 1) ≤ num Y ∧ num Y * 2 ^ s < B ^ Y.length := by
  have hk : Y.length - 1 < Y.length := by omega
  have e1 : num Y = num (Y.take (Y.length - 1)) + B ^ (Y.length - 1) * top := by
    have h1 := (win_split Y (Y.length - 1) 0 (by omega)).2.2.2.1
    have h3 : Y.drop (Y.length - 1) = [top] := by
      rw [List.drop_eq_getElem_cons hk, List.drop_eq_nil_of_le (by omega)]
      rw [List.getElem?_eq_getElem hk] at ht
      rw [Option.some.inj ht]
    rw [h3] at h1
    simpa [num] using h1
  have e2 := num_lt (hY.take (Y.length - 1))
  rw [List.length_take, Nat.min_eq_left (by omega)] at e2
  have h3 : B ^ (Y.length - 1) ≤ num Y := by
    have := Nat.mul_le_mul_left (B ^ (Y.length - 1)) ht0
    omega
  have h4 : num Y < B ^ (Y.length - 1) * (top + 1) := by rw [Nat.mul_succ]; omega
  have h5 : (top + 1) * 2 ^ s ≤ B := by
    rw [← dn_two hs, Nat.mul_comm (2 ^ s)] at h2 ⊢
    exact Nat.mul_le_mul_right _ (Nat.lt_of_mul_lt_mul_right h2)
  have h6 : num Y * 2 ^ s < B ^ Y.length := by
    have h7 := Nat.mul_lt_mul_of_pos_right h4 (Nat.two_pow_pos s)
    rw [Nat.mul_assoc] at h7
    have h8 := Nat.mul_le_mul_left (B ^ (Y.length - 1)) h5
    have h9 : B ^ (Y.length - 1) * B = B ^ Y.length := by rw [← Nat.pow_succ]; congr 1; omega
    omega
  obtain ⟨_, _, _, g4, _⟩ := win_split P Y.length 1 (by omega)
  have h10 : num (P.drop Y.length) = 0 := by
    rcases Nat.eq_zero_or_pos (num (P.drop Y.length)) with h0 | h0
    · exact h0
    · have := Nat.mul_le_mul_left (B ^ Y.length) h0
      omega
  rw [h10, Nat.mul_zero, Nat.add_zero] at g4
  exact ⟨by rw [List.length_take]; omega, by rw [← g4, hn], h3, h6⟩
/-- The true digit at a place. -/
theorem DvI.digit {X Y R Q : List Nat} {s d i n : Nat} (h : DvI X Y s d R Q (i + 1)) (hi : i + (n + 1) ≤ R.length) (hd : d < B ^ n) :
    num ((R.drop i).take (n + 1)) / d < B ∧ num ((R.drop i).take (n + 1)) = num (R.drop i) ∧ num (R.drop (i + (n + 1))) = 0 := by
  obtain ⟨h1, h2, h3⟩ := win_num R i n d h.rd hi h.top hd
  exact ⟨Nat.div_lt_of_lt_mul (by rw [Nat.mul_comm]; exact h1), h2, h3⟩
/-- A place is done: the window's new digits make the row's next state. -/
theorem DvI.place {X Y R Q V : List Nat} {s d i n q : Nat} (h : DvI X Y s d R Q (i + 1)) (hi : i + (n + 1) ≤ R.length) (hd : d < B ^ n) (hVl : V.length = n + 1) (hVd : Dig V) (hVn : num V < d) (hq : q < B) (hv : num V + q * d = num ((R.drop i).take (n + 1))) :
    DvI X Y s d (R.take i ++ V ++ R.drop (i + (n + 1))) (Q.set i q) i := by
  obtain ⟨_, h2, h3⟩ := h.digit hi hd
  obtain ⟨g1, g2, g3⟩ := win_new R V i (n + 1) _ q d hi hVl h3 h2.symm hv
  refine h.next g1 ?_ (by rw [g2]; exact hVn) g3 hq
  rw [Dig.app, Dig.app]
  exact ⟨⟨h.rd.take i, hVd⟩, h.rd.drop _⟩
/-- The first subtraction at a place, by rows. -/
theorem dv_sub {V D : List Nat} {d n f q : Nat} (hV : Dig V) (hVl : V.length = n + 1) (hDl : D.length = n) (hDn : num D = d) (hd0 : 0 < d) (hd : d < B ^ n) (hf : f < B) (hqf : q ≤ f) (hq : num V / d = q) :
    (subTL V D f 0).1.length = n + 1 ∧ Dig (subTL V D f 0).1 ∧
    ((subTL V D f 0).2 = 0 → f = q ∧ num (subTL V D f 0).1 < d ∧ num (subTL V D f 0).1 + q * d = num V) ∧
    ((subTL V D f 0).2 ≠ 0 → num (subTL V D f 0).1 + f * d = num V + B ^ (n + 1) ∧ q < f) := by
  have h1 := subTL_num V D f 0 hV (by omega)
  have h2 := subTL_dig V D f 0
  have h3 := num_lt h2
  rw [subTL_len, hVl] at h3
  rw [hDn, Nat.add_zero, hVl] at h1
  have h4 : f * d < B ^ (n + 1) := by
    rw [Nat.pow_succ, Nat.mul_comm (B ^ n)]
    exact Nat.mul_lt_mul'' hf hd
  refine ⟨by rw [subTL_len, hVl], h2, fun hb => take_ok hd0 hq hqf h1 hb, fun hb => take_no hq h1 hb h3 h4⟩
/-- One step back, by rows. -/
theorem dv_back {V D : List Nat} {W d n f f2 q : Nat} (hV : Dig V) (hVl : V.length = n + 1) (hDl : D.length = n) (hDn : num D = d) (hd0 : 0 < d) (hd : d < B ^ n) (hq : W / d = q) (h0 : num V + f * d = W + B ^ (n + 1)) (hqf : q < f) (hf : f = f2 + 1) :
    (addTL V D 1 0).1.length = n + 1 ∧ Dig (addTL V D 1 0).1 ∧
    ((addTL V D 1 0).2 ≠ 0 → f2 = q ∧ num (addTL V D 1 0).1 < d ∧ num (addTL V D 1 0).1 + q * d = W) ∧
    ((addTL V D 1 0).2 = 0 → num (addTL V D 1 0).1 + f2 * d = W + B ^ (n + 1) ∧ q < f2) := by
  have h1 := addTL_num V D 1 0 (by omega)
  have h2 := addTL_dig V D 1 0
  have h3 := num_lt h2
  have h4 := num_lt hV
  rw [addTL_len, hVl] at h3
  rw [hVl] at h4
  rw [hDn, Nat.add_zero, Nat.one_mul, hVl] at h1
  have h5 : d ≤ B ^ (n + 1) := Nat.le_of_lt (Nat.lt_of_lt_of_le hd (Nat.pow_le_pow_right B_pos (by omega)))
  exact ⟨by rw [addTL_len, hVl], h2, fun hb => back_ok hd0 hq h0 hqf hf h1 hb h4 h5, fun hb => back_no hq h0 hf h1 hb h3⟩
/-- The guess at a place is not less than the true digit. -/
theorem dv_guess {V D : List Nat} {d n hi lo top : Nat} (hV : Dig V) (hVl : V.length = n + 1) (hn : 0 < n) (hh : V[n]? = some hi) (hlo : V[n - 1]? = some lo) (hDl : D.length = n) (hDn : num D = d) (ht : D[n - 1]? = some top) (ht0 : 0 < top) (hqB : num V / d < B) :
    num V / d ≤ guessN hi lo top ∧ guessN hi lo top < B := by
  have hk : n - 1 + 1 = n := by omega
  have hkn : n - 1 < V.length := by omega
  have hnn : n < V.length := by omega
  have hdn : n - 1 < D.length := by omega
  have e1 := (win_split V (n - 1) 0 (by omega)).2.2.2.1
  have e2 : V.drop (n - 1) = [lo, hi] := by
    rw [List.getElem?_eq_getElem hkn] at hlo
    rw [List.getElem?_eq_getElem hnn] at hh
    rw [List.drop_eq_getElem_cons hkn, hk, List.drop_eq_getElem_cons hnn, List.drop_eq_nil_of_le (by omega), Option.some.inj hlo, Option.some.inj hh]
  have e3 : num [lo, hi] = hi * 18446744073709551616 + lo := by
    simp only [num]
    unfold B
    omega
  rw [e2, e3] at e1
  have e4 := num_lt (hV.take (n - 1))
  rw [List.length_take, Nat.min_eq_left (by omega)] at e4
  have e5 : top * B ^ (n - 1) ≤ d := by
    have g1 := (win_split D (n - 1) 0 (by omega)).2.2.2.1
    have g2 : D.drop (n - 1) = [top] := by
      rw [List.getElem?_eq_getElem hdn] at ht
      rw [List.drop_eq_getElem_cons hdn, List.drop_eq_nil_of_le (by omega), Option.some.inj ht]
    rw [g2, hDn] at g1
    simp only [num, Nat.mul_zero, Nat.add_zero] at g1
    rw [g1, Nat.mul_comm]
    omega
  constructor
  · exact guess_ge (k := B ^ (n - 1)) (r := num (V.take (n - 1))) (by rw [e1, Nat.mul_comm (B ^ (n - 1))]; omega) e4 e5 ht0 (Nat.div_mul_le_self _ _) hqB
  · unfold guessN
    by_cases h : top ≤ hi
    · rw [if_pos h]; unfold B; omega
    · rw [if_neg h]
      have hl : lo < B := hV _ (List.mem_of_getElem? hlo)
      refine Nat.div_lt_of_lt_mul ?_
      have := Nat.mul_le_mul_right 18446744073709551616 (Nat.succ_le_of_lt (Nat.lt_of_not_le h))
      rw [Nat.succ_mul] at this
      unfold B at *
      omega
end Go.Proofs.YtkjnfobaoaaopaaGreatDoor
