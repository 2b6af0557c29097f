/- Encodings of strings and lists: what decodes them, what begins them. -/
import Derived.Test.YtpobblcokkgijaaWListD
namespace Go.Proofs.Ytpobblcokkgijaa
open Wm

theorem enc_bound (n : Nat) (h : n ≤ 9223372036854775807) : -9223372036854775808 ≤ (n : Int) ∧ (n : Int) ≤ 9223372036854775807 := ⟨by omega, by omega⟩

theorem gl_of {s u e : Nat} {m : Int} {l : List UInt8} (h : gi l = (m, u, e)) : gl s l = if e ≠ 0 then (0, 0, e) else if m < 0 then (0, 0, 11) else if (l.length - u) / s < m.toNat then (0, 0, 10) else (m.toNat, u, 0) := by
  unfold gl; rw [h]
theorem gl_enc (s n : Nat) (r : List UInt8) (hs : 1 ≤ s) (hn : n ≤ 9223372036854775807) (h : s * n ≤ r.length) : gl s (enc n ++ r) = (n, (enc n).length, 0) := by
  have hb := enc_bound n hn
  rw [gl_of (s := s) (gi_enc hb.1 hb.2 r), if_neg (by simp), if_neg (by omega), if_neg]
  · simp
  · rw [List.length_append, Nat.add_sub_cancel_left, Int.toNat_natCast]
    have : n ≤ r.length / s := (Nat.le_div_iff_mul_le (by omega)).2 (by rw [Nat.mul_comm]; exact h)
    omega
theorem gl_few (s n : Nat) (r : List UInt8) (hs : 1 ≤ s) (hn : n ≤ 9223372036854775807) (h : r.length < s * n) : gl s (enc n ++ r) = (0, 0, 10) := by
  have hb := enc_bound n hn
  rw [gl_of (s := s) (gi_enc hb.1 hb.2 r), if_neg (by simp), if_neg (by omega), if_pos]
  rw [List.length_append, Nat.add_sub_cancel_left, Int.toNat_natCast]
  exact (Nat.div_lt_iff_lt_mul (by omega)).2 (by rw [Nat.mul_comm]; exact h)
theorem gl_short (s n k : Nat) (hn : n ≤ 9223372036854775807) (h : k < (enc n).length) : gl s ((enc n).take k) = (0, 0, 10) := by
  have hb := enc_bound n hn
  rw [gl_of (s := s) (gi_short hb.1 hb.2 h), if_pos (by simp)]

theorem gb_of {l : List UInt8} {n u e : Nat} (h : gl 1 l = (n, u, e)) : gb l = if e = 0 then ((l.drop u).take n, u + n, 0) else ([], 0, e) := by
  unfold gb; rw [h]
theorem gb_enc (x r : List UInt8) (hx : x.length ≤ 9223372036854775807) : gb (encB x ++ r) = (x, (encB x).length, 0) := by
  unfold encB
  rw [List.append_assoc, gb_of (gl_enc 1 x.length (x ++ r) (by omega) hx (by simp)), if_pos rfl, List.drop_left, List.take_left, List.length_append]
theorem gb_short (x : List UInt8) (k : Nat) (hx : x.length ≤ 9223372036854775807) (hk : k < (encB x).length) : gb ((encB x).take k) = ([], 0, 10) := by
  unfold encB at hk ⊢
  rcases Nat.lt_or_ge k (enc x.length).length with h | h
  · rw [List.take_append_of_le_length (by omega), gb_of (gl_short 1 x.length k hx h), if_neg (by simp)]
  · rw [List.take_append, List.take_of_length_le h, gb_of (gl_few 1 x.length _ (by omega) hx (by rw [List.length_take]; simp at hk; omega)), if_neg (by simp)]

section
variable {α : Type} {f : List UInt8 → α × Nat × Nat} {e : α → List UInt8}
theorem gls_enc (h : ∀ x r, f (e x ++ r) = (x, (e x).length, 0)) : ∀ (l : List α) (r : List UInt8), gls f l.length (l.flatMap e ++ r) = (l, (l.flatMap e).length, 0) := by
  intro l
  induction l with
  | nil => intro r; rfl
  | cons x l ih =>
    intro r
    simp only [List.length_cons, gls, List.flatMap_cons, List.append_assoc, h, List.drop_left, ih r]
    simp
theorem gls_enc' (l : List α) (h : ∀ x ∈ l, ∀ r, f (e x ++ r) = (x, (e x).length, 0)) : ∀ (r : List UInt8), gls f l.length (l.flatMap e ++ r) = (l, (l.flatMap e).length, 0) := by
  induction l with
  | nil => intro r; rfl
  | cons x l ih =>
    intro r
    have h1 := h x List.mem_cons_self
    have h2 := ih (fun y hy => h y (List.mem_cons_of_mem _ hy)) r
    simp only [List.length_cons, gls, List.flatMap_cons, List.append_assoc, h1, List.drop_left, h2]
    simp
theorem getL_of {s n u : Nat} {l : List UInt8} (h : gl s l = (n, u, 0)) : getL s f l = if (gls f n (l.drop u)).2.2 ≠ 0 then ([], 0, (gls f n (l.drop u)).2.2) else ((gls f n (l.drop u)).1, u + (gls f n (l.drop u)).2.1, 0) := by
  unfold getL; rw [h]; simp
theorem getL_bad {s c : Nat} {l : List UInt8} (h : gl s l = (0, 0, c)) (hc : c ≠ 0) : getL s f l = ([], 0, c) := by
  unfold getL; rw [h]; simp [hc]
theorem getL_enc (s : Nat) (l : List α) (h : ∀ x ∈ l, ∀ r, f (e x ++ r) = (x, (e x).length, 0)) (r : List UInt8) (hs : 1 ≤ s) (hl : l.length ≤ 9223372036854775807) (hm : s * l.length ≤ (l.flatMap e).length) :
    getL s f (encL e l ++ r) = (l, (encL e l).length, 0) := by
  unfold encL
  rw [List.append_assoc, getL_of (gl_enc s l.length _ hs hl (by rw [List.length_append]; omega)), List.drop_left, gls_enc' l h r]
  simp
theorem gls_short (l : List α) (h : ∀ x ∈ l, ∀ r, f (e x ++ r) = (x, (e x).length, 0)) (h2 : ∀ x ∈ l, ∀ k, k < (e x).length → (f ((e x).take k)).2.2 = 10) :
    ∀ k, k < (l.flatMap e).length → (gls f l.length ((l.flatMap e).take k)).2.2 = 10 := by
  induction l with
  | nil => intro k hk; simp at hk
  | cons x l ih =>
    intro k hk
    have a1 := h x List.mem_cons_self
    have a2 := h2 x List.mem_cons_self
    have a3 := ih (fun y hy => h y (List.mem_cons_of_mem _ hy)) (fun y hy => h2 y (List.mem_cons_of_mem _ hy))
    simp only [List.flatMap_cons, List.length_append] at hk
    rcases Nat.lt_or_ge k (e x).length with hlt | hge
    · simp only [List.length_cons, gls, List.flatMap_cons]
      rw [List.take_append_of_le_length (by omega), a2 k hlt]
      simp
    · simp only [List.length_cons, gls, List.flatMap_cons]
      rw [List.take_append, List.take_of_length_le hge, a1]
      have a4 := a3 (k - (e x).length) (by omega)
      simp only [List.drop_left, a4]
      simp
theorem getL_short (s : Nat) (l : List α) (h : ∀ x ∈ l, ∀ r, f (e x ++ r) = (x, (e x).length, 0)) (h2 : ∀ x ∈ l, ∀ k, k < (e x).length → (f ((e x).take k)).2.2 = 10) (hs : 1 ≤ s) (hl : l.length ≤ 9223372036854775807) (k : Nat) (hk : k < (encL e l).length) :
    (getL s f ((encL e l).take k)).2.2 = 10 := by
  unfold encL at hk ⊢
  rw [List.length_append] at hk
  rcases Nat.lt_or_ge k (enc l.length).length with hlt | hge
  · rw [List.take_append_of_le_length (by omega), getL_bad (gl_short s l.length k hl hlt) (by simp)]
  · rw [List.take_append, List.take_of_length_le hge]
    have a1 := gls_short l h h2 (k - (enc l.length).length) (by omega)
    rcases Nat.lt_or_ge ((l.flatMap e).take (k - (enc l.length).length)).length (s * l.length) with h3 | h3
    · rw [getL_bad (gl_few s l.length _ hs hl h3) (by simp)]
    · rw [getL_of (gl_enc s l.length _ hs hl h3), List.drop_left, a1]; simp

/-- What is decoded is the encoding of what came of it. -/
theorem gls_back (hf : ∀ l, (f l).2.2 = 0 → l.take (f l).2.1 = e (f l).1 ∧ (f l).2.1 ≤ l.length) : ∀ (n : Nat) (l : List UInt8), (gls f n l).2.2 = 0 → l.take (gls f n l).2.1 = (gls f n l).1.flatMap e ∧ (gls f n l).1.length = n ∧ (gls f n l).2.1 ≤ l.length := by
  intro n
  induction n with
  | zero => intro l _; simp [gls]
  | succ n ih =>
    intro l h
    simp only [gls] at h ⊢
    by_cases h1 : (f l).2.2 = 0
    · rw [if_neg (by omega)] at h ⊢
      by_cases h2 : (gls f n (l.drop (f l).2.1)).2.2 = 0
      · rw [if_neg (by omega)] at h ⊢
        obtain ⟨a, b⟩ := hf l h1
        obtain ⟨c, d, g⟩ := ih _ h2
        rw [List.length_drop] at g
        refine ⟨?_, by simp [d], by show _ + _ ≤ _; omega⟩
        show l.take ((f l).2.1 + (gls f n (l.drop (f l).2.1)).2.1) = ((f l).1 :: (gls f n (l.drop (f l).2.1)).1).flatMap e
        rw [List.flatMap_cons, ← a, ← c, List.take_add]
      · rw [if_pos h2] at h; exact absurd h h2
    · rw [if_pos h1] at h; exact absurd h h1
theorem getL_back (s : Nat) (hf : ∀ l, (f l).2.2 = 0 → l.take (f l).2.1 = e (f l).1 ∧ (f l).2.1 ≤ l.length) (l : List UInt8) (h : (getL s f l).2.2 = 0) : l.take (getL s f l).2.1 = encL e (getL s f l).1 ∧ (getL s f l).2.1 ≤ l.length := by
  rcases gl_cases s l with hc | hc | hc
  · obtain ⟨h0, h1, h2, h3, hg⟩ := hc
    obtain ⟨n, u, e0, hgl⟩ : ∃ n u e, gl s l = (n, u, e) := ⟨_, _, _, rfl⟩
    rw [hgl] at h0 h1 h2 h3 hg
    have h0' : e0 = 0 := h0
    subst h0'
    rw [getL_of hgl] at h ⊢
    by_cases hq : (gls f n (l.drop u)).2.2 = 0
    · rw [if_neg (by omega)] at h ⊢
      obtain ⟨a, b, c⟩ := gls_back hf n _ hq
      rw [List.length_drop] at c
      have h2' : u ≤ l.length := by have : u + s * n ≤ l.length := h2; omega
      have hen : l.take u = enc n := by
        rcases gi_cases l with hx | hx | hx
        · rw [hg] at hx; exact hx.2.2.2.2.1
        · rw [hg] at hx; simp at hx
        · rw [hg] at hx; simp at hx
      refine ⟨?_, by show u + _ ≤ _; omega⟩
      show l.take (u + (gls f n (l.drop u)).2.1) = encL e (gls f n (l.drop u)).1
      unfold encL
      rw [List.take_add, hen, a, b]
    · rw [if_pos hq] at h; exact absurd h hq
  · rw [getL_bad hc (by simp)] at h; simp at h
  · rw [getL_bad hc (by simp)] at h; simp at h
end

theorem gi_back (l : List UInt8) (h : (gi l).2.2 = 0) : l.take (gi l).2.1 = enc (gi l).1 ∧ (gi l).2.1 ≤ l.length := by
  rcases gi_cases l with hc | hc | hc
  · exact ⟨hc.2.2.2.2.1, hc.2.2.2.1⟩
  · rw [hc] at h; simp at h
  · rw [hc] at h; simp at h
theorem gb_back (l : List UInt8) (h : (gb l).2.2 = 0) : l.take (gb l).2.1 = encB (gb l).1 ∧ (gb l).2.1 ≤ l.length := by
  rcases gl_cases 1 l with hc | hc | hc
  · obtain ⟨h0, h1, h2, h3, hg⟩ := hc
    obtain ⟨n, u, e0, hgl⟩ : ∃ n u e, gl 1 l = (n, u, e) := ⟨_, _, _, rfl⟩
    rw [hgl] at h0 h1 h2 h3 hg
    have h0' : e0 = 0 := h0
    subst h0'
    rw [gb_of hgl, if_pos rfl]
    have h2' : u + n ≤ l.length := by have : u + 1 * n ≤ l.length := h2; omega
    have hen : l.take u = enc n := by
      rcases gi_cases l with hx | hx | hx
      · rw [hg] at hx; exact hx.2.2.2.2.1
      · rw [hg] at hx; simp at hx
      · rw [hg] at hx; simp at hx
    refine ⟨?_, h2'⟩
    show l.take (u + n) = encB ((l.drop u).take n)
    unfold encB
    rw [List.take_add, hen, show ((l.drop u).take n).length = n from by rw [List.length_take, List.length_drop]; omega]
  · rw [gb_of hc, if_neg (by simp)] at h; simp at h
  · rw [gb_of hc, if_neg (by simp)] at h; simp at h
theorem gd_back (l : List UInt8) (hl : 16 ≤ l.length) : l.take (gd l).2.1 = (gd l).1 ∧ (gd l).2.1 ≤ l.length := ⟨rfl, hl⟩

/-- Each element has at least a byte. -/
theorem flat_ge {α : Type} (e : α → List UInt8) (s : Nat) (l : List α) (h : ∀ x ∈ l, s ≤ (e x).length) : s * l.length ≤ (l.flatMap e).length := by
  induction l with
  | nil => simp
  | cons x l ih =>
    have h1 := h x List.mem_cons_self
    have h2 := ih fun y hy => h y (List.mem_cons_of_mem _ hy)
    rw [List.flatMap_cons, List.length_append, List.length_cons, Nat.mul_add, Nat.mul_one]
    omega
theorem getI_enc (l : List Int) (hz : ∀ z ∈ l, -9223372036854775808 ≤ z ∧ z ≤ 9223372036854775807) (hl : l.length ≤ 9223372036854775807) (r : List UInt8) : getL 1 gi (encI l ++ r) = (l, (encI l).length, 0) :=
  getL_enc 1 l (fun z hm r => gi_enc (hz z hm).1 (hz z hm).2 r) r (by omega) hl (flat_ge enc 1 l fun z _ => enc_pos z)

theorem gls_dig : ∀ (n : Nat) (l : List UInt8), 16 * n ≤ l.length → (gls gd n l).2.2 = 0 ∧ (gls gd n l).2.1 = 16 * n ∧ l.take (16 * n) = (gls gd n l).1.flatMap (fun d => d) ∧ (gls gd n l).1.length = n := by
  intro n
  induction n with
  | zero => intro l _; simp [gls]
  | succ n ih =>
    intro l hl
    obtain ⟨a, b, c, d⟩ := ih (l.drop 16) (by rw [List.length_drop]; omega)
    have hg : gd l = (l.take 16, 16, 0) := rfl
    simp only [gls, hg, a]
    simp only [ne_eq, not_true_eq_false, if_false]
    refine ⟨trivial, by show 16 + _ = _; omega, ?_, by simp [d]⟩
    show l.take (16 * (n + 1)) = (l.take 16 :: (gls gd n (l.drop 16)).1).flatMap (fun d => d)
    rw [List.flatMap_cons, ← c, show 16 * (n + 1) = 16 + 16 * n from by omega, List.take_add]
theorem getD_back (l : List UInt8) (h : (getL 16 gd l).2.2 = 0) : l.take (getL 16 gd l).2.1 = encD (getL 16 gd l).1 ∧ (getL 16 gd l).2.1 ≤ l.length := by
  rcases gl_cases 16 l with hc | hc | hc
  · obtain ⟨h0, h1, h2, h3, hg⟩ := hc
    obtain ⟨n, u, e0, hgl⟩ : ∃ n u e, gl 16 l = (n, u, e) := ⟨_, _, _, rfl⟩
    rw [hgl] at h0 h1 h2 h3 hg
    have h0' : e0 = 0 := h0
    subst h0'
    have h2' : u + 16 * n ≤ l.length := h2
    obtain ⟨a, b, c, d⟩ := gls_dig n (l.drop u) (by rw [List.length_drop]; omega)
    rw [getL_of hgl, if_neg (by omega)]
    have hen : l.take u = enc n := by
      rcases gi_cases l with hx | hx | hx
      · rw [hg] at hx; exact hx.2.2.2.2.1
      · rw [hg] at hx; simp at hx
      · rw [hg] at hx; simp at hx
    refine ⟨?_, by show u + _ ≤ _; omega⟩
    show l.take (u + (gls gd n (l.drop u)).2.1) = encL (fun d => d) (gls gd n (l.drop u)).1
    unfold encL
    rw [b, List.take_add, hen, c, d]
  · rw [getL_bad hc (by simp)] at h; simp at h
  · rw [getL_bad hc (by simp)] at h; simp at h
theorem getS_back (l : List UInt8) (h : (getL 1 gb l).2.2 = 0) : l.take (getL 1 gb l).2.1 = encL encB (getL 1 gb l).1 ∧ (getL 1 gb l).2.1 ≤ l.length := getL_back 1 gb_back l h
theorem getI_back (l : List UInt8) (h : (getL 1 gi l).2.2 = 0) : l.take (getL 1 gi l).2.1 = encI (getL 1 gi l).1 ∧ (getL 1 gi l).2.1 ≤ l.length := getL_back 1 gi_back l h
theorem flat16 (ds : List (List UInt8)) (h : ∀ d ∈ ds, d.length = 16) : (ds.flatMap (fun d => d)).length = 16 * ds.length := by
  induction ds with
  | nil => rfl
  | cons d r ih =>
    rw [List.flatMap_cons, List.length_append, ih fun x hx => h x (List.mem_cons_of_mem _ hx), h d List.mem_cons_self, List.length_cons]; omega
theorem getD_enc (ds : List (List UInt8)) (h : ∀ d ∈ ds, d.length = 16) (hl : ds.length ≤ 9223372036854775807) (r : List UInt8) : getL 16 gd (encD ds ++ r) = (ds, (encD ds).length, 0) :=
  getL_enc 16 ds (fun d hd r => by have := h d hd; unfold gd; rw [List.take_append_of_le_length (by omega), List.take_of_length_le (by omega), this]) r (by omega) hl (by rw [flat16 ds h]; omega)
theorem getD_short (ds : List (List UInt8)) (h : ∀ d ∈ ds, d.length = 16) (hl : ds.length ≤ 9223372036854775807) (k : Nat) (hk : k < (encD ds).length) : (getL 16 gd ((encD ds).take k)).2.2 = 10 := by
  unfold encD encL at hk ⊢
  rw [List.length_append, flat16 ds h] at hk
  rcases Nat.lt_or_ge k (enc ds.length).length with hlt | hge
  · rw [List.take_append_of_le_length (by omega), getL_bad (gl_short 16 ds.length k hl hlt) (by simp)]
  · rw [List.take_append, List.take_of_length_le hge, getL_bad (gl_few 16 ds.length _ (by omega) hl (by rw [List.length_take, flat16 ds h]; omega)) (by simp)]
end Go.Proofs.Ytpobblcokkgijaa
