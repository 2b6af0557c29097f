/- Counting the digits 1 of a number by masks: plain arithmetic. -/
import Derived.Lib.BitFns
import Derived.Lib.TrailingZeros
namespace Go.Proofs.YtfbemmeonkceiaaDoor.Pc
open Go.Lib

theorem land_split (a b c d : Nat) (ha : a < 256) (hc : c < 256) : (a + 256 * b) &&& (c + 256 * d) = (a &&& c) + 256 * (b &&& d) := by
  have h1 : ((a + 256 * b) &&& (c + 256 * d)) / 2 ^ 8 = b &&& d := by
    rw [Nat.and_div_two_pow]
    rw [show (a + 256 * b) / 2 ^ 8 = b from by omega, show (c + 256 * d) / 2 ^ 8 = d from by omega]
  have h2 : ((a + 256 * b) &&& (c + 256 * d)) % 2 ^ 8 = a &&& c := by
    rw [Nat.and_mod_two_pow]
    rw [show (a + 256 * b) % 2 ^ 8 = a from by omega, show (c + 256 * d) % 2 ^ 8 = c from by omega]
  omega
def s1 (a : Nat) : Nat := ((a / 2) &&& 0x55) + (a &&& 0x55)
def s2 (a : Nat) : Nat := ((a / 4) &&& 0x33) + (a &&& 0x33)
def s3 (a : Nat) : Nat := (a / 16 + a) &&& 0x0f
def rep (m : Nat) : Nat → Nat
  | 0 => 0
  | k + 1 => m + 256 * rep m k
theorem byte1 : ∀ a : Fin 256, ∀ c : Fin 2, (a.val / 2 + 128 * c.val) &&& 0x55 = (a.val / 2) &&& 0x55 := by decide +kernel
theorem byte2 : ∀ a : Fin 256, ∀ c : Fin 4, (a.val / 4 + 64 * c.val) &&& 0x33 = (a.val / 4) &&& 0x33 := by decide +kernel
theorem byte3 : ∀ a : Fin 256, ∀ c : Fin 16, (a.val / 16 + a.val + 16 * c.val) % 256 &&& 0x0f = (a.val / 16 + a.val) % 256 &&& 0x0f := by decide +kernel
theorem step1 (k a b : Nat) (ha : a < 256) : (((a + 256 * b) / 2) &&& rep 0x55 (k + 1)) + ((a + 256 * b) &&& rep 0x55 (k + 1)) = s1 a + 256 * (((b / 2) &&& rep 0x55 k) + (b &&& rep 0x55 k)) := by
  have e := byte1 ⟨a, ha⟩ ⟨b % 2, by omega⟩
  simp only at e
  have h1 : ((a + 256 * b) / 2) = (a / 2 + 128 * (b % 2)) + 256 * (b / 2) := by omega
  rw [show rep 0x55 (k + 1) = 0x55 + 256 * rep 0x55 k from rfl, h1, land_split _ _ _ _ (by omega) (by omega), land_split _ _ _ _ ha (by omega), e]
  unfold s1; omega
theorem step2 (k a b : Nat) (ha : a < 256) : (((a + 256 * b) / 4) &&& rep 0x33 (k + 1)) + ((a + 256 * b) &&& rep 0x33 (k + 1)) = s2 a + 256 * (((b / 4) &&& rep 0x33 k) + (b &&& rep 0x33 k)) := by
  have e := byte2 ⟨a, ha⟩ ⟨b % 4, by omega⟩
  simp only at e
  have h1 : ((a + 256 * b) / 4) = (a / 4 + 64 * (b % 4)) + 256 * (b / 4) := by omega
  rw [show rep 0x33 (k + 1) = 0x33 + 256 * rep 0x33 k from rfl, h1, land_split _ _ _ _ (by omega) (by omega), land_split _ _ _ _ ha (by omega), e]
  unfold s2; omega
/-- Nibbles at most 4. -/
theorem step3 (k a b : Nat) (ha : a < 256) (h1 : a / 16 ≤ 4) (h2 : a % 16 ≤ 4) (h3 : b % 16 ≤ 4) : ((a + 256 * b) / 16 + (a + 256 * b)) &&& rep 0x0f (k + 1) = s3 a + 256 * ((b / 16 + b) &&& rep 0x0f k) := by
  obtain ⟨c, hc⟩ : ∃ c, b % 16 = c := ⟨_, rfl⟩
  rw [hc] at h3
  have e := byte3 ⟨a, ha⟩ ⟨c, by omega⟩
  simp only at e
  have l1 : a / 16 + a + 16 * c < 256 := by omega
  have l2 : a / 16 + a < 256 := by omega
  rw [Nat.mod_eq_of_lt l1, Nat.mod_eq_of_lt l2] at e
  have h1 : ((a + 256 * b) / 16 + (a + 256 * b)) = (a / 16 + a + 16 * c) + 256 * (b / 16 + b) := by omega
  rw [show rep 0x0f (k + 1) = 0x0f + 256 * rep 0x0f k from rfl, h1, land_split _ _ _ _ l1 (by omega), e]
  rfl
theorem s1_lt : ∀ a : Fin 256, s1 a.val < 256 := by decide +kernel
theorem s2_nib : ∀ a : Fin 256, s2 (s1 a.val) / 16 ≤ 4 ∧ s2 (s1 a.val) % 16 ≤ 4 ∧ s2 (s1 a.val) < 256 := by decide +kernel
theorem s3_pop : ∀ a : Fin 256, s3 (s2 (s1 a.val)) = popAux 8 a.val := by decide +kernel
theorem pop8 : ∀ a : Fin 256, popAux 8 a.val ≤ 8 := by decide +kernel
theorem pop_split (f a b : Nat) (ha : a < 256) : popAux (f + 8) (a + 256 * b) = popAux 8 a + popAux f b := by
  have e : ∀ g x, popAux (g + 8) x = x % 2 + (x / 2 % 2 + (x / 2 / 2 % 2 + (x / 2 / 2 / 2 % 2 + (x / 2 / 2 / 2 / 2 % 2 + (x / 2 / 2 / 2 / 2 / 2 % 2 + (x / 2 / 2 / 2 / 2 / 2 / 2 % 2 + (x / 2 / 2 / 2 / 2 / 2 / 2 / 2 % 2 + popAux g (x / 2 / 2 / 2 / 2 / 2 / 2 / 2 / 2)))))))) := fun g x => rfl
  rw [e f, show popAux 8 a = popAux (0 + 8) a from rfl, e 0, show popAux 0 _ = 0 from rfl, show (a + 256 * b) / 2 / 2 / 2 / 2 / 2 / 2 / 2 / 2 = b from by omega]
  omega

/-- The three masked steps over k bytes: each byte becomes its number of digits 1. -/
def w1 (k x : Nat) : Nat := ((x / 2) &&& rep 0x55 k) + (x &&& rep 0x55 k)
def w2 (k x : Nat) : Nat := ((x / 4) &&& rep 0x33 k) + (x &&& rep 0x33 k)
def w3 (k x : Nat) : Nat := (x / 16 + x) &&& rep 0x0f k
def bytes : List Nat → Nat
  | [] => 0
  | a :: r => a + 256 * bytes r
theorem w1_bytes : ∀ (l : List Nat), (∀ a ∈ l, a < 256) → w1 l.length (bytes l) = bytes (l.map s1)
  | [], _ => rfl
  | a :: r, h => by
    have h1 := w1_bytes r fun x hx => h x (List.mem_cons_of_mem _ hx)
    have h2 := step1 r.length a (bytes r) (h a List.mem_cons_self)
    unfold w1 at h1 ⊢
    simp only [List.length_cons, bytes, List.map_cons]
    rw [h2, h1]
theorem w2_bytes : ∀ (l : List Nat), (∀ a ∈ l, a < 256) → w2 l.length (bytes l) = bytes (l.map s2)
  | [], _ => rfl
  | a :: r, h => by
    have h1 := w2_bytes r fun x hx => h x (List.mem_cons_of_mem _ hx)
    have h2 := step2 r.length a (bytes r) (h a List.mem_cons_self)
    unfold w2 at h1 ⊢
    simp only [List.length_cons, bytes, List.map_cons]
    rw [h2, h1]
theorem w3_bytes : ∀ (l : List Nat), (∀ a ∈ l, a < 256 ∧ a / 16 ≤ 4 ∧ a % 16 ≤ 4) → w3 l.length (bytes l) = bytes (l.map s3)
  | [], _ => rfl
  | a :: r, h => by
    have h1 := w3_bytes r fun x hx => h x (List.mem_cons_of_mem _ hx)
    obtain ⟨ha, hb, hc⟩ := h a List.mem_cons_self
    have hm : bytes r % 16 ≤ 4 := by
      rcases r with _ | ⟨b, q⟩
      · simp [bytes]
      · have := (h b (by simp)).2.2; simp only [bytes]; omega
    have h2 := step3 r.length a (bytes r) ha hb hc hm
    unfold w3 at h1 ⊢
    simp only [List.length_cons, bytes, List.map_cons]
    rw [h2, h1]
theorem masked (l : List Nat) (h : ∀ a ∈ l, a < 256) : w3 l.length (w2 l.length (w1 l.length (bytes l))) = bytes (l.map (popAux 8)) := by
  have e1 := w1_bytes l h
  have e2 := w2_bytes (l.map s1) (by intro a ha; obtain ⟨b, hb, rfl⟩ := List.mem_map.1 ha; exact s1_lt ⟨b, h b hb⟩)
  have e3 := w3_bytes ((l.map s1).map s2) (by
    intro a ha
    obtain ⟨c, hc, rfl⟩ := List.mem_map.1 ha
    obtain ⟨b, hb, rfl⟩ := List.mem_map.1 hc
    have := s2_nib ⟨b, h b hb⟩
    exact ⟨this.2.2, this.1, this.2.1⟩)
  rw [List.length_map] at e2
  rw [List.length_map, List.length_map] at e3
  rw [e1, e2, e3, List.map_map, List.map_map]
  congr 1
  refine List.map_congr_left fun b hb => ?_
  exact s3_pop ⟨b, h b hb⟩
/-- A number of eight bytes. -/
def by8 (x : Nat) : List Nat := [x % 256, x / 256 % 256, x / 65536 % 256, x / 16777216 % 256, x / 4294967296 % 256, x / 1099511627776 % 256, x / 281474976710656 % 256, x / 72057594037927936 % 256]
theorem by8_bytes (x : Nat) (h : x < 18446744073709551616) : bytes (by8 x) = x := by simp only [by8, bytes]; omega
theorem by8_lt (x : Nat) : ∀ a ∈ by8 x, a < 256 := by
  intro a ha
  simp only [by8, List.mem_cons, List.not_mem_nil, or_false] at ha
  omega
theorem pop_by8 (x : Nat) (h : x < 18446744073709551616) : popAux 64 x = ((by8 x).map (popAux 8)).sum := by
  conv => lhs; rw [← by8_bytes x h]
  have hl := by8_lt x
  obtain ⟨a, b, c, d, e, f, g, i, hq⟩ : ∃ a b c d e f g i, by8 x = [a, b, c, d, e, f, g, i] := ⟨_, _, _, _, _, _, _, _, rfl⟩
  rw [hq] at hl ⊢
  simp only [List.mem_cons, List.not_mem_nil, or_false, forall_eq_or_imp, forall_eq] at hl
  obtain ⟨ha, hb, hc, hd, he, hf, hg, hi⟩ := hl
  simp only [bytes]
  rw [show 64 = 56 + 8 from rfl, pop_split 56 _ _ ha, show 56 = 48 + 8 from rfl, pop_split 48 _ _ hb, show 48 = 40 + 8 from rfl, pop_split 40 _ _ hc, show 40 = 32 + 8 from rfl, pop_split 32 _ _ hd, show 32 = 24 + 8 from rfl, pop_split 24 _ _ he, show 24 = 16 + 8 from rfl, pop_split 16 _ _ hf, show 16 = 8 + 8 from rfl, pop_split 8 _ _ hg]
  have : popAux 8 (i + 256 * 0) = popAux 8 i := by rw [Nat.mul_zero, Nat.add_zero]
  simp only [List.map_cons, List.map_nil, List.sum_cons, List.sum_nil]
  omega
theorem sum_a (x3 za r1 : Nat) (h : x3 = za + 256 * r1) (ha : za ≤ 8) : x3 / 256 = r1 := by omega
theorem sum_b (x4 za zb zc r1 r2 r3 : Nat) (h : x4 = za + 256 * r1 + r1) (h1 : r1 = zb + 256 * r2) (h2 : r2 = zc + 256 * r3) (ha : za ≤ 8) (hb : zb ≤ 8) (hc : zc ≤ 8) : x4 / 65536 = r2 + r3 ∧ x4 = (za + zb + 256 * (zb + zc)) + 65536 * (r2 + r3) := by omega
theorem sum_c (x5 za zb zc zd ze zf zg r2 r3 r4 r5 r6 r7 : Nat) (h : x5 = (za + zb + 256 * (zb + zc)) + 65536 * (r2 + r3) + (r2 + r3)) (h2 : r2 = zc + 256 * r3) (h3 : r3 = zd + 256 * r4) (h4 : r4 = ze + 256 * r5) (h5 : r5 = zf + 256 * r6) (h6 : r6 = zg + 256 * r7) :
    x5 = ((za + zb + zc + zd) + 256 * (zb + zc + zd + ze + 256 * (zc + zd + ze + zf) + 65536 * (zd + ze + zf + zg))) + 4294967296 * (r4 + r5 + r6 + r7) := by omega
theorem sum_e (za zb zc zd ze zf zg : Nat) (ha : za ≤ 8) (hb : zb ≤ 8) (hc : zc ≤ 8) (hd : zd ≤ 8) (he : ze ≤ 8) (hf : zf ≤ 8) (hg : zg ≤ 8) : (za + zb + zc + zd) + 256 * (zb + zc + zd + ze + 256 * (zc + zd + ze + zf) + 65536 * (zd + ze + zf + zg)) < 4294967296 := by omega
theorem sum_f (x5 lo r : Nat) (h : x5 = lo + 4294967296 * r) (hl : lo < 4294967296) : x5 / 4294967296 = r := by omega
theorem sum_g (x6 x5 s k r : Nat) (h : x6 = x5 + r) (h5 : x5 = (s + 256 * k) + 4294967296 * r) : x6 = s + 256 * (k + 16777216 * r) + r := by omega
theorem sum_h (s ze zf zg zi r4 r5 r6 : Nat) (h4 : r4 = ze + 256 * r5) (h5 : r5 = zf + 256 * r6) (h6 : r6 = zg + 256 * zi) : (s + (r4 + r5 + r6 + zi)) % 128 = (s + ze + zf + zg + zi) % 128 := by omega
theorem sum_i (x3 za zb zc zd ze zf zg zi r1 r2 r3 r4 r5 r6 : Nat) (h3 : x3 = za + 256 * r1) (e1 : r1 = zb + 256 * r2) (e2 : r2 = zc + 256 * r3) (e3 : r3 = zd + 256 * r4) (e4 : r4 = ze + 256 * r5) (e5 : r5 = zf + 256 * r6) (e6 : r6 = zg + 256 * zi)
    (ha : za ≤ 8) (hb : zb ≤ 8) (hc : zc ≤ 8) (hd : zd ≤ 8) (he : ze ≤ 8) (hf : zf ≤ 8) (hg : zg ≤ 8) (hi : zi ≤ 8) : x3 ≤ 600000000000000000 := by omega
theorem sum_d (x6 s k m : Nat) (h : x6 = s + 256 * k + m) : x6 % 128 = (s + m) % 128 := by omega
set_option maxHeartbeats 1000000 in
/-- The sum of the eight bytes. -/
theorem summed (x : Nat) (h : x < 18446744073709551616) (x3 x4 x5 x6 : Nat) (h3 : x3 = w3 8 (w2 8 (w1 8 x))) (h4 : x4 = x3 + x3 / 256) (h5 : x5 = x4 + x4 / 65536) (h6 : x6 = x5 + x5 / 4294967296) :
    x6 % 128 = popAux 64 x ∧ x3 ≤ 600000000000000000 ∧ popAux 64 x ≤ 64 := by
  have hm := masked (by8 x) (by8_lt x)
  rw [by8_bytes x h, show (by8 x).length = 8 from rfl] at hm
  rw [hm] at h3
  have hp := pop_by8 x h
  rw [hp]
  have hl := by8_lt x
  obtain ⟨l, hq⟩ : ∃ l, by8 x = l := ⟨_, rfl⟩
  have hlen : l.length = 8 := by rw [← hq]; rfl
  rw [hq] at hl h3
  rw [hq]
  clear hp hm hq h
  obtain ⟨zs, hz⟩ : ∃ zs, l.map (popAux 8) = zs := ⟨_, rfl⟩
  have hzl : zs.length = 8 := by rw [← hz, List.length_map, hlen]
  have hz8 : ∀ z ∈ zs, z ≤ 8 := by
    intro z hzz
    rw [← hz] at hzz
    obtain ⟨a, ha, rfl⟩ := List.mem_map.1 hzz
    exact pop8 ⟨a, hl a ha⟩
  rw [hz] at h3
  rw [hz]
  clear hz hl hlen
  match zs, hzl with
  | [za, zb, zc, zd, ze, zf, zg, zi], _ =>
    simp only [List.mem_cons, List.not_mem_nil, or_false, forall_eq_or_imp, forall_eq] at hz8
    obtain ⟨ha, hb, hc, hd, he, hf, hg, hi⟩ := hz8
    simp only [bytes] at h3
    simp only [List.sum_cons, List.sum_nil]
    obtain ⟨r7, e7⟩ : ∃ r, r = zi + 256 * 0 := ⟨_, rfl⟩
    rw [← e7] at h3
    obtain ⟨r6, e6⟩ : ∃ r, r = zg + 256 * r7 := ⟨_, rfl⟩
    rw [← e6] at h3
    obtain ⟨r5, e5⟩ : ∃ r, r = zf + 256 * r6 := ⟨_, rfl⟩
    rw [← e5] at h3
    obtain ⟨r4, e4⟩ : ∃ r, r = ze + 256 * r5 := ⟨_, rfl⟩
    rw [← e4] at h3
    obtain ⟨r3, e3⟩ : ∃ r, r = zd + 256 * r4 := ⟨_, rfl⟩
    rw [← e3] at h3
    obtain ⟨r2, e2⟩ : ∃ r, r = zc + 256 * r3 := ⟨_, rfl⟩
    rw [← e2] at h3
    obtain ⟨r1, e1⟩ : ∃ r, r = zb + 256 * r2 := ⟨_, rfl⟩
    rw [← e1] at h3
    rw [sum_a x3 za r1 h3 ha] at h4
    obtain ⟨hb1, hb2⟩ := sum_b x4 za zb zc r1 r2 r3 (by rw [h4, h3]) e1 e2 ha hb hc
    rw [hb1, hb2] at h5
    have hx5 := sum_c x5 za zb zc zd ze zf zg r2 r3 r4 r5 r6 r7 h5 e2 e3 e4 e5 e6
    have hlo := sum_e za zb zc zd ze zf zg ha hb hc hd he hf hg
    rw [sum_f x5 _ _ hx5 hlo] at h6
    have hx6 := sum_d x6 _ _ _ (sum_g x6 x5 _ _ _ h6 hx5)
    obtain rfl : r7 = zi := by rw [e7, Nat.mul_zero, Nat.add_zero]
    have hr := sum_h (za + zb + zc + zd) ze zf zg r7 r4 r5 r6 e4 e5 e6
    have hb3 := sum_i x3 za zb zc zd ze zf zg r7 r1 r2 r3 r4 r5 r6 h3 e1 e2 e3 e4 e5 e6 ha hb hc hd he hf hg hi
    rw [hr] at hx6
    refine ⟨?_, hb3, ?_⟩
    · rw [hx6]; clear hx6 hr hb3 hx5 hlo h6 hb1 hb2 h4 h3 h5 e1 e2 e3 e4 e5 e6 e7; omega
    · clear hx6 hr hb3 hx5 hlo h6 hb1 hb2 h4 h3 h5 e1 e2 e3 e4 e5 e6 e7; omega
end Go.Proofs.YtfbemmeonkceiaaDoor.Pc
