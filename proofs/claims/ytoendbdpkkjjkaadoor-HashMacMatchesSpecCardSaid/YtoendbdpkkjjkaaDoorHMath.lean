/- SHA-256, keyed hashes and expanded seeds as plain functions on lists of bytes; no program is named here. -/
import Derived.Laws.CopyOwn
namespace Go.Proofs.YtoendbdpkkjjkaaDoor.Hm

structure H8 where
  (a b c d e f g h : UInt32)

def rotr (x : UInt32) (n : Nat) : UInt32 := UInt32.ofNat (x.toNat / 2 ^ n ||| x.toNat * 2 ^ (32 - n) % 4294967296)

def rnd (s : H8) (k w : UInt32) : H8 :=
  let x := s.h + (rotr s.e 6 ^^^ rotr s.e 11 ^^^ rotr s.e 25) + ((s.e &&& s.f) ^^^ (~~~s.e &&& s.g)) + k + w
  let y := (rotr s.a 2 ^^^ rotr s.a 13 ^^^ rotr s.a 22) + ((s.a &&& s.b) ^^^ (s.a &&& s.c) ^^^ (s.b &&& s.c))
  ⟨x + y, s.a, s.b, s.c, s.d + x, s.e, s.f, s.g⟩

def ini : H8 := ⟨0x6a09e667, 0xbb67ae85, 0x3c6ef372, 0xa54ff53a, 0x510e527f, 0x9b05688c, 0x1f83d9ab, 0x5be0cd19⟩
def K : List UInt32 := [
  1116352408, 1899447441, 3049323471, 3921009573, 961987163, 1508970993, 2453635748, 2870763221,
  3624381080, 310598401, 607225278, 1426881987, 1925078388, 2162078206, 2614888103, 3248222580,
  3835390401, 4022224774, 264347078, 604807628, 770255983, 1249150122, 1555081692, 1996064986,
  2554220882, 2821834349, 2952996808, 3210313671, 3336571891, 3584528711, 113926993, 338241895,
  666307205, 773529912, 1294757372, 1396182291, 1695183700, 1986661051, 2177026350, 2456956037,
  2730485921, 2820302411, 3259730800, 3345764771, 3516065817, 3600352804, 4094571909, 275423344,
  430227734, 506948616, 659060556, 883997877, 958139571, 1322822218, 1537002063, 1747873779,
  1955562222, 2024104815, 2227730452, 2361852424, 2428436474, 2756734187, 3204031479, 3329325298]

def nextW (l : List UInt32) (t : Nat) : UInt32 :=
  l.getD (t - 16) 0 + (rotr (l.getD (t - 15) 0) 7 ^^^ rotr (l.getD (t - 15) 0) 18 ^^^ UInt32.ofNat ((l.getD (t - 15) 0).toNat / 2 ^ 3)) + l.getD (t - 7) 0 +
    (rotr (l.getD (t - 2) 0) 17 ^^^ rotr (l.getD (t - 2) 0) 19 ^^^ UInt32.ofNat ((l.getD (t - 2) 0).toNat / 2 ^ 10))
def be4 (a b c d : UInt8) : UInt32 := UInt32.ofNat (a.toNat * 16777216 + b.toNat * 65536 + c.toNat * 256 + d.toNat)
def word (l : List UInt8) (t : Nat) : UInt32 := be4 (l.getD (4 * t) 0) (l.getD (4 * t + 1) 0) (l.getD (4 * t + 2) 0) (l.getD (4 * t + 3) 0)
/-- The first t words of a block's schedule. -/
def sch (l : List UInt8) : Nat → List UInt32
  | 0 => []
  | t + 1 => sch l t ++ [if t < 16 then word l t else nextW (sch l t) t]
def rounds (ws : List UInt32) (s : H8) : Nat → H8
  | 0 => s
  | t + 1 => rnd (rounds ws s t) (K.getD t 0) (ws.getD t 0)
def addH (s v : H8) : H8 := ⟨s.a + v.a, s.b + v.b, s.c + v.c, s.d + v.d, s.e + v.e, s.f + v.f, s.g + v.g, s.h + v.h⟩
def compress (s : H8) (l : List UInt8) : H8 := addH s (rounds (sch l 64) s 64)

/-- The hash value after the first n blocks. -/
def run (s : H8) (m : List UInt8) : Nat → H8
  | 0 => s
  | n + 1 => compress (run s m n) ((m.drop (64 * n)).take 64)
def be8 (n : Nat) : List UInt8 := [UInt8.ofNat (n / 72057594037927936), UInt8.ofNat (n / 281474976710656), UInt8.ofNat (n / 1099511627776), UInt8.ofNat (n / 4294967296),
  UInt8.ofNat (n / 16777216), UInt8.ofNat (n / 65536), UInt8.ofNat (n / 256), UInt8.ofNat n]
def pad (n : Nat) : List UInt8 := 128 :: List.replicate ((119 - n % 64) % 64) 0 ++ be8 (8 * n % 18446744073709551616)
def w4 (x : UInt32) : List UInt8 := [UInt8.ofNat (x.toNat / 16777216), UInt8.ofNat (x.toNat / 65536), UInt8.ofNat (x.toNat / 256), UInt8.ofNat x.toNat]
def H8.toL (s : H8) : List UInt32 := [s.a, s.b, s.c, s.d, s.e, s.f, s.g, s.h]
def H8.bytes (s : H8) : List UInt8 := s.toL.flatMap w4
def full (m : List UInt8) : List UInt8 := m ++ pad m.length
def sum (m : List UInt8) : List UInt8 := (run ini (full m) ((full m).length / 64)).bytes

theorem H8.toL_len (s : H8) : s.toL.length = 8 := rfl
theorem H8.bytes_len (s : H8) : s.bytes.length = 32 := rfl
theorem sum_len (m : List UInt8) : (sum m).length = 32 := rfl
theorem be8_len (n : Nat) : (be8 n).length = 8 := rfl
theorem pad_len (n : Nat) : (pad n).length = 9 + (119 - n % 64) % 64 := by
  unfold pad; rw [List.length_append, List.length_cons, List.length_replicate, be8_len]; omega
theorem full_mod (m : List UInt8) : (full m).length % 64 = 0 := by
  unfold full; rw [List.length_append, pad_len]; omega
theorem full_ge (m : List UInt8) : m.length + 9 ≤ (full m).length ∧ (full m).length ≤ m.length + 72 := by
  unfold full; rw [List.length_append, pad_len]; omega
theorem sch_len (l : List UInt8) : ∀ t, (sch l t).length = t := by
  intro t
  induction t with
  | zero => rfl
  | succ t ih => simp only [sch, List.length_append, ih, List.length_cons, List.length_nil]
theorem sch_get (l : List UInt8) (t k : Nat) (h : t < k) : (sch l k)[t]? = some (if t < 16 then word l t else nextW (sch l t) t) := by
  induction k with
  | zero => omega
  | succ k ih =>
    simp only [sch]
    rcases Nat.lt_or_ge t k with h1 | h1
    · rw [List.getElem?_append_left (by rw [sch_len]; exact h1)]; exact ih h1
    · obtain rfl : t = k := by omega
      rw [List.getElem?_append_right (by rw [sch_len]; exact Nat.le_refl _), sch_len]; simp
theorem K_len : K.length = 64 := rfl

theorem run_prefix (s : H8) (m c : List UInt8) : ∀ n, 64 * n ≤ m.length → run s (m ++ c) n = run s m n := by
  intro n
  induction n with
  | zero => intro _; rfl
  | succ n ih =>
    intro h
    simp only [run]
    rw [ih (by omega), List.drop_append_of_le_length (by omega), List.take_append_of_le_length (by rw [List.length_drop]; omega)]

/-- What the parts of a stream hold: the hash value, the block that is being filled, whose beginning alone counts. -/
structure StOf (v : H8) (r m : List UInt8) : Prop where
  len : r.length = 64
  val : v = run ini m (m.length / 64)
  rest : r.take (m.length % 64) = m.drop (64 * (m.length / 64))

theorem StOf.begin_ (r : List UInt8) (h : r.length = 64) : StOf ini r [] := ⟨h, rfl, by simp⟩

theorem splice_take (r c : List UInt8) (k : Nat) (h : k + c.length ≤ r.length) : (Go.splice r k c).take (k + c.length) = r.take k ++ c := by
  unfold Go.splice
  rw [← List.append_assoc]
  rw [List.take_append_of_le_length (by simp; omega)]
  exact List.take_of_length_le (by simp; omega)

theorem StOf.more {v : H8} {r m : List UInt8} (h : StOf v r m) (c : List UInt8) (hc : m.length % 64 + c.length < 64) : StOf v (Go.splice r (m.length % 64) c) (m ++ c) := by
  have hl := h.len
  have e1 : (m ++ c).length / 64 = m.length / 64 := by rw [List.length_append]; omega
  have e2 : (m ++ c).length % 64 = m.length % 64 + c.length := by rw [List.length_append]; omega
  refine ⟨?_, ?_, ?_⟩
  · rw [Go.length_splice _ _ _ (by omega)]; exact hl
  · rw [e1, run_prefix _ _ _ _ (by omega)]; exact h.val
  · rw [e1, e2, splice_take _ _ _ (by omega), h.rest, List.drop_append_of_le_length (by omega)]

theorem StOf.fill {v : H8} {r m : List UInt8} (h : StOf v r m) (c : List UInt8) (hc : m.length % 64 + c.length = 64) :
    StOf (compress v (Go.splice r (m.length % 64) c)) (Go.splice r (m.length % 64) c) (m ++ c) := by
  have hl := h.len
  have e1 : (m ++ c).length / 64 = m.length / 64 + 1 := by rw [List.length_append]; omega
  have e2 : (m ++ c).length % 64 = 0 := by rw [List.length_append]; omega
  have e3 : Go.splice r (m.length % 64) c = ((m ++ c).drop (64 * (m.length / 64))).take 64 := by
    have := splice_take r c (m.length % 64) (by omega)
    rw [List.take_of_length_le (by rw [Go.length_splice _ _ _ (by omega)]; omega), h.rest] at this
    rw [this, List.drop_append_of_le_length (by omega), List.take_of_length_le]
    rw [List.length_append, List.length_drop]; omega
  refine ⟨?_, ?_, ?_⟩
  · rw [Go.length_splice _ _ _ (by omega)]; exact hl
  · rw [e1]
    simp only [run]
    rw [run_prefix _ _ _ _ (by omega), ← h.val, ← e3]
  · rw [e1, e2, List.drop_eq_nil_of_le (by rw [List.length_append]; omega)]; simp

/-- The hash value of a stream to which the padding was added. -/
theorem StOf.sum {v : H8} {r m : List UInt8} (h : StOf v r (m ++ pad m.length)) : v.bytes = Hm.sum m := by
  unfold Hm.sum full
  rw [h.val]

/-- The block of a key, keyed hashes. -/
def keyBlock (key : List UInt8) : List UInt8 := if key.length ≤ 64 then key ++ List.replicate (64 - key.length) 0 else sum key ++ List.replicate 32 0
theorem keyBlock_len (key : List UInt8) : (keyBlock key).length = 64 := by
  unfold keyBlock
  split
  · simp; omega
  · simp [sum_len]
def xored (b : List UInt8) (x : UInt8) : List UInt8 := b.map (· ^^^ x)
theorem xored_len (b : List UInt8) (x : UInt8) : (xored b x).length = b.length := by simp [xored]
def hmac (key msg : List UInt8) : List UInt8 := sum (xored (keyBlock key) 0x5c ++ sum (xored (keyBlock key) 0x36 ++ msg))
theorem hmac_len (key msg : List UInt8) : (hmac key msg).length = 32 := sum_len _

theorem ex_abc : sum [97, 98, 99] = [186, 120, 22, 191, 143, 1, 207, 234, 65, 65, 64, 222, 93, 174, 34, 35, 176, 3, 97, 163, 150, 23, 122, 156, 180, 16, 255, 97, 242, 0, 21, 173] := by decide +kernel
theorem ex_one : (sum [1]).take 16 = [75, 245, 18, 47, 52, 69, 84, 197, 59, 222, 46, 187, 140, 210, 183, 227] := by decide +kernel
theorem ex_mac : hmac [74, 101, 102, 101] [119, 104, 97, 116, 32, 100, 111, 32, 121, 97, 32, 119, 97, 110, 116, 32, 102, 111, 114, 32, 110, 111, 116, 104, 105, 110, 103, 63] =
    [91, 220, 193, 70, 191, 96, 117, 78, 106, 4, 36, 38, 8, 149, 117, 199, 90, 0, 63, 8, 157, 39, 57, 131, 157, 236, 88, 185, 100, 236, 56, 67] := by decide +kernel
end Go.Proofs.YtoendbdpkkjjkaaDoor.Hm
