/- The walk of WireDecodeMatchesSpec: program and reference answer what the same functions of the bytes say. -/
import Derived.Test.YtpobblcokkgijaaWRefLd
namespace Go.Proofs.Ytpobblcokkgijaa
open Go.RowKit Wm

theorem dec_int (A : Option Addr) (cap : Nat) (b : List UInt8) (_hc : b.length ≤ cap) (hb : b.length ≤ 2000) : ∃ (n : Int) (u e : Nat),
    (∀ W, Rd W A (bc b) → Calls Try.prog 24 #[.slice A b.length cap] W fun x w' => x = .returned (.tuple #[.int .i64 n, .int .i64 (u : Int), .int .i64 (e : Int)]) ∧ W = w') ∧
    (∀ W, Rd W A (bc b) → Calls Try.prog 25 #[.slice A b.length cap] W fun x w' => x = .returned (.tuple #[.int .i64 n, .int .i64 (u : Int), .int .i64 (e : Int)]) ∧ W = w') := by
  obtain ⟨n, u, e, hg⟩ : ∃ n u e, gi b = (n, u, e) := ⟨_, _, _, rfl⟩
  exact ⟨n, u, e, fun W hr => getInt_at hg A cap W (by omega) hr, fun W hr => rgetInt_at hg A cap W (by omega) hr⟩
theorem dec_bytes (A : Option Addr) (cap : Nat) (b : List UInt8) (hc : b.length ≤ cap) (hb : b.length ≤ 2000) : ∃ (s : ByteArray) (u e : Nat),
    (∀ W, Rd W A (bc b) → Calls Try.prog 26 #[.slice A b.length cap] W fun x w' => x = .returned (.tuple #[.string s, .int .i64 (u : Int), .int .i64 (e : Int)]) ∧ W = w') ∧
    (∀ W, Rd W A (bc b) → Calls Try.prog 27 #[.slice A b.length cap] W fun x w' => x = .returned (.tuple #[.string s, .int .i64 (u : Int), .int .i64 (e : Int)]) ∧ W = w') := by
  obtain ⟨x, u, e, hg⟩ : ∃ n u e, gb b = (n, u, e) := ⟨_, _, _, rfl⟩
  exact ⟨st x, u, e, fun W hr => getBytes_at hg A cap W hc (by omega) hr, fun W hr => rgetBytes_at hg A cap W hc (by omega) hr⟩
theorem dec_ints (A : Option Addr) (cap : Nat) (b : List UInt8) (hc : b.length ≤ cap) (hb : b.length ≤ 2000) : ∃ (xs : List Int) (u e : Nat), xs.length ≤ 1099511627776 ∧ 
    (∀ W, Rd W A (bc b) → Calls Try.prog 28 #[.slice A b.length cap] W fun x w' => ∃ A' c', x = .returned (.tuple #[.slice A' xs.length c', .int .i64 (u : Int), .int .i64 (e : Int)]) ∧ Rd w' A' (xs.map (Value.int .i64)) ∧ Below W.heap.size W w') ∧
    (∀ W, Rd W A (bc b) → Calls Try.prog 29 #[.slice A b.length cap] W fun x w' => ∃ A' c', x = .returned (.tuple #[.slice A' xs.length c', .int .i64 (u : Int), .int .i64 (e : Int)]) ∧ Rd w' A' (xs.map (Value.int .i64)) ∧ Below W.heap.size W w') := by
  obtain ⟨xs, u, e, hg⟩ : ∃ n u e, getL 1 gi b = (n, u, e) := ⟨_, _, _, rfl⟩
  have her := getL_err 1 gi b
  have hbk := getI_back b
  have hal := getL_all (f := gi) (Q := fun z => -9223372036854775808 ≤ z ∧ z ≤ 9223372036854775807) (fun l h => by
    rcases gi_cases l with hx | hx | hx
    · exact ⟨hx.2.2.2.2.2.1, hx.2.2.2.2.2.2⟩
    · rw [hx] at h; simp at h
    · rw [hx] at h; simp at h) 1 b
  rw [hg] at her hbk hal
  have hE : (encI xs).length ≤ 2010 := by
    rcases her with h | h
    · have h3 : b.take u = encI xs := (hbk h.1).1
      have h4 := congrArg List.length h3
      rw [List.length_take] at h4
      omega
    · have : xs = [] := h.2.1
      rw [this]; decide +kernel
  have hxl : xs.length ≤ 2010 := by
    have h5 := flat_ge enc 1 xs fun z _ => enc_pos z
    unfold encI encL at hE
    rw [List.length_append] at hE
    omega
  refine ⟨xs, u, e, by omega, fun W hr => ?_, fun W hr => ?_⟩
  · refine (getInts_any A cap b W hc (by omega) hr).mono ?_
    rw [hg]
    rintro y w' ⟨v, rfl, ho, hb⟩
    obtain ⟨A', c', rfl, hr', _⟩ := row_out ho
    exact ⟨A', c', rfl, hr', hb⟩
  · refine (rgetInts_any A cap b W hc (by omega) hr).mono ?_
    rw [hg]
    rintro y w' ⟨v, rfl, ho, hb⟩
    obtain ⟨A', c', rfl, hr', _⟩ := row_out ho
    exact ⟨A', c', rfl, hr', hb⟩
theorem dec_strs (A : Option Addr) (cap : Nat) (b : List UInt8) (hc : b.length ≤ cap) (hb : b.length ≤ 2000) : ∃ (xs : List ByteArray) (u e : Nat), xs.length ≤ 1099511627776 ∧ 
    (∀ W, Rd W A (bc b) → Calls Try.prog 31 #[.slice A b.length cap] W fun x w' => ∃ A' c', x = .returned (.tuple #[.slice A' xs.length c', .int .i64 (u : Int), .int .i64 (e : Int)]) ∧ Rd w' A' (xs.map Value.string) ∧ Below W.heap.size W w') ∧
    (∀ W, Rd W A (bc b) → Calls Try.prog 32 #[.slice A b.length cap] W fun x w' => ∃ A' c', x = .returned (.tuple #[.slice A' xs.length c', .int .i64 (u : Int), .int .i64 (e : Int)]) ∧ Rd w' A' (xs.map Value.string) ∧ Below W.heap.size W w') := by
  obtain ⟨xs, u, e, hg⟩ : ∃ n u e, getL 1 gb b = (n, u, e) := ⟨_, _, _, rfl⟩
  have her := getL_err 1 gb b
  have hbk := getS_back b
  rw [hg] at her hbk
  have hE : (encL encB xs).length ≤ 2010 := by
    rcases her with h | h
    · have h3 : b.take u = encL encB xs := (hbk h.1).1
      have h4 := congrArg List.length h3
      rw [List.length_take] at h4
      omega
    · have : xs = [] := h.2.1
      rw [this]; decide +kernel
  have hsl : ∀ x ∈ xs, x.length ≤ 2010 := by
    intro x hx
    have h6 : (encB x).length ≤ (xs.flatMap encB).length := by
      obtain ⟨p, q, rfl⟩ := List.append_of_mem hx
      rw [List.flatMap_append, List.flatMap_cons, List.length_append, List.length_append]; omega
    unfold encL at hE
    rw [List.length_append] at hE
    rw [encB_len] at h6
    omega
  have hxl : xs.length ≤ 2010 := by
    have h5 := flat_ge encB 1 xs fun z _ => by rw [encB_len]; have := enc_pos (z.length : Int); omega
    unfold encL at hE
    rw [List.length_append] at hE
    omega
  refine ⟨xs.map st, u, e, by rw [List.length_map]; omega, fun W hr => ?_, fun W hr => ?_⟩
  · refine (getStrings_any A cap b W hc (by omega) hr).mono ?_
    rw [hg, List.length_map]
    rintro y w' ⟨v, rfl, ho, hb⟩
    obtain ⟨A', c', rfl, hr', _⟩ := row_out ho
    exact ⟨A', c', rfl, by rw [List.map_map]; exact hr', hb⟩
  · refine (rgetStrings_any A cap b W hc (by omega) hr).mono ?_
    rw [hg, List.length_map]
    rintro y w' ⟨v, rfl, ho, hb⟩
    obtain ⟨A', c', rfl, hr', _⟩ := row_out ho
    exact ⟨A', c', rfl, by rw [List.map_map]; exact hr', hb⟩
theorem dec_digs (A : Option Addr) (cap : Nat) (b : List UInt8) (hc : b.length ≤ cap) (hb : b.length ≤ 2000) : ∃ (xs : List (List UInt8)) (u e : Nat), xs.length ≤ 1099511627776 ∧ (∀ d ∈ xs, d.length = 16) ∧ 
    (∀ W, Rd W A (bc b) → Calls Try.prog 34 #[.slice A b.length cap] W fun x w' => ∃ A' c', x = .returned (.tuple #[.slice A' xs.length c', .int .i64 (u : Int), .int .i64 (e : Int)]) ∧ Rd w' A' (dcs xs) ∧ Below W.heap.size W w') ∧
    (∀ W, Rd W A (bc b) → Calls Try.prog 35 #[.slice A b.length cap] W fun x w' => ∃ A' c', x = .returned (.tuple #[.slice A' xs.length c', .int .i64 (u : Int), .int .i64 (e : Int)]) ∧ Rd w' A' (dcs xs) ∧ Below W.heap.size W w') := by
  obtain ⟨ds, u, e, hg⟩ : ∃ n u e, getL 16 gd b = (n, u, e) := ⟨_, _, _, rfl⟩
  have her := getL_err 16 gd b
  have hbk := getD_back b
  rw [hg] at her hbk
  have h16 : ∀ d ∈ ds, d.length = 16 := by
    intro d hd
    rcases gl_cases 16 b with hx | hx | hx
    · obtain ⟨h0, h1, h2, _⟩ := hx
      have hgl : getL 16 gd b = if (gls gd (gl 16 b).1 (b.drop (gl 16 b).2.1)).2.2 ≠ 0 then ([], 0, (gls gd (gl 16 b).1 (b.drop (gl 16 b).2.1)).2.2) else ((gls gd (gl 16 b).1 (b.drop (gl 16 b).2.1)).1, (gl 16 b).2.1 + (gls gd (gl 16 b).1 (b.drop (gl 16 b).2.1)).2.1, 0) := by unfold getL; rw [if_neg (by omega)]
      have hm := gls_16 (gl 16 b).1 (b.drop (gl 16 b).2.1) (by rw [List.length_drop]; omega)
      rw [hg, if_neg (by rw [(gls_dig _ _ (by rw [List.length_drop]; omega)).1]; simp)] at hgl
      injection hgl with ha _
      rw [ha] at hd
      exact hm d hd
    · rw [getL_bad hx (by simp)] at hg; injection hg with ha _; rw [← ha] at hd; simp at hd
    · rw [getL_bad hx (by simp)] at hg; injection hg with ha _; rw [← ha] at hd; simp at hd
  have hE : (encD ds).length ≤ 2010 := by
    rcases her with h | h
    · have h3 : b.take u = encD ds := (hbk h.1).1
      have h4 := congrArg List.length h3
      rw [List.length_take] at h4
      omega
    · have : ds = [] := h.2.1
      rw [this]; decide +kernel
  have hxl : ds.length ≤ 2010 := by
    have h5 := flat16 ds h16
    unfold encD encL at hE
    rw [List.length_append] at hE
    omega
  refine ⟨ds, u, e, by omega, h16, fun W hr => ?_, fun W hr => ?_⟩
  · refine (getDigs_any A cap b W hc (by omega) hr).mono ?_
    rw [hg]
    rintro y w' ⟨v, rfl, ho, _, hb⟩
    obtain ⟨A', c', rfl, hr', _⟩ := row_out ho
    exact ⟨A', c', rfl, hr', hb⟩
  · refine (rgetDigs_any A cap b W (by omega) hr).mono ?_
    rw [hg]
    rintro y w' ⟨v, rfl, ho, _, hb⟩
    obtain ⟨A', c', rfl, hr', _⟩ := row_out ho
    exact ⟨A', c', rfl, hr', hb⟩

set_option maxRecDepth 100000 in
set_option maxHeartbeats 2000000 in
theorem walkDecode (A : Option Addr) (cap : Nat) (b : List UInt8) (w : World) (hr : Rd w A (bc b)) (hc : b.length ≤ cap) :
    Calls Try.prog 4 #[.slice A b.length cap] w fun e w' => e = .returned (.bool true) ∧ Below w.heap.size w w' := by
  by_cases hl : b.length ≤ 2000
  · obtain ⟨n1, u1, e1, ha1, hb1⟩ := dec_int A cap b hc hl
    obtain ⟨n2, u2, e2, ha2, hb2⟩ := dec_bytes A cap b hc hl
    obtain ⟨n3, u3, e3, hz3, ha3, hb3⟩ := dec_ints A cap b hc hl
    obtain ⟨n4, u4, e4, hz4, ha4, hb4⟩ := dec_strs A cap b hc hl
    obtain ⟨n5, u5, e5, hz5, h16, ha5, hb5⟩ := dec_digs A cap b hc hl
    have HR := Lib.hid hr
    have HA1 := Lib.hid ha1
    have HA2 := Lib.hid ha2
    have HA3 := Lib.hid ha3
    have HA4 := Lib.hid ha4
    have HA5 := Lib.hid ha5
    have HB1 := Lib.hid hb1
    have HB2 := Lib.hid hb2
    have HB3 := Lib.hid hb3
    have HB4 := Lib.hid hb4
    have HB5 := Lib.hid hb5
    have HZ3 := Lib.hid hz3
    have HZ4 := Lib.hid hz4
    have HZ5 := Lib.hid hz5
    have H16 := Lib.hid h16
    clear hr ha1 ha2 ha3 ha4 ha5 hb1 hb2 hb3 hb4 hb5 hz3 hz4 hz5 h16
    go_enter Try.func4, Try.ntmps4
    go_wp2_with fail
    refine (HA1.out _ HR.out).mono ?_
    rintro x w1 ⟨rfl, rfl⟩
    go_wp2_with fail
    refine (HB1.out _ HR.out).mono ?_
    rintro x w1 ⟨rfl, rfl⟩
    go_wp2_with fail
    refine (HA2.out _ HR.out).mono ?_
    rintro x w1 ⟨rfl, rfl⟩
    go_wp2_with fail
    refine (HB2.out _ HR.out).mono ?_
    rintro x w1 ⟨rfl, rfl⟩
    go_wp2_with fail
    refine (HA3.out _ HR.out).mono ?_
    rintro x w3a ⟨A3, c3, rfl, hr3, k3⟩
    have HL3 := Lib.hid hr3
    clear hr3
    go_wp2_with fail
    refine (HB3.out _ (HR.out.below k3)).mono ?_
    rintro x w3b ⟨B3, d3, rfl, hs3, j3⟩
    have HM3 := Lib.hid hs3
    clear hs3
    go_wp2_with fail
    refine (sameInts_any A3 B3 c3 d3 n3 _ (HL3.out.below j3) HM3.out HZ3.out).mono ?_
    rintro x w3c ⟨rfl, m3, rfl⟩
    have K3 := Lib.hid (Below.next k3 (Below.next j3 (below_drew w3b m3)))
    clear k3 j3
    go_wp2_with fail
    refine (HA4.out _ (HR.out.below K3.out)).mono ?_
    rintro x w4a ⟨A4, c4, rfl, hr4, k4⟩
    have HL4 := Lib.hid hr4
    clear hr4
    go_wp2_with fail
    refine (HB4.out _ ((HR.out.below K3.out).below k4)).mono ?_
    rintro x w4b ⟨B4, d4, rfl, hs4, j4⟩
    have HM4 := Lib.hid hs4
    clear hs4
    go_wp2_with fail
    refine (sameTexts_any A4 B4 c4 d4 n4 _ (HL4.out.below j4) HM4.out HZ4.out).mono ?_
    rintro x w4c ⟨rfl, m4, rfl⟩
    have K4 := Lib.hid (Below.next K3.out (Below.next k4 (Below.next j4 (below_drew w4b m4))))
    clear k4 j4
    go_wp2_with fail
    refine (HA5.out _ (HR.out.below K4.out)).mono ?_
    rintro x w5a ⟨A5, c5, rfl, hr5, k5⟩
    have HL5 := Lib.hid hr5
    clear hr5
    go_wp2_with fail
    refine (HB5.out _ ((HR.out.below K4.out).below k5)).mono ?_
    rintro x w5b ⟨B5, d5, rfl, hs5, j5⟩
    have HM5 := Lib.hid hs5
    clear hs5
    go_wp2_with fail
    refine (sanity_any _).mono ?_
    rintro x w6 ⟨rfl, k6⟩
    go_wp2_with fail
    refine (sameDigs_any A5 B5 c5 d5 n5 _ (HL5.out.below (Below.next j5 k6)) (HM5.out.below k6) H16.out HZ5.out).mono ?_
    rintro x w5c ⟨rfl, m5, rfl⟩
    have K5 := Lib.hid (Below.next K4.out (Below.next k5 (Below.next j5 (Below.next k6 (below_drew w6 m5)))))
    clear k5 j5
    go_wp2
    go_ret
    exact ⟨rfl, K5.out⟩
  · go_enter Try.func4, Try.ntmps4
    go_wp2_with (go_at_call 12; refine (sanity_any _).mono ?_; rintro e w1 ⟨rfl, hb1⟩)
    go_ret
    exact ⟨rfl, hb1⟩
end Go.Proofs.Ytpobblcokkgijaa
