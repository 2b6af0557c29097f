/- The walk of WireListRoundTrip. -/
import Derived.Test.YtpobblcokkgijaaWOpenB
import Derived.Test.YtpobblcokkgijaaWWalkD
namespace Go.Proofs.Ytpobblcokkgijaa
open Go.RowKit Wm

theorem encS_len (ss : List ByteArray) (h : ss.length + tot ss ≤ 2000) : (encS ss).length ≤ 30000 := by
  unfold encS encL
  rw [List.length_append]
  have h1 := enc_le (n := (ss.length : Int)) (by omega) (by omega)
  have h2 : ∀ l : List ByteArray, l.length + tot l ≤ 2000 → (l.flatMap (fun s => encB s.data.toList)).length ≤ 10 * l.length + tot l := by
    intro l
    induction l with
    | nil => intro _; simp
    | cons z r ih =>
      intro h
      have ht : tot (z :: r) = z.size + tot r := by simp [tot]
      have hsz : z.data.toList.length = z.size := Array.length_toList (xs := z.data)
      rw [List.length_cons] at h ⊢
      have a := ih (by omega)
      have b := encB_le z.data.toList (by omega)
      rw [List.flatMap_cons, List.length_append]; omega
  have := h2 ss h
  omega
theorem tot_mem {ss : List ByteArray} {s : ByteArray} (h : s ∈ ss) : s.size ≤ tot ss := by
  obtain ⟨p, q, rfl⟩ := List.append_of_mem h
  unfold tot
  rw [List.map_append, List.sum_append, List.map_cons, List.sum_cons]; omega
theorem getS_enc (ss : List ByteArray) (h : ∀ s ∈ ss, s.size ≤ 9223372036854775807) (hl : ss.length ≤ 9223372036854775807) (r : List UInt8) : getL 1 gb (encS ss ++ r) = (ss.map fun s => s.data.toList, (encS ss).length, 0) := by
  have e : encS ss = encL encB (ss.map fun s => s.data.toList) := by
    unfold encS encL
    rw [List.length_map, List.flatMap_map]
  rw [e]
  refine getL_enc 1 _ (fun x hx r => ?_) r (by omega) (by rw [List.length_map]; exact hl) (flat_ge encB 1 _ fun x _ => by rw [encB_len]; have := enc_pos (x.length : Int); omega)
  obtain ⟨s, hs, rfl⟩ := List.mem_map.1 hx
  exact gb_enc _ r (by have := h s hs; rw [show s.data.toList.length = s.size from Array.length_toList (xs := s.data)]; exact this)
theorem ne_of_pos {l : List UInt8} (h : 0 < l.length) : l ≠ [] := by intro e; rw [e] at h; simp at h
theorem encL_pos {α : Type} (f : α → List UInt8) (l : List α) : 0 < (encL f l).length := by unfold encL; have := enc_pos (l.length : Int); rw [List.length_append]; omega

theorem rt_bytes (s : ByteArray) (r : List UInt8) (hs : s.size ≤ 2000) (hr : r.length ≤ 2000) : ∃ E : List UInt8, E ≠ [] ∧ E.length ≤ 30000 ∧
    (∀ W, Calls Try.prog 16 #[.string s] W fun x w' => ∃ B cB, x = .returned (.slice B E.length cB) ∧ Rd w' B (bc E) ∧ E.length ≤ cB ∧ Below W.heap.size W w') ∧
    (∀ W A c, Rd W A (bc (E ++ r)) → (E ++ r).length ≤ c → Calls Try.prog 26 #[.slice A (E.length + r.length) c] W fun x w' => x = .returned (.tuple #[.string s, .int .i64 (E.length : Int), .int .i64 0]) ∧ Below W.heap.size W w') := by
  have hsz : s.data.toList.length = s.size := Array.length_toList (xs := s.data)
  have hle := encB_le s.data.toList (by omega)
  refine ⟨encB s.data.toList, ne_of_pos (by rw [encB_len]; have := enc_pos (s.data.toList.length : Int); omega), by omega, fun W => ?_, fun W A c h1 h2 => ?_⟩
  · refine (bytes_any s W (by omega)).mono ?_
    rintro y w' ⟨v, rfl, ho, hb⟩
    obtain ⟨B, cB, rfl, hr, hcB⟩ := ho.out
    exact ⟨B, cB, rfl, hr, hcB, hb⟩
  · have h := getBytes_at (gb_enc s.data.toList r (by omega)) A c W h2 (by simp; omega) h1
    rw [List.length_append, st_of] at h
    exact h.mono fun _ _ ⟨he, hw⟩ => ⟨he, hw ▸ Below.refl _ _⟩
theorem rt_ints (A0 : Option Addr) (c0 : Nat) (zs : List Int) (r : List UInt8) (hz : ∀ z ∈ zs, -9223372036854775808 ≤ z ∧ z ≤ 9223372036854775807) (hl : zs.length ≤ 2000) (hr : r.length ≤ 2000) : ∃ E : List UInt8, E ≠ [] ∧ E.length ≤ 30000 ∧
    (∀ W, Rd W A0 (zs.map (Value.int .i64)) → Calls Try.prog 18 #[.slice A0 zs.length c0] W fun x w' => ∃ B cB, x = .returned (.slice B E.length cB) ∧ Rd w' B (bc E) ∧ E.length ≤ cB ∧ Below W.heap.size W w') ∧
    (∀ W A c, Rd W A (bc (E ++ r)) → (E ++ r).length ≤ c → Calls Try.prog 28 #[.slice A (E.length + r.length) c] W fun x w' => ∃ A' c', x = .returned (.tuple #[.slice A' zs.length c', .int .i64 (E.length : Int), .int .i64 0]) ∧ Rd w' A' (zs.map (Value.int .i64)) ∧ Below W.heap.size W w') := by
  have hle := encI_len zs hz (by omega)
  refine ⟨encI zs, ne_of_pos (encL_pos _ _), by omega, fun W h0 => ?_, fun W A c h1 h2 => ?_⟩
  · refine (ints_any A0 c0 zs W h0 hz (by omega) (by omega)).mono ?_
    rintro y w' ⟨v, rfl, ho, hb⟩
    obtain ⟨B, cB, rfl, hr, hcB⟩ := ho.out
    exact ⟨B, cB, rfl, hr, hcB, hb⟩
  · have h := getInts_any A c (encI zs ++ r) W h2 (by simp; omega) h1
    rw [getI_enc zs hz (by omega) r, List.length_append] at h
    refine h.mono ?_
    rintro y w' ⟨v, rfl, ho, hb⟩
    obtain ⟨A', c', rfl, hr', _⟩ := row_out ho
    exact ⟨A', c', rfl, hr', hb⟩
theorem rt_strs (A0 : Option Addr) (c0 : Nat) (ss : List ByteArray) (r : List UInt8) (hl : ss.length + tot ss ≤ 2000) (hr : r.length ≤ 2000) : ∃ E : List UInt8, E ≠ [] ∧ E.length ≤ 30000 ∧
    (∀ W, Rd W A0 (ss.map Value.string) → Calls Try.prog 20 #[.slice A0 ss.length c0] W fun x w' => ∃ B cB, x = .returned (.slice B E.length cB) ∧ Rd w' B (bc E) ∧ E.length ≤ cB ∧ Below W.heap.size W w') ∧
    (∀ W A c, Rd W A (bc (E ++ r)) → (E ++ r).length ≤ c → Calls Try.prog 31 #[.slice A (E.length + r.length) c] W fun x w' => ∃ A' c', x = .returned (.tuple #[.slice A' ss.length c', .int .i64 (E.length : Int), .int .i64 0]) ∧ Rd w' A' (ss.map Value.string) ∧ Below W.heap.size W w') := by
  have hle := encS_len ss hl
  have hm : ∀ s ∈ ss, s.size ≤ 2000 := fun s hs => by have := tot_mem hs; omega
  refine ⟨encS ss, ne_of_pos (encL_pos _ _), by omega, fun W h0 => ?_, fun W A c h1 h2 => ?_⟩
  · refine (strs_any A0 c0 ss W h0 (fun s hs => by have := hm s hs; omega) (by omega) (by omega)).mono ?_
    rintro y w' ⟨v, rfl, ho, hb⟩
    obtain ⟨B, cB, rfl, hr, hcB⟩ := ho.out
    exact ⟨B, cB, rfl, hr, hcB, hb⟩
  · have h := getStrings_any A c (encS ss ++ r) W h2 (by simp; omega) h1
    rw [getS_enc ss (fun s hs => by have := hm s hs; omega) (by omega) r, List.length_append] at h
    refine h.mono ?_
    rintro y w' ⟨v, rfl, ho, hb⟩
    have ho' : w'.ownsRow W.heap.size 9 1 v ss.length (ss.map Value.string) := by
      rw [List.length_map, List.map_map] at ho
      have e : ss.map ((fun x => Value.string (st x)) ∘ fun s => s.data.toList) = ss.map Value.string := List.map_congr_left fun s _ => by show Value.string (st s.data.toList) = _; rw [st_of]
      rw [e] at ho; exact ho
    obtain ⟨A', c', rfl, hr', _⟩ := row_out ho'
    exact ⟨A', c', rfl, hr', hb⟩
theorem rt_digs (A0 : Option Addr) (c0 : Nat) (ds : List (List UInt8)) (r : List UInt8) (hz : ∀ d ∈ ds, d.length = 16) (hl : ds.length ≤ 2000) (hr : r.length ≤ 2000) : ∃ E : List UInt8, E ≠ [] ∧ E.length ≤ 40000 ∧
    (∀ W, Rd W A0 (dcs ds) → Calls Try.prog 22 #[.slice A0 ds.length c0] W fun x w' => ∃ B cB, x = .returned (.slice B E.length cB) ∧ Rd w' B (bc E) ∧ E.length ≤ cB ∧ Below W.heap.size W w') ∧
    (∀ W A c, Rd W A (bc (E ++ r)) → (E ++ r).length ≤ c → Calls Try.prog 34 #[.slice A (E.length + r.length) c] W fun x w' => ∃ A' c', x = .returned (.tuple #[.slice A' ds.length c', .int .i64 (E.length : Int), .int .i64 0]) ∧ Rd w' A' (dcs ds) ∧ Below W.heap.size W w') := by
  have hle : (encD ds).length ≤ 40000 := by
    unfold encD encL
    rw [List.length_append, flat16 ds hz]
    have h1 := enc_le (n := (ds.length : Int)) (by omega) (by omega)
    omega
  refine ⟨encD ds, ne_of_pos (encL_pos _ _), hle, fun W h0 => ?_, fun W A c h1 h2 => ?_⟩
  · refine (digs_any A0 c0 ds W h0 hz (by omega) (by omega)).mono ?_
    rintro y w' ⟨v, rfl, ho, hb⟩
    obtain ⟨B, cB, rfl, hr, hcB⟩ := ho.out
    exact ⟨B, cB, rfl, hr, hcB, hb⟩
  · have h := getDigs_any A c (encD ds ++ r) W h2 (by simp; omega) h1
    rw [getD_enc ds hz (by omega) r, List.length_append] at h
    refine h.mono ?_
    rintro y w' ⟨v, rfl, ho, _, hb⟩
    obtain ⟨A', c', rfl, hr', _⟩ := row_out ho
    exact ⟨A', c', rfl, hr', hb⟩

set_option maxRecDepth 100000 in
set_option maxHeartbeats 4000000 in
theorem walkListRoundTrip (s : ByteArray) (A1 A2 A3 A4 : Option Addr) (c1 c2 c3 c4 : Nat) (zs : List Int) (ss : List ByteArray) (ds : List (List UInt8)) (r : List UInt8) (w : World)
    (hr1 : Rd w A1 (zs.map (Value.int .i64))) (hr2 : Rd w A2 (ss.map Value.string)) (hr3 : Rd w A3 (dcs ds)) (hr4 : Rd w A4 (bc r)) (hz : ∀ z ∈ zs, -9223372036854775808 ≤ z ∧ z ≤ 9223372036854775807) (hd : ∀ d ∈ ds, d.length = 16)
    (hs : s.size ≤ 1048576) (hn1 : zs.length ≤ 1048576) (hn2 : ss.length + tot ss ≤ 1048576) (hn3 : ds.length ≤ 1048576) (hn4 : r.length ≤ 1048576) :
    Calls Try.prog 8 #[.string s, .slice A1 zs.length c1, .slice A2 ss.length c2, .slice A3 ds.length c3, .slice A4 r.length c4] w fun e w' => e = .returned (.bool true) ∧ Below w.heap.size w w' := by
  have HF := Lib.hid (few_any A2 c2 ss w hr2 (by omega))
  by_cases hl : s.size + zs.length + ds.length + r.length ≤ 2000
  · by_cases hl2 : ss.length + tot ss ≤ 2000
    · rw [decide_eq_true hl2] at HF
      obtain ⟨E1, p1, q1, e1, d1⟩ := rt_bytes s r (by omega) (by omega)
      obtain ⟨E2, p2, q2, e2, d2⟩ := rt_ints A1 c1 zs r hz (by omega) (by omega)
      obtain ⟨E3, p3, q3, e3, d3⟩ := rt_digs A3 c3 ds r hd (by omega) (by omega)
      obtain ⟨E4, p4, q4, e4, d4⟩ := rt_strs A2 c2 ss r hl2 (by omega)
      have HR1 := Lib.hid hr1
      have HR2 := Lib.hid hr2
      have HR3 := Lib.hid hr3
      have HR4 := Lib.hid hr4
      have HE1 := Lib.hid e1
      have HE2 := Lib.hid e2
      have HE3 := Lib.hid e3
      have HE4 := Lib.hid e4
      have HD1 := Lib.hid d1
      have HD2 := Lib.hid d2
      have HD3 := Lib.hid d3
      have HD4 := Lib.hid d4
      have P1 := Lib.hid p1
      have P2 := Lib.hid p2
      have P3 := Lib.hid p3
      have P4 := Lib.hid p4
      have Q1 := Lib.hid (show E1.length ≤ 1099511627776 by omega)
      have Q2 := Lib.hid (show E2.length ≤ 1099511627776 by omega)
      have Q3 := Lib.hid (show E3.length ≤ 1099511627776 by omega)
      have Q4 := Lib.hid (show E4.length ≤ 1099511627776 by omega)
      have QR := Lib.hid (show r.length ≤ 1099511627776 by omega)
      have HDD := Lib.hid hd
      have NI := Lib.hid (show zs.length ≤ 1099511627776 by omega)
      have NS := Lib.hid (show ss.length ≤ 1099511627776 by omega)
      have ND := Lib.hid (show ds.length ≤ 1099511627776 by omega)
      clear hr1 hr2 hr3 hr4 e1 e2 e3 e4 d1 d2 d3 d4 p1 p2 p3 p4 q1 q2 q3 q4 hz hd hn2 hl2 hs hn1 hn3 hn4
      go_enter Try.func8, Try.ntmps8
      go_wp2_with fail
      refine HF.out.mono ?_
      rintro x w0 ⟨rfl, rfl⟩
      go_wp2_with fail
      refine (HE1.out _).mono ?_
      rintro x w1 ⟨B1, k1, rfl, g1, cc1, b1⟩
      have G1 := Lib.hid g1
      clear g1
      go_wp2_with fail
      refine (HE2.out _ (HR1.out.below b1)).mono ?_
      rintro x w2 ⟨B2, k2, rfl, g2, cc2, b2⟩
      have G2 := Lib.hid g2
      clear g2
      go_wp2_with fail
      refine (HE3.out _ (HR3.out.below (Below.next b1 b2))).mono ?_
      rintro x w3 ⟨B3, k3, rfl, g3, cc3, b3⟩
      have G3 := Lib.hid g3
      clear g3
      go_wp2_with fail
      refine (HE4.out _ (HR2.out.below (Below.next b1 (Below.next b2 b3)))).mono ?_
      rintro x w4 ⟨B4, k4, rfl, g4, cc4, b4⟩
      have G1' := Lib.hid (G1.out.below (Below.next b2 (Below.next b3 b4)))
      have G2' := Lib.hid (G2.out.below (Below.next b3 b4))
      have G3' := Lib.hid (G3.out.below b4)
      have G4' := Lib.hid g4
      have K4 := Lib.hid (Below.next b1 (Below.next b2 (Below.next b3 b4)))
      have HT := Lib.hid (HR4.out.below K4.out)
      clear b1 b2 b3 b4 g4 G1 G2 G3
      go_wp2_with (at_builtin; refine wpList_join rfl (.tmp 59) (.tmp 60) rfl B1 A4 c4 E1 r rfl rfl P1.out G1'.out HT.out Q1.out QR.out ?_; intro X5 k5 w5 l5 g5 b5)
      refine (HD1.out _ X5 k5 g5 l5).mono ?_
      rintro x w6 ⟨rfl, b6⟩
      have K6 := Lib.hid (Below.next b5 b6)
      have T6 := Lib.hid (HT.out.below K6.out)
      have G2s := Lib.hid (G2'.out.below K6.out)
      clear g5 l5 b5 b6
      go_wp2_with (at_builtin; refine wpList_join rfl (.tmp 72) (.tmp 73) rfl B2 A4 c4 E2 r rfl rfl P2.out G2s.out T6.out Q2.out QR.out ?_; intro X7 k7 w7 l7 g7 b7)
      refine (HD2.out _ X7 k7 g7 l7).mono ?_
      rintro x w8 ⟨Y8, m8, rfl, y8, b8⟩
      have YI := Lib.hid y8
      have K8 := Lib.hid (Below.next K6.out (Below.next b7 b8))
      have T8 := Lib.hid (HT.out.below K8.out)
      have G3s := Lib.hid (G3'.out.below K8.out)
      clear g7 l7 b7 b8 y8
      go_wp2_with (at_builtin; refine wpList_join rfl (.tmp 85) (.tmp 86) rfl B3 A4 c4 E3 r rfl rfl P3.out G3s.out T8.out Q3.out QR.out ?_; intro X9 k9 w9 l9 g9 b9)
      refine (HD3.out _ X9 k9 g9 l9).mono ?_
      rintro x w10 ⟨Y10, m10, rfl, y10, b10⟩
      have YD := Lib.hid y10
      have K810 := Lib.hid (Below.next b9 b10)
      have T10 := Lib.hid (T8.out.below K810.out)
      have G4s := Lib.hid (G4'.out.below (Below.next K8.out K810.out))
      clear g9 l9 b9 b10 y10
      go_wp2_with (at_builtin; refine wpList_join rfl (.tmp 98) (.tmp 99) rfl B4 A4 c4 E4 r rfl rfl P4.out G4s.out T10.out Q4.out QR.out ?_; intro X11 k11 w11 l11 g11 b11)
      refine (HD4.out _ X11 k11 g11 l11).mono ?_
      rintro x w12 ⟨Y12, m12, rfl, y12, b12⟩
      have YS := Lib.hid y12
      have K1012 := Lib.hid (Below.next b11 b12)
      clear g11 l11 b11 b12 y12
      go_wp2_with fail
      refine (sanity_any _).mono ?_
      rintro x w13 ⟨rfl, b13⟩
      have KA := Lib.hid (Below.next K4.out (Below.next K8.out (Below.next K810.out (Below.next K1012.out b13))))
      have YS' := Lib.hid (YS.out.below b13)
      have YD' := Lib.hid (YD.out.below (Below.next K1012.out b13))
      have YI' := Lib.hid (YI.out.below (Below.next K810.out (Below.next K1012.out b13)))
      clear b13
      go_wp2_with fail
      refine (sameTexts_any Y12 A2 m12 c2 ss _ YS'.out (HR2.out.below KA.out) NS.out).mono ?_
      rintro x w14 ⟨rfl, n14, e14⟩
      have K14 := Lib.hid (show Below w13.heap.size w13 w14 by rw [e14]; exact below_drew _ _)
      clear e14
      go_wp2_with fail
      refine (sameInts_any Y8 A1 m8 c1 zs _ (YI'.out.below K14.out) (HR1.out.below (Below.next KA.out K14.out)) NI.out).mono ?_
      rintro x w15 ⟨rfl, n15, e15⟩
      have K15 := Lib.hid (show Below w14.heap.size w14 w15 by rw [e15]; exact below_drew _ _)
      clear e15
      go_wp2_with fail
      refine (sameDigs_any Y10 A3 m10 c3 ds _ (YD'.out.below (Below.next K14.out K15.out)) (HR3.out.below (Below.next KA.out (Below.next K14.out K15.out))) HDD.out ND.out).mono ?_
      rintro x w16 ⟨rfl, n16, e16⟩
      have K16 := Lib.hid (show Below w15.heap.size w15 w16 by rw [e16]; exact below_drew _ _)
      clear e16
      go_wp2
      go_ret
      exact ⟨rfl, Below.next KA.out (Below.next K14.out (Below.next K15.out K16.out))⟩
    · rw [decide_eq_false hl2] at HF
      clear hr1 hr2 hr3 hr4 hz hd
      go_enter Try.func8, Try.ntmps8
      go_wp2_with (first | (go_at_call 11; refine HF.out.mono ?_; rintro x w0 ⟨rfl, rfl⟩) | (go_at_call 12; refine (sanity_any _).mono ?_; rintro e w1 ⟨rfl, hb1⟩))
      go_ret
      exact ⟨rfl, hb1⟩
  · clear HF hr1 hr2 hr3 hr4 hz hd
    go_enter Try.func8, Try.ntmps8
    go_wp2_with (go_at_call 12; refine (sanity_any _).mono ?_; rintro e w1 ⟨rfl, hb1⟩)
    go_ret
    exact ⟨rfl, hb1⟩
end Go.Proofs.Ytpobblcokkgijaa
