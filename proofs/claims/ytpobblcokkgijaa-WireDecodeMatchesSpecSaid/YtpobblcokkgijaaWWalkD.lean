/- The walk of WireCanonical. -/
import Derived.Test.YtpobblcokkgijaaWWalkA
import Derived.Test.YtpobblcokkgijaaWMathB
namespace Go.Proofs.Ytpobblcokkgijaa
open Go.RowKit Wm

set_option maxRecDepth 100000 in
set_option maxHeartbeats 1000000 in
/-- An error: nothing is asked. -/
theorem consumed_err (A B : Option Addr) (n c m c' : Nat) (u : Int) (e : Int) (he : e ≠ 0) (w : World) :
    Calls Try.prog 37 #[.slice A n c, .slice B m c', .int .i64 u, .int .i64 e] w fun x w' => x = .returned (.bool true) ∧ w = w' := by
  have hb : (e == 0) = false := beq_eq_false_iff_ne.2 he
  have hb2 : (e != 0) = true := by rw [bne_iff_ne]; exact he
  clear he
  go_enter Try.func37, Try.ntmps37
  go_wp2
  go_ret
  exact ⟨rfl, rfl⟩

set_option maxRecDepth 100000 in
set_option maxHeartbeats 1000000 in
theorem consumed_ok (A B : Option Addr) (c c' : Nat) (l E : List UInt8) (u : Nat) (w : World) (hl : Rd w A (bc l)) (hE : Rd w B (bc E)) (hlc : l.length ≤ c) (hn : l.length ≤ 1099511627776) (hu1 : 1 ≤ u) (hu : u ≤ l.length) (hEl : l.take u = E) :
    Calls Try.prog 37 #[.slice A l.length c, .slice B E.length c', .int .i64 (u : Int), .int .i64 0] w fun x w' => x = .returned (.bool true) ∧ w = w' := by
  have hcall : Calls Try.prog 13 #[.slice B E.length c', .slice A u c] w fun e w' => e = .returned (.bool true) ∧ w = w' := by
    have ht := hl.take u
    rw [← bc_take] at ht
    have h := same_any B A c' c E (l.take u) w hE ht
    rw [List.length_take, Nat.min_eq_left hu] at h
    refine h.mono fun e w' ⟨he, hw⟩ => ⟨?_, hw⟩
    rw [he, hEl]; simp
  have HC := Lib.hid hcall
  clear hcall hl hE hEl
  rcases Nat.lt_or_ge u l.length with h1 | h1
  · go_enter Try.func37, Try.ntmps37
    go_wp2_with fail
    refine HC.out.mono ?_
    rintro e w' ⟨rfl, rfl⟩
    go_wp2
    go_ret
    exact ⟨rfl, rfl⟩
  · obtain rfl : u = l.length := by omega
    go_enter Try.func37, Try.ntmps37
    go_wp2_with fail
    refine HC.out.mono ?_
    rintro e w' ⟨rfl, rfl⟩
    go_wp2
    go_ret
    exact ⟨rfl, rfl⟩

theorem consumed_any (A B : Option Addr) (c c' : Nat) (l E : List UInt8) (u e : Nat) (w : World) (hl : Rd w A (bc l)) (hE : Rd w B (bc E)) (hlc : l.length ≤ c) (hn : l.length ≤ 1099511627776) (h : e = 0 → 1 ≤ u ∧ u ≤ l.length ∧ l.take u = E) :
    Calls Try.prog 37 #[.slice A l.length c, .slice B E.length c', .int .i64 (u : Int), .int .i64 (e : Int)] w fun x w' => x = .returned (.bool true) ∧ w = w' := by
  by_cases he : e = 0
  · subst he
    obtain ⟨h1, h2, h3⟩ := h rfl
    exact consumed_ok A B c c' l E u w hl hE hlc hn h1 h2 h3
  · exact consumed_err A B l.length c E.length c' u e (by omega) w

theorem gls_all {α : Type} {f : List UInt8 → α × Nat × Nat} {Q : α → Prop} (h : ∀ l, (f l).2.2 = 0 → Q (f l).1) : ∀ (n : Nat) (l : List UInt8), ∀ x ∈ (gls f n l).1, Q x := by
  intro n
  induction n with
  | zero => intro l x hx; simp [gls] at hx
  | succ n ih =>
    intro l x hx
    simp only [gls] at hx
    split at hx
    · simp at hx
    · rename_i h1
      split at hx
      · simp at hx
      · rcases List.mem_cons.1 hx with rfl | h2
        · exact h l (by omega)
        · exact ih _ x h2
theorem getL_all {α : Type} {f : List UInt8 → α × Nat × Nat} {Q : α → Prop} (h : ∀ l, (f l).2.2 = 0 → Q (f l).1) (s : Nat) (l : List UInt8) : ∀ x ∈ (getL s f l).1, Q x := by
  intro x hx
  unfold getL at hx
  split at hx
  · simp at hx
  · split at hx
    · simp at hx
    · exact gls_all h _ _ x hx
theorem getL_err {α : Type} (s : Nat) (f : List UInt8 → α × Nat × Nat) (l : List UInt8) : (getL s f l).2.2 = 0 ∧ 1 ≤ (getL s f l).2.1 ∨ (getL s f l).2.2 ≠ 0 ∧ (getL s f l).1 = [] ∧ (getL s f l).2.1 = 0 := by
  unfold getL
  by_cases h1 : (gl s l).2.2 ≠ 0
  · rw [if_pos h1]; exact .inr ⟨h1, rfl, rfl⟩
  · rw [if_neg h1]
    by_cases h2 : (gls f (gl s l).1 (l.drop (gl s l).2.1)).2.2 ≠ 0
    · rw [if_pos h2]; exact .inr ⟨h2, rfl, rfl⟩
    · rw [if_neg h2]
      left
      refine ⟨rfl, ?_⟩
      rcases gl_cases s l with hc | hc | hc
      · have := hc.2.1
        show 1 ≤ _ + _
        omega
      · rw [hc] at h1; simp at h1
      · rw [hc] at h1; simp at h1
theorem gls_16 : ∀ (n : Nat) (l : List UInt8), 16 * n ≤ l.length → ∀ d ∈ (gls gd n l).1, d.length = 16 := by
  intro n
  induction n with
  | zero => intro l _ d hd; simp [gls] at hd
  | succ n ih =>
    intro l hl d hd
    have hg : gd l = (l.take 16, 16, 0) := rfl
    have h0 := (gls_dig n (l.drop 16) (by rw [List.length_drop]; omega)).1
    simp only [gls, hg, h0] at hd
    simp only [ne_eq, not_true_eq_false, if_false] at hd
    rcases List.mem_cons.1 hd with rfl | h2
    · rw [List.length_take]; omega
    · exact ih _ (by rw [List.length_drop]; omega) d h2
theorem encS_st (xs : List (List UInt8)) : encS (xs.map st) = encL encB xs := by
  unfold encS encL
  rw [List.length_map, List.flatMap_map]
  congr 1

/-- What is decoded as an integer, encoded again, is what was consumed. -/
theorem canon_int (A : Option Addr) (cap : Nat) (b : List UInt8) (hc : b.length ≤ cap) (hb : b.length ≤ 2000) : ∃ (n : Int) (u e : Nat) (E : List UInt8),
    (∀ W, Rd W A (bc b) → Calls Try.prog 24 #[.slice A b.length cap] W fun x w' => x = .returned (.tuple #[.int .i64 n, .int .i64 (u : Int), .int .i64 (e : Int)]) ∧ W = w') ∧
    (∀ W, Calls Try.prog 14 #[.int .i64 n] W fun x w' => ∃ B cB, x = .returned (.slice B E.length cB) ∧ Rd w' B (bc E) ∧ Below W.heap.size W w') ∧
    (∀ W B c', Rd W A (bc b) → Rd W B (bc E) → Calls Try.prog 37 #[.slice A b.length cap, .slice B E.length c', .int .i64 (u : Int), .int .i64 (e : Int)] W fun x w' => x = .returned (.bool true) ∧ W = w') := by
  obtain ⟨n, u, e, hg⟩ : ∃ n u e, gi b = (n, u, e) := ⟨_, _, _, rfl⟩
  have hcs := gi_cases b
  rw [hg] at hcs
  have hn : -9223372036854775808 ≤ n ∧ n ≤ 9223372036854775807 := by
    rcases hcs with h | h | h
    · exact ⟨h.2.2.2.2.2.1, h.2.2.2.2.2.2⟩
    · injection h with a _; subst a; decide
    · injection h with a _; subst a; decide
  refine ⟨n, u, e, enc n, fun W hr => getInt_at hg A cap W (by omega) hr, fun W => ?_, fun W B c' h1 h2 => consumed_any A B cap c' b _ u e W h1 h2 hc (by omega) ?_⟩
  · refine (int_any n W hn.1 hn.2).mono ?_
    rintro x w' ⟨v, rfl, ho, hb⟩
    obtain ⟨B, cB, rfl, hr, _⟩ := ho.out
    exact ⟨B, cB, rfl, hr, hb⟩
  · intro he
    rcases hcs with h | h | h
    · exact ⟨h.2.1, h.2.2.2.1, h.2.2.2.2.1⟩
    · injection h with _ a; injection a with _ a; omega
    · injection h with _ a; injection a with _ a; omega
theorem canon_bytes (A : Option Addr) (cap : Nat) (b : List UInt8) (hc : b.length ≤ cap) (hb : b.length ≤ 2000) : ∃ (s : ByteArray) (u e : Nat) (E : List UInt8),
    (∀ W, Rd W A (bc b) → Calls Try.prog 26 #[.slice A b.length cap] W fun x w' => x = .returned (.tuple #[.string s, .int .i64 (u : Int), .int .i64 (e : Int)]) ∧ W = w') ∧
    (∀ W, Calls Try.prog 16 #[.string s] W fun x w' => ∃ B cB, x = .returned (.slice B E.length cB) ∧ Rd w' B (bc E) ∧ Below W.heap.size W w') ∧
    (∀ W B c', Rd W A (bc b) → Rd W B (bc E) → Calls Try.prog 37 #[.slice A b.length cap, .slice B E.length c', .int .i64 (u : Int), .int .i64 (e : Int)] W fun x w' => x = .returned (.bool true) ∧ W = w') := by
  obtain ⟨x, u, e, hg⟩ : ∃ n u e, gb b = (n, u, e) := ⟨_, _, _, rfl⟩
  have hat := gb_at b
  have hbk := gb_back b
  rw [hg] at hat hbk
  have hxl : x.length ≤ 2000 := by
    rcases hat with h | h
    · obtain ⟨h1, h2⟩ := hbk h.1
      have h3 : b.take u = encB x := h1
      have h4 := congrArg List.length h3
      rw [List.length_take] at h4
      unfold encB at h4
      rw [List.length_append] at h4
      omega
    · have : x = [] := h.1
      rw [this]; simp
  refine ⟨st x, u, e, encB x, fun W hr => getBytes_at hg A cap W hc (by omega) hr, fun W => ?_, fun W B c' h1 h2 => consumed_any A B cap c' b _ u e W h1 h2 hc (by omega) ?_⟩
  · refine (bytes_any (st x) W (by rw [st_size]; omega)).mono ?_
    rw [st_list]
    rintro y w' ⟨v, rfl, ho, hb⟩
    obtain ⟨B, cB, rfl, hr, _⟩ := ho.out
    exact ⟨B, cB, rfl, hr, hb⟩
  · intro he
    obtain ⟨h1, h2⟩ := hbk he
    rcases hat with h | h
    · exact ⟨h.2.1, h2, h1⟩
    · have : e = 10 ∨ e = 11 := h.2.2
      omega
theorem canon_ints (A : Option Addr) (cap : Nat) (b : List UInt8) (hc : b.length ≤ cap) (hb : b.length ≤ 2000) : ∃ (xs : List Int) (u e : Nat) (E : List UInt8),
    (∀ W, Rd W A (bc b) → Calls Try.prog 28 #[.slice A b.length cap] W fun x w' => ∃ A' c', x = .returned (.tuple #[.slice A' xs.length c', .int .i64 (u : Int), .int .i64 (e : Int)]) ∧ Rd w' A' (xs.map (Value.int .i64)) ∧ Below W.heap.size W w') ∧
    (∀ W A' c', Rd W A' (xs.map (Value.int .i64)) → Calls Try.prog 18 #[.slice A' xs.length c'] W fun x w' => ∃ B cB, x = .returned (.slice B E.length cB) ∧ Rd w' B (bc E) ∧ Below W.heap.size W w') ∧
    (∀ W B c', Rd W A (bc b) → Rd W B (bc E) → Calls Try.prog 37 #[.slice A b.length cap, .slice B E.length c', .int .i64 (u : Int), .int .i64 (e : Int)] W fun x w' => x = .returned (.bool true) ∧ W = w') := by
  obtain ⟨xs, u, e, hg⟩ : ∃ n u e, getL 1 gi b = (n, u, e) := ⟨_, _, _, rfl⟩
  have her := getL_err 1 gi b
  have hbk := getI_back b
  have hal := getL_all (f := gi) (Q := fun z => -9223372036854775808 ≤ z ∧ z ≤ 9223372036854775807) (fun l h => by
    rcases gi_cases l with hx | hx | hx
    · exact ⟨hx.2.2.2.2.2.1, hx.2.2.2.2.2.2⟩
    · rw [hx] at h; simp at h
    · rw [hx] at h; simp at h) 1 b
  rw [hg] at her hbk hal
  have hE : (encI xs).length ≤ 2010 := by
    rcases her with h | h
    · have h3 : b.take u = encI xs := (hbk h.1).1
      have h4 := congrArg List.length h3
      rw [List.length_take] at h4
      omega
    · have : xs = [] := h.2.1
      rw [this]; decide +kernel
  have hxl : xs.length ≤ 2010 := by
    have h5 := flat_ge enc 1 xs fun z _ => enc_pos z
    unfold encI encL at hE
    rw [List.length_append] at hE
    omega
  refine ⟨xs, u, e, encI xs, fun W hr => ?_, fun W A' c' hr => ?_, fun W B c' h1 h2 => consumed_any A B cap c' b _ u e W h1 h2 hc (by omega) ?_⟩
  · refine (getInts_any A cap b W hc (by omega) hr).mono ?_
    rw [hg]
    rintro y w' ⟨v, rfl, ho, hb⟩
    obtain ⟨A', c', rfl, hr', _⟩ := row_out ho
    exact ⟨A', c', rfl, hr', hb⟩
  · refine (ints_any A' c' xs W hr hal (by omega) (by omega)).mono ?_
    rintro y w' ⟨v, rfl, ho, hb⟩
    obtain ⟨B, cB, rfl, hr, _⟩ := ho.out
    exact ⟨B, cB, rfl, hr, hb⟩
  · intro he
    rcases her with h | h
    · exact ⟨h.2, (hbk he).2, (hbk he).1⟩
    · exact absurd he h.1
theorem canon_strs (A : Option Addr) (cap : Nat) (b : List UInt8) (hc : b.length ≤ cap) (hb : b.length ≤ 2000) : ∃ (ss : List ByteArray) (u e : Nat) (E : List UInt8),
    (∀ W, Rd W A (bc b) → Calls Try.prog 31 #[.slice A b.length cap] W fun x w' => ∃ A' c', x = .returned (.tuple #[.slice A' ss.length c', .int .i64 (u : Int), .int .i64 (e : Int)]) ∧ Rd w' A' (ss.map Value.string) ∧ Below W.heap.size W w') ∧
    (∀ W A' c', Rd W A' (ss.map Value.string) → Calls Try.prog 20 #[.slice A' ss.length c'] W fun x w' => ∃ B cB, x = .returned (.slice B E.length cB) ∧ Rd w' B (bc E) ∧ Below W.heap.size W w') ∧
    (∀ W B c', Rd W A (bc b) → Rd W B (bc E) → Calls Try.prog 37 #[.slice A b.length cap, .slice B E.length c', .int .i64 (u : Int), .int .i64 (e : Int)] W fun x w' => x = .returned (.bool true) ∧ W = w') := by
  obtain ⟨xs, u, e, hg⟩ : ∃ n u e, getL 1 gb b = (n, u, e) := ⟨_, _, _, rfl⟩
  have her := getL_err 1 gb b
  have hbk := getS_back b
  rw [hg] at her hbk
  have hE : (encL encB xs).length ≤ 2010 := by
    rcases her with h | h
    · have h3 : b.take u = encL encB xs := (hbk h.1).1
      have h4 := congrArg List.length h3
      rw [List.length_take] at h4
      omega
    · have : xs = [] := h.2.1
      rw [this]; decide +kernel
  have hsl : ∀ x ∈ xs, x.length ≤ 2010 := by
    intro x hx
    have h6 : (encB x).length ≤ (xs.flatMap encB).length := by
      obtain ⟨p, q, rfl⟩ := List.append_of_mem hx
      rw [List.flatMap_append, List.flatMap_cons, List.length_append, List.length_append]; omega
    unfold encL at hE
    rw [List.length_append] at hE
    rw [encB_len] at h6
    omega
  have hxl : xs.length ≤ 2010 := by
    have h5 := flat_ge encB 1 xs fun z _ => by rw [encB_len]; have := enc_pos (z.length : Int); omega
    unfold encL at hE
    rw [List.length_append] at hE
    omega
  refine ⟨xs.map st, u, e, encL encB xs, fun W hr => ?_, fun W A' c' hr => ?_, fun W B c' h1 h2 => consumed_any A B cap c' b _ u e W h1 h2 hc (by omega) ?_⟩
  · refine (getStrings_any A cap b W hc (by omega) hr).mono ?_
    rw [hg, List.length_map]
    rintro y w' ⟨v, rfl, ho, hb⟩
    obtain ⟨A', c', rfl, hr', _⟩ := row_out ho
    exact ⟨A', c', rfl, by rw [List.map_map]; exact hr', hb⟩
  · have h7 := strs_any A' c' (xs.map st) W hr (by intro s hs; obtain ⟨x, hx, rfl⟩ := List.mem_map.1 hs; rw [st_size]; have := hsl x hx; omega) (by rw [List.length_map]; omega) (by rw [encS_st]; omega)
    rw [encS_st] at h7
    refine h7.mono ?_
    rintro y w' ⟨v, rfl, ho, hb⟩
    obtain ⟨B, cB, rfl, hr, _⟩ := ho.out
    exact ⟨B, cB, rfl, hr, hb⟩
  · intro he
    rcases her with h | h
    · exact ⟨h.2, (hbk he).2, (hbk he).1⟩
    · exact absurd he h.1
theorem canon_digs (A : Option Addr) (cap : Nat) (b : List UInt8) (hc : b.length ≤ cap) (hb : b.length ≤ 2000) : ∃ (ds : List (List UInt8)) (u e : Nat) (E : List UInt8),
    (∀ W, Rd W A (bc b) → Calls Try.prog 34 #[.slice A b.length cap] W fun x w' => ∃ A' c', x = .returned (.tuple #[.slice A' ds.length c', .int .i64 (u : Int), .int .i64 (e : Int)]) ∧ Rd w' A' (dcs ds) ∧ Below W.heap.size W w') ∧
    (∀ W A' c', Rd W A' (dcs ds) → Calls Try.prog 22 #[.slice A' ds.length c'] W fun x w' => ∃ B cB, x = .returned (.slice B E.length cB) ∧ Rd w' B (bc E) ∧ Below W.heap.size W w') ∧
    (∀ W B c', Rd W A (bc b) → Rd W B (bc E) → Calls Try.prog 37 #[.slice A b.length cap, .slice B E.length c', .int .i64 (u : Int), .int .i64 (e : Int)] W fun x w' => x = .returned (.bool true) ∧ W = w') := by
  obtain ⟨ds, u, e, hg⟩ : ∃ n u e, getL 16 gd b = (n, u, e) := ⟨_, _, _, rfl⟩
  have her := getL_err 16 gd b
  have hbk := getD_back b
  rw [hg] at her hbk
  have h16 : ∀ d ∈ ds, d.length = 16 := by
    intro d hd
    rcases gl_cases 16 b with hx | hx | hx
    · obtain ⟨h0, h1, h2, _⟩ := hx
      have hgl : getL 16 gd b = if (gls gd (gl 16 b).1 (b.drop (gl 16 b).2.1)).2.2 ≠ 0 then ([], 0, (gls gd (gl 16 b).1 (b.drop (gl 16 b).2.1)).2.2) else ((gls gd (gl 16 b).1 (b.drop (gl 16 b).2.1)).1, (gl 16 b).2.1 + (gls gd (gl 16 b).1 (b.drop (gl 16 b).2.1)).2.1, 0) := by unfold getL; rw [if_neg (by omega)]
      have hm := gls_16 (gl 16 b).1 (b.drop (gl 16 b).2.1) (by rw [List.length_drop]; omega)
      rw [hg, if_neg (by rw [(gls_dig _ _ (by rw [List.length_drop]; omega)).1]; simp)] at hgl
      injection hgl with ha _
      rw [ha] at hd
      exact hm d hd
    · rw [getL_bad hx (by simp)] at hg; injection hg with ha _; rw [← ha] at hd; simp at hd
    · rw [getL_bad hx (by simp)] at hg; injection hg with ha _; rw [← ha] at hd; simp at hd
  have hE : (encD ds).length ≤ 2010 := by
    rcases her with h | h
    · have h3 : b.take u = encD ds := (hbk h.1).1
      have h4 := congrArg List.length h3
      rw [List.length_take] at h4
      omega
    · have : ds = [] := h.2.1
      rw [this]; decide +kernel
  have hxl : ds.length ≤ 2010 := by
    have h5 := flat16 ds h16
    unfold encD encL at hE
    rw [List.length_append] at hE
    omega
  refine ⟨ds, u, e, encD ds, fun W hr => ?_, fun W A' c' hr => ?_, fun W B c' h1 h2 => consumed_any A B cap c' b _ u e W h1 h2 hc (by omega) ?_⟩
  · refine (getDigs_any A cap b W hc (by omega) hr).mono ?_
    rw [hg]
    rintro y w' ⟨v, rfl, ho, _, hb⟩
    obtain ⟨A', c', rfl, hr', _⟩ := row_out ho
    exact ⟨A', c', rfl, hr', hb⟩
  · refine (digs_any A' c' ds W hr h16 (by omega) (by omega)).mono ?_
    rintro y w' ⟨v, rfl, ho, hb⟩
    obtain ⟨B, cB, rfl, hr, _⟩ := ho.out
    exact ⟨B, cB, rfl, hr, hb⟩
  · intro he
    rcases her with h | h
    · exact ⟨h.2, (hbk he).2, (hbk he).1⟩
    · exact absurd he h.1

set_option maxRecDepth 100000 in
set_option maxHeartbeats 2000000 in
theorem walkCanonical (A : Option Addr) (cap : Nat) (b : List UInt8) (w : World) (hr : Rd w A (bc b)) (hc : b.length ≤ cap) :
    Calls Try.prog 7 #[.slice A b.length cap] w fun e w' => e = .returned (.bool true) ∧ Below w.heap.size w w' := by
  by_cases hl : b.length ≤ 2000
  · obtain ⟨n1, u1, e1, E1, ha1, hb1, hc1⟩ := canon_int A cap b hc hl
    obtain ⟨n2, u2, e2, E2, ha2, hb2, hc2⟩ := canon_bytes A cap b hc hl
    obtain ⟨n3, u3, e3, E3, ha3, hb3, hc3⟩ := canon_ints A cap b hc hl
    obtain ⟨n4, u4, e4, E4, ha4, hb4, hc4⟩ := canon_strs A cap b hc hl
    obtain ⟨n5, u5, e5, E5, ha5, hb5, hc5⟩ := canon_digs A cap b hc hl
    have HR := Lib.hid hr
    have HA1 := Lib.hid ha1
    have HA2 := Lib.hid ha2
    have HA3 := Lib.hid ha3
    have HA4 := Lib.hid ha4
    have HA5 := Lib.hid ha5
    have HB1 := Lib.hid hb1
    have HB2 := Lib.hid hb2
    have HB3 := Lib.hid hb3
    have HB4 := Lib.hid hb4
    have HB5 := Lib.hid hb5
    have HC1 := Lib.hid hc1
    have HC2 := Lib.hid hc2
    have HC3 := Lib.hid hc3
    have HC4 := Lib.hid hc4
    have HC5 := Lib.hid hc5
    clear hr ha1 ha2 ha3 ha4 ha5 hb1 hb2 hb3 hb4 hb5 hc1 hc2 hc3 hc4 hc5
    go_enter Try.func7, Try.ntmps7
    go_wp2_with fail
    refine (HA1.out _ HR.out).mono ?_
    rintro x w1 ⟨rfl, rfl⟩
    go_wp2_with fail
    refine (HA2.out _ HR.out).mono ?_
    rintro x w1 ⟨rfl, rfl⟩
    go_wp2_with fail
    refine (HA3.out _ HR.out).mono ?_
    rintro x w3 ⟨A3, c3, rfl, hr3, k3⟩
    have HR3 := Lib.hid hr3
    clear hr3
    go_wp2_with fail
    refine (HA4.out _ (HR.out.below k3)).mono ?_
    rintro x w4 ⟨A4, c4, rfl, hr4, k4⟩
    have HR4 := Lib.hid hr4
    clear hr4
    go_wp2_with fail
    refine (HA5.out _ (HR.out.below (Below.next k3 k4))).mono ?_
    rintro x w5 ⟨A5, c5, rfl, hr5, k5⟩
    have HR5 := Lib.hid hr5
    clear hr5
    go_wp2_with fail
    refine (sanity_any _).mono ?_
    rintro x w6 ⟨rfl, k6⟩
    have K6 := Lib.hid (Below.next k3 (Below.next k4 (Below.next k5 k6)))
    have HR3' := Lib.hid (HR3.out.below (Below.next k4 (Below.next k5 k6)))
    have HR4' := Lib.hid (HR4.out.below (Below.next k5 k6))
    have HR5' := Lib.hid (HR5.out.below k6)
    clear k3 k4 k5 k6 HR3 HR4 HR5
    go_wp2_with fail
    refine (HB1.out _).mono ?_
    rintro x w7 ⟨B7, c7, rfl, hr7, k7⟩
    have HR7 := Lib.hid hr7
    clear hr7
    go_wp2_with fail
    refine (HC1.out _ B7 c7 (HR.out.below (Below.next K6.out k7)) HR7.out).mono ?_
    rintro x w8 ⟨rfl, rfl⟩
    go_wp2_with fail
    refine (HB2.out _).mono ?_
    rintro x w8 ⟨B8, c8, rfl, hr8, k8⟩
    have HR8 := Lib.hid hr8
    clear hr8
    go_wp2_with fail
    refine (HC2.out _ B8 c8 (HR.out.below (Below.next K6.out (Below.next k7 k8))) HR8.out).mono ?_
    rintro x w9 ⟨rfl, rfl⟩
    go_wp2_with fail
    refine (HB3.out _ A3 c3 (HR3'.out.below (Below.next k7 k8))).mono ?_
    rintro x w9 ⟨B9, c9, rfl, hr9, k9⟩
    have HR9 := Lib.hid hr9
    clear hr9
    go_wp2_with fail
    refine (HC3.out _ B9 c9 (HR.out.below (Below.next K6.out (Below.next k7 (Below.next k8 k9)))) HR9.out).mono ?_
    rintro x w10 ⟨rfl, rfl⟩
    go_wp2_with fail
    refine (HB4.out _ A4 c4 (HR4'.out.below (Below.next k7 (Below.next k8 k9)))).mono ?_
    rintro x w10 ⟨B10, c10, rfl, hr10, k10⟩
    have HR10 := Lib.hid hr10
    clear hr10
    go_wp2_with fail
    refine (HC4.out _ B10 c10 (HR.out.below (Below.next K6.out (Below.next k7 (Below.next k8 (Below.next k9 k10))))) HR10.out).mono ?_
    rintro x w11 ⟨rfl, rfl⟩
    go_wp2_with fail
    refine (HB5.out _ A5 c5 (HR5'.out.below (Below.next k7 (Below.next k8 (Below.next k9 k10))))).mono ?_
    rintro x w11 ⟨B11, c11, rfl, hr11, k11⟩
    have HR11 := Lib.hid hr11
    clear hr11
    go_wp2_with fail
    refine (HC5.out _ B11 c11 (HR.out.below (Below.next K6.out (Below.next k7 (Below.next k8 (Below.next k9 (Below.next k10 k11)))))) HR11.out).mono ?_
    rintro x w12 ⟨rfl, rfl⟩
    go_wp2
    go_ret
    exact ⟨rfl, Below.next K6.out (Below.next k7 (Below.next k8 (Below.next k9 (Below.next k10 k11))))⟩
  · go_enter Try.func7, Try.ntmps7
    go_wp2_with (go_at_call 12; refine (sanity_any _).mono ?_; rintro e w1 ⟨rfl, hb1⟩)
    go_ret
    exact ⟨rfl, hb1⟩
end Go.Proofs.Ytpobblcokkgijaa
