/- The walk of NatTextRoundTrip. -/
import Derived.Test.YtkjnfobaoaaopaaDoorN40
namespace Go.Proofs.YtkjnfobaoaaopaaDoor
open Go.RowKit Hm Wm Wn

theorem dg_val {k : Nat} (h : k < 10) : (UInt8.ofNat (48 + k)).toNat = 48 + k := by
  rw [UInt8.toNat_ofNat']
  omega
theorem dec_facts : ∀ n : Nat, decN (Lib.decDigits n) = n ∧ (Lib.decDigits n).all isDig = true ∧ (n ≠ 0 → (Lib.decDigits n).head? ≠ some 48) := by
  intro n
  induction n using Nat.strongRecOn with
  | ind n ih =>
    by_cases h : n < 10
    · rw [Lib.decDigits_one h]
      have e := dg_val h
      refine ⟨?_, ?_, fun h0 h1 => ?_⟩
      · simp only [decN, List.foldl_cons, List.foldl_nil, e]; omega
      · simp only [List.all_cons, List.all_nil, Bool.and_true, isDig, e, Bool.and_eq_true, decide_eq_true_eq]; omega
      · simp only [List.head?_cons, Option.some.injEq] at h1
        rw [h1] at e
        have : (48 : UInt8).toNat = 48 := rfl
        omega
    · obtain ⟨h1, h2, h3⟩ := ih (n / 10) (by omega)
      have e := dg_val (k := n % 10) (by omega)
      rw [dec_big h]
      refine ⟨?_, ?_, fun _ => ?_⟩
      · rw [decN_snoc, h1, e]; omega
      · rw [List.all_append, h2]
        simp only [List.all_cons, List.all_nil, Bool.and_true, Bool.true_and, isDig, e, Bool.and_eq_true, decide_eq_true_eq]; omega
      · have h3 := h3 (by omega)
        cases hl : Lib.decDigits (n / 10) with
        | nil =>
          have h4 := Lib.nDigits_pos (n / 10)
          rw [← Lib.decDigits_length, hl] at h4
          simp at h4
        | cons b r =>
          rw [hl] at h3
          simpa using h3
theorem dec_text (n : Nat) : isTextL (Lib.decDigits n) = true := by
  obtain ⟨_, h2, h3⟩ := dec_facts n
  by_cases h0 : n = 0
  · subst h0
    rw [Lib.decDigits_one (by decide)]
    decide
  · have h3 := h3 h0
    cases hl : Lib.decDigits n with
    | nil =>
      have h4 := Lib.nDigits_pos n
      rw [← Lib.decDigits_length, hl] at h4
      simp at h4
    | cons b r =>
      rw [hl] at h2 h3
      unfold isTextL
      simp only [List.head?_cons, ne_eq, Option.some.injEq] at h3
      simp only [h2, Bool.and_true]
      have : (b == 48) = false := by rw [beq_eq_false_iff_ne]; exact h3
      rw [this]
      rfl
theorem dec_ge : ∀ (k n : Nat), n ≠ 0 → (Lib.decDigits n).length = k + 1 → 10 ^ k ≤ n
  | 0, n, h, _ => by simp; omega
  | k + 1, n, h, hl => by
    by_cases hn : n < 10
    · rw [Lib.decDigits_one hn] at hl; simp at hl
    · rw [dec_big hn, List.length_append] at hl
      simp at hl
      have h1 := dec_ge k (n / 10) (by omega) hl
      rw [Nat.pow_succ]
      omega
theorem dec_lt (n : Nat) : n < 10 ^ (Lib.decDigits n).length := by rw [Lib.decDigits_length]; exact Lib.lt_pow_nDigits n
theorem dec_shorter {a b : Nat} (h : (Lib.decDigits a).length < (Lib.decDigits b).length) : a < b := by
  have h1 := dec_lt a
  obtain ⟨k, hk⟩ : ∃ k, (Lib.decDigits b).length = k + 1 := ⟨(Lib.decDigits b).length - 1, by omega⟩
  have hb : b ≠ 0 := fun h0 => by
    rw [h0, show Lib.decDigits 0 = [UInt8.ofNat (48 + 0)] from Lib.decDigits_one (show 0 < 10 by decide)] at h
    have h4 := Lib.nDigits_pos a
    rw [← Lib.decDigits_length] at h4
    rw [List.length_singleton] at h
    omega
  have h2 := dec_ge k b hb hk
  have h3 : 10 ^ (Lib.decDigits a).length ≤ 10 ^ k := Nat.pow_le_pow_right (by decide) (by omega)
  omega
theorem decN_cons (b : UInt8) (q : List UInt8) : decN (b :: q) = (b.toNat - 48) * 10 ^ q.length + decN q := by
  unfold decN
  rw [List.foldl_cons, decF_acc]
  simp [decN]
theorem less_dec : ∀ (l r : List UInt8), l.length = r.length → l.all isDig = true → r.all isDig = true → Op.bytesLess l r = decide (decN l < decN r)
  | [], [], _, _, _ => by simp [Op.bytesLess, decN]
  | [], _ :: _, h, _, _ => by simp at h
  | _ :: _, [], h, _, _ => by simp at h
  | b :: l, c :: r, h, hl, hr => by
    simp only [List.length_cons, Nat.add_right_cancel_iff] at h
    simp only [List.all_cons, Bool.and_eq_true, isDig, decide_eq_true_eq] at hl hr
    have h1 := decN_lt l hl.2
    have h2 := decN_lt r hr.2
    rw [← h] at h2
    rw [decN_cons, decN_cons, ← h]
    unfold Op.bytesLess
    rw [less_dec l r h hl.2 hr.2]
    generalize 10 ^ l.length = p at *
    by_cases hbc : b < c
    · have h3 : b.toNat < c.toNat := UInt8.lt_iff_toNat_lt.1 hbc
      have h4 : (b.toNat - 48 + 1) * p ≤ (c.toNat - 48) * p := Nat.mul_le_mul_right _ (by omega)
      rw [Nat.add_mul, Nat.one_mul] at h4
      rw [decide_eq_true hbc, Bool.true_or]
      exact (decide_eq_true (by omega)).symm
    · rw [decide_eq_false hbc, Bool.false_or]
      by_cases he : b = c
      · subst he
        rw [beq_self_eq_true, Bool.true_and]
        exact decide_eq_decide.2 (by omega)
      · have h3 : c.toNat < b.toNat := by
          have e1 : ¬ b.toNat < c.toNat := fun h => hbc (UInt8.lt_iff_toNat_lt.2 h)
          have e2 : b.toNat ≠ c.toNat := fun h => he (UInt8.toNat_inj.1 h)
          omega
        have h4 : (c.toNat - 48 + 1) * p ≤ (b.toNat - 48) * p := Nat.mul_le_mul_right _ (by omega)
        rw [Nat.add_mul, Nat.one_mul] at h4
        rw [show (b == c) = false by rw [beq_eq_false_iff_ne]; exact he, Bool.false_and]
        exact (decide_eq_false (by omega)).symm
theorem textC (x z : ByteArray) (w : World) (hx : x.size ≤ 40000) (hT : Pow w) (h : sb (Lib.decDigits (nB x)) = z) : Calls Tryd.prog 16 #[.string x] w fun e w' => e = .returned (.string z) ∧ Below w.heap.size w w' := by
  subst h; exact textS_any x w hx hT
theorem parseC (n : Nat) (x z : ByteArray) (w : World) (hn : (Lib.decDigits n).length ≤ 20000) (hx : sb (Lib.decDigits n) = x) (hz : cS n = z) : Calls Tryd.prog 17 #[.string x] w fun e w' => e = .returned (.tuple #[.string z, .int .i64 0]) ∧ Below w.heap.size w w' := by
  subst hx; subst hz
  have h := parse_yes (Lib.decDigits n) w hn (dec_text n)
  rw [(dec_facts n).1] at h
  exact h
theorem dec_short {x : ByteArray} {K : Nat} (hx : x.size ≤ K) : (Lib.decDigits (nB x)).length ≤ 3 * K + 1 := by
  refine ddg_len (3 * K) (nB x) (Nat.lt_of_lt_of_le (nB_lt x) (Nat.le_trans (Nat.pow_le_pow_left (show 256 ≤ 10 ^ 3 by decide) _) ?_))
  rw [← Nat.pow_mul]
  exact Nat.pow_le_pow_right (by decide) (by omega)
theorem run_lssS (x y : ByteArray) (b : Bool) (h : Op.bytesLess x.data.toList y.data.toList = b) (w : World) : (binOp .lss 9 (.string x) (.string y)).run Tryd.prog w = .ok (.bool b) w := by
  rw [binOp_string_lss, Lib.toList_data, Lib.toList_data, h]
  rfl
set_option maxRecDepth 1000000 in
set_option maxHeartbeats 2000000 in
theorem walk_trip_out (s t : ByteArray) (w : World) (hT : Pow w) (h : ¬ (s.size ≤ 100 ∧ t.size ≤ 100)) : Calls Tryd.prog 6 #[.string s, .string t] w fun e w' => e = .returned (.bool true) ∧ Below w.heap.size w w' := by
  have HS := Lib.hid (sanity_any w hT)
  clear hT
  by_cases h0 : s.size ≤ 100
  · have gd0 : decide ((100 : Int) < (s.size : Int)) = false := decide_eq_false (by omega)
    have gd0' : decide (100 < s.size) = false := decide_eq_false (by omega)
    have gd1 : decide ((100 : Int) < (t.size : Int)) = true := decide_eq_true (by omega)
    have gd1' : decide (100 < t.size) = true := decide_eq_true (by omega)
    clear h h0
    go_enter Tryd.func6, Tryd.ntmps6
    go_wp2_with fail
    refine HS.out.mono ?_
    rintro e w1 ⟨rfl, hb⟩
    have HB := Lib.hid hb
    clear hb HS
    go_wp2
    go_ret
    exact ⟨rfl, HB.out⟩
  · have gd0 : decide ((100 : Int) < (s.size : Int)) = true := decide_eq_true (by omega)
    have gd0' : decide (100 < s.size) = true := decide_eq_true (by omega)
    clear h h0
    go_enter Tryd.func6, Tryd.ntmps6
    go_wp2_with fail
    refine HS.out.mono ?_
    rintro e w1 ⟨rfl, hb⟩
    have HB := Lib.hid hb
    clear hb HS
    go_wp2
    go_ret
    exact ⟨rfl, HB.out⟩
set_option maxRecDepth 1000000 in
set_option maxHeartbeats 4000000 in
theorem walk_trip (s t : ByteArray) (w : World) (hT : Pow w) : Calls Tryd.prog 6 #[.string s, .string t] w fun e w' => e = .returned (.bool true) ∧ Below w.heap.size w w' := by
  by_cases h : s.size ≤ 100 ∧ t.size ≤ 100
  · obtain ⟨hs, ht⟩ := h
    have PW := Lib.hid hT
    have HB := Lib.hid (Below.refl w.heap.size w)
    have gd0 : decide ((100 : Int) < (s.size : Int)) = false := decide_eq_false (by omega)
    have gd0' : decide (100 < s.size) = false := decide_eq_false (by omega)
    have gd1 : decide ((100 : Int) < (t.size : Int)) = false := decide_eq_false (by omega)
    have gd1' : decide (100 < t.size) = false := decide_eq_false (by omega)
    obtain ⟨A, eA⟩ : ∃ z, cS (nB s) = z := ⟨_, rfl⟩
    obtain ⟨X, eX⟩ : ∃ z, sb (Lib.decDigits (nB s)) = z := ⟨_, rfl⟩
    obtain ⟨Y, eY⟩ : ∃ z, sb (Lib.decDigits (nB t)) = z := ⟨_, rfl⟩
    have lX : X.size = (Lib.decDigits (nB s)).length := by rw [← eX]; exact sb_size _
    have lY : Y.size = (Lib.decDigits (nB t)).length := by rw [← eY]; exact sb_size _
    have sX := dec_short hs
    have F20 := Lib.hid (fun W h => textC s X W (by omega) h eX)
    have F22 := Lib.hid (fun W h => textC t Y W (by omega) h eY)
    have F25 := Lib.hid (fun W => parseC (nB s) X A W (by omega) eX eA)
    have F45 := Lib.hid (fun W h => sanity_any W h)
    have F53 := Lib.hid (fun W => cleanC s A W eA)
    have F60 := Lib.hid (fun W => cmp_any s t W)
    have hXY : X.size < Y.size → nB s < nB t := fun h => dec_shorter (by rw [← lX, ← lY]; exact h)
    have hYX : Y.size < X.size → nB t < nB s := fun h => dec_shorter (by rw [← lX, ← lY]; exact h)
    have hEQ : X.size = Y.size → Op.bytesLess X.data.toList Y.data.toList = decide (nB s < nB t) := fun h => by
      rw [← eX, ← eY, sb_list, sb_list, less_dec _ _ (by rw [← lX, ← lY]; exact h) (dec_facts _).2.1 (dec_facts _).2.1, (dec_facts _).1, (dec_facts _).1]
    have HXY := Lib.hid hXY
    have HYX := Lib.hid hYX
    have HEQ := Lib.hid hEQ
    generalize nB s = a at F60 HXY HYX HEQ
    generalize nB t = b at F60 HXY HYX HEQ
    clear hT hs ht eA eX eY lX lY sX hXY hYX hEQ
    go_enter Tryd.func6, Tryd.ntmps6
    go_wp2_with fail
    refine (F20.out _ PW.out).mono ?_
    rintro e w1 ⟨rfl, hb⟩
    replace PW := Lib.hid (PW.out.next hb)
    replace HB := Lib.hid (HB.out.trans (hb.mono HB.out.size))
    clear hb
    go_wp2_with fail
    refine (F22.out _ PW.out).mono ?_
    rintro e w2 ⟨rfl, hb⟩
    replace PW := Lib.hid (PW.out.next hb)
    replace HB := Lib.hid (HB.out.trans (hb.mono HB.out.size))
    clear hb
    go_wp2_with fail
    refine (F25.out _).mono ?_
    rintro e w3 ⟨rfl, hb⟩
    replace PW := Lib.hid (PW.out.next hb)
    replace HB := Lib.hid (HB.out.trans (hb.mono HB.out.size))
    clear hb
    rcases Nat.lt_trichotomy X.size Y.size with hl | hl | hl
    · have c2 : decide ((X.size : Int) < (Y.size : Int)) = true := decide_eq_true (by omega)
      have c2' : decide (X.size < Y.size) = true := decide_eq_true hl
      have hk : cmpN a b = -1 := by unfold cmpN; rw [if_pos (HXY.out hl)]
      rw [hk] at F60
      clear hl hk
      go_wp2_with fail
      refine (F45.out _ PW.out).mono ?_
      rintro e w4 ⟨rfl, hb⟩
      replace PW := Lib.hid (PW.out.next hb)
      replace HB := Lib.hid (HB.out.trans (hb.mono HB.out.size))
      clear hb
      go_wp2_with fail
      refine (F53.out _).mono ?_
      rintro e wx ⟨rfl, hw⟩
      obtain rfl : w4 = wx := hw.symm
      clear hw
      go_wp2_with fail
      refine (F60.out _).mono ?_
      rintro e wx ⟨rfl, hw⟩
      obtain rfl : w4 = wx := hw.symm
      clear hw
      go_wp2
      go_ret
      exact ⟨rfl, HB.out⟩
    · have c2 : decide ((X.size : Int) < (Y.size : Int)) = false := decide_eq_false (by omega)
      have c2' : decide (X.size < Y.size) = false := decide_eq_false (by omega)
      have c3 : ((X.size : Int) == (Y.size : Int)) = true := by rw [beq_iff_eq]; omega
      have c3' : (X.size == Y.size) = true := by rw [beq_iff_eq]; exact hl
      have hq := HEQ.out hl
      by_cases hab : a < b
      · rw [decide_eq_true hab] at hq
        have H42 := Lib.hid (fun W => run_lssS X Y true hq W)
        have hk : cmpN a b = -1 := by unfold cmpN; rw [if_pos hab]
        rw [hk] at F60
        clear hl hk hq hab
        go_wp2_with (first | (refine wpList_dst 42 rfl ?_; refine wpList_runG 42 rfl rfl _ (exec_bin .lss 9 _ (.tmp 40) (.tmp 41) rfl _ _ _ rfl rfl rfl (H42.out _)) ?_))
        refine (F45.out _ PW.out).mono ?_
        rintro e w4 ⟨rfl, hb⟩
        replace PW := Lib.hid (PW.out.next hb)
        replace HB := Lib.hid (HB.out.trans (hb.mono HB.out.size))
        clear hb
        go_wp2_with fail
        refine (F53.out _).mono ?_
        rintro e wx ⟨rfl, hw⟩
        obtain rfl : w4 = wx := hw.symm
        clear hw
        go_wp2_with fail
        refine (F60.out _).mono ?_
        rintro e wx ⟨rfl, hw⟩
        obtain rfl : w4 = wx := hw.symm
        clear hw
        go_wp2
        go_ret
        exact ⟨rfl, HB.out⟩
      · rw [decide_eq_false hab] at hq
        have H42 := Lib.hid (fun W => run_lssS X Y false hq W)
        obtain ⟨k, hk⟩ : ∃ k, cmpN a b = k := ⟨_, rfl⟩
        have hk0 : decide (k < 0) = false := by
          refine decide_eq_false ?_
          rw [← hk]; unfold cmpN; rw [if_neg hab]; split <;> omega
        rw [hk] at F60
        clear hl hk hq hab
        go_wp2_with (first | (refine wpList_dst 42 rfl ?_; refine wpList_runG 42 rfl rfl _ (exec_bin .lss 9 _ (.tmp 40) (.tmp 41) rfl _ _ _ rfl rfl rfl (H42.out _)) ?_))
        refine (F45.out _ PW.out).mono ?_
        rintro e w4 ⟨rfl, hb⟩
        replace PW := Lib.hid (PW.out.next hb)
        replace HB := Lib.hid (HB.out.trans (hb.mono HB.out.size))
        clear hb
        go_wp2_with fail
        refine (F53.out _).mono ?_
        rintro e wx ⟨rfl, hw⟩
        obtain rfl : w4 = wx := hw.symm
        clear hw
        go_wp2_with fail
        refine (F60.out _).mono ?_
        rintro e wx ⟨rfl, hw⟩
        obtain rfl : w4 = wx := hw.symm
        clear hw
        go_wp2
        go_ret
        exact ⟨rfl, HB.out⟩
    · have c2 : decide ((X.size : Int) < (Y.size : Int)) = false := decide_eq_false (by omega)
      have c2' : decide (X.size < Y.size) = false := decide_eq_false (by omega)
      have c3 : ((X.size : Int) == (Y.size : Int)) = false := by rw [beq_eq_false_iff_ne]; omega
      have c3' : (X.size == Y.size) = false := by rw [beq_eq_false_iff_ne]; omega
      have hba := HYX.out hl
      have hk : cmpN a b = 1 := by unfold cmpN; rw [if_neg (by omega), if_pos hba]
      rw [hk] at F60
      clear hl hk hba
      go_wp2_with fail
      refine (F45.out _ PW.out).mono ?_
      rintro e w4 ⟨rfl, hb⟩
      replace PW := Lib.hid (PW.out.next hb)
      replace HB := Lib.hid (HB.out.trans (hb.mono HB.out.size))
      clear hb
      go_wp2_with fail
      refine (F53.out _).mono ?_
      rintro e wx ⟨rfl, hw⟩
      obtain rfl : w4 = wx := hw.symm
      clear hw
      go_wp2_with fail
      refine (F60.out _).mono ?_
      rintro e wx ⟨rfl, hw⟩
      obtain rfl : w4 = wx := hw.symm
      clear hw
      go_wp2
      go_ret
      exact ⟨rfl, HB.out⟩
  · exact walk_trip_out s t w hT h
end Go.Proofs.YtkjnfobaoaaopaaDoor
