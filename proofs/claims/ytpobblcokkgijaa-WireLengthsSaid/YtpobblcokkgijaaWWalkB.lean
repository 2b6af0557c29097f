/- The walk of WireLengths. -/
import Derived.Test.YtpobblcokkgijaaWWalkA
import Derived.Deep.RegionWith
import Derived.Deep.DeepCutAuto
namespace Go.Proofs.Ytpobblcokkgijaa
open Go.RowKit Wm

theorem dig_pair (k : Nat) : (dig (2 * k + 1)).length = (dig (2 * k)).length := by
  rcases Nat.lt_or_ge (2 * k) 128 with h | h
  · rw [dig_one h, dig_one (by omega)]; rfl
  · rw [dig_more h, dig_more (by omega), show (2 * k + 1) / 128 = 2 * k / 128 from by omega]; rfl
/-- How far an integer is from -1/2, in halves. -/
def far (m : Int) : Nat := if m < 0 then (-1 - m).toNat else m.toNat
theorem enc_far (m : Int) : (enc m).length = (dig (2 * far m)).length := by
  unfold enc zig far
  by_cases h : m < 0
  · rw [if_pos h, if_pos h, show (-2 * m - 1).toNat = 2 * (-1 - m).toNat + 1 from by omega, dig_pair]
  · rw [if_neg h, if_neg h, show (2 * m).toNat = 2 * m.toNat from by omega]
theorem far_neg (m : Int) : far (-1 - m) = far m := by unfold far; split <;> split <;> omega
theorem far_le {m n : Int} (h : far m ≤ far n) : (enc m).length ≤ (enc n).length := by rw [enc_far, enc_far]; exact dig_mono (by omega)
theorem far_one (m : Int) : (enc m).length = 1 ↔ far m < 64 := by
  rw [enc_far]
  constructor
  · intro h
    rcases Nat.lt_or_ge (far m) 64 with h1 | h1
    · exact h1
    · have := dig_ge 1 (2 * far m) (by omega); omega
  · intro h; rw [dig_one (by omega)]; rfl

theorem below_drew1 (w : World) : Below w.heap.size w w.drew := below_drew w 1
theorem run_str_take {w : World} {A : Option Addr} {l : List UInt8} (h : Rd w A (bc l)) {q : Nat} (hq : q ≤ l.length) (c : Nat) : (convert 28 9 (.slice A q c)).run Try.prog w = .ok (.string (st (l.take q))) w := by
  have h1 := h.take q
  rw [← bc_take] at h1
  have h2 := run_str h1 c
  rw [List.length_take, Nat.min_eq_left hq] at h2
  exact h2

set_option maxRecDepth 100000 in
set_option maxHeartbeats 4000000 in
theorem walkLengths (m n : Int) (w : World) (hm : -9223372036854775808 ≤ m) (hm' : m ≤ 9223372036854775807) (hn : -9223372036854775808 ≤ n) (hn' : n ≤ 9223372036854775807) :
    Calls Try.prog 5 #[.int .i64 m, .int .i64 n] w fun e w' => e = .returned (.bool true) ∧ Below w.heap.size w w' := by
  have HI := Lib.hid (fun W => int_any m W hm hm')
  have HJ := Lib.hid (fun W => int_any n W hn hn')
  go_enter Try.func5, Try.ntmps5
  go_wp2_with fail
  refine (HI.out _).mono ?_
  rintro e w1 ⟨v1, rfl, ho1, hb1⟩
  obtain ⟨A1, c1, hv, hr1, hc1⟩ := ho1.out
  clear ho1
  rw [hv]
  clear hv
  have HR1 := Lib.hid hr1
  clear hr1
  go_wp2_with fail
  refine (HJ.out _).mono ?_
  rintro e w2 ⟨v2, rfl, ho2, hb2⟩
  obtain ⟨A2, c2, hv, hr2, hc2⟩ := ho2.out
  clear ho2
  rw [hv]
  clear hv
  have HR2 := Lib.hid hr2
  clear hr2
  obtain ⟨E, hE⟩ : ∃ E, enc m = E := ⟨_, rfl⟩
  obtain ⟨F, hF⟩ : ∃ F, enc n = F := ⟨_, rfl⟩
  rw [hE] at hc1 HR1 ⊢
  rw [hF] at hc2 HR2 ⊢
  have HE := Lib.hid hE
  have HF := Lib.hid hF
  clear hE hF
  obtain ⟨I, hI⟩ : ∃ I, far m = I := ⟨_, rfl⟩
  obtain ⟨K, hK⟩ : ∃ K, far n = K := ⟨_, rfl⟩
  have HFI := Lib.hid hI
  have HFK := Lib.hid hK
  have hIb : I ≤ 9223372036854775807 := by rw [← hI]; unfold far; split <;> omega
  have hKb : K ≤ 9223372036854775807 := by rw [← hK]; unfold far; split <;> omega
  clear hI hK
  have HIb := Lib.hid hIb
  have HKb := Lib.hid hKb
  clear hIb hKb
  go_upto_region 2 with fail
  go_cut [7, 8] (fun i k wx => i = .int .i64 (I : Int) ∧ k = .int .i64 (K : Int) ∧ w2 = wx)
  case first =>
    by_cases hm0 : m < 0 <;> by_cases hn0 : n < 0
    all_goals
      go_wp2
      go_meet
      refine ⟨?_, ?_, rfl⟩
      · rw [← HFI.out]; unfold far; first | rw [if_pos (by omega)] | rw [if_neg (by omega)]
        go_num
      · rw [← HFK.out]; unfold far; first | rw [if_pos (by omega)] | rw [if_neg (by omega)]
        go_num
  case rest =>
    obtain ⟨rfl, rfl, rfl⟩ := hcut
    go_upto_region 3 with fail
    go_cut [66] (fun t wx => t = .bool false ∧ w2 = wx)
    case first =>
      have e1 : 1 ≤ E.length := by rw [← HE.out]; exact enc_pos m
      have e2 : 1 ≤ F.length := by rw [← HF.out]; exact enc_pos n
      have e3 : E.length ≤ 10 := by rw [← HE.out]; exact enc_le hm hm'
      have e4 : ((E.length : Int) == 0) = false := beq_eq_false_iff_ne.2 (by omega)
      have e5 : ((F.length : Int) == 0) = false := beq_eq_false_iff_ne.2 (by omega)
      have e6 : ¬ (E.length : Int) > 10 := by omega
      have h1 : I ≤ K → E.length ≤ F.length := by rw [← HFI.out, ← HFK.out, ← HE.out, ← HF.out]; exact far_le
      have h2 : K ≤ I → F.length ≤ E.length := by rw [← HFI.out, ← HFK.out, ← HE.out, ← HF.out]; exact far_le
      have h3 : ((E.length : Int) == 1) = decide (I < 64) := by
        have h4 := far_one m
        rw [HE.out, HFI.out] at h4
        by_cases h5 : I < 64
        · have h6 := h4.2 h5
          rw [decide_eq_true h5, beq_iff_eq]; omega
        · have h6 : E.length ≠ 1 := fun h => h5 (h4.1 h)
          rw [decide_eq_false h5]; exact beq_eq_false_iff_ne.2 (by omega)
      have H1 := Lib.hid h1
      have H2 := Lib.hid h2
      have H3 := Lib.hid h3
      clear h1 h2 h3
      by_cases h64 : I < 64
      · have h7 := H3.out
        rw [decide_eq_true h64] at h7
        by_cases hik : I ≤ K <;> by_cases hki : K ≤ I
        · have g1 := H1.out hik
          have g2 := H2.out hki
          go_wp2
          go_meet
          exact ⟨congrArg Value.bool (by simp; omega), rfl⟩
        · have g1 := H1.out hik
          go_wp2
          go_meet
          exact ⟨congrArg Value.bool (by simp; omega), rfl⟩
        · have g2 := H2.out hki
          go_wp2
          go_meet
          exact ⟨congrArg Value.bool (by simp; omega), rfl⟩
        · omega
      · have h7 := H3.out
        rw [decide_eq_false h64] at h7
        by_cases hik : I ≤ K <;> by_cases hki : K ≤ I
        · have g1 := H1.out hik
          have g2 := H2.out hki
          go_wp2
          go_meet
          exact ⟨congrArg Value.bool (by simp; omega), rfl⟩
        · have g1 := H1.out hik
          go_wp2
          go_meet
          exact ⟨congrArg Value.bool (by simp; omega), rfl⟩
        · have g2 := H2.out hki
          go_wp2
          go_meet
          exact ⟨congrArg Value.bool (by simp; omega), rfl⟩
        · omega
    case rest =>
      obtain ⟨rfl, rfl⟩ := hcut
      go_upto_region 5 with fail
      go_cut [9] (fun t wx => t = .int .i64 ((min E.length F.length : Nat) : Int) ∧ w2 = wx)
      case first =>
        by_cases hef : F.length < E.length
        · go_wp2
          go_meet
          exact ⟨by rw [Nat.min_eq_right (by omega)], rfl⟩
        · go_wp2
          go_meet
          exact ⟨by rw [Nat.min_eq_left (by omega)], rfl⟩
      case rest =>
        obtain ⟨rfl, rfl⟩ := hcut
        obtain ⟨q, hq⟩ : ∃ q, min E.length F.length = q := ⟨_, rfl⟩
        rw [hq]
        have hq1 : q ≤ E.length := by omega
        have hq2 : q ≤ F.length := by omega
        have HQ := Lib.hid hq
        clear hq
        have hEm : (enc (-1 - m)).length = E.length := by rw [enc_far, far_neg, ← enc_far, HE.out]
        have hN : ∀ W, Calls Try.prog 14 #[.int .i64 (-1 - m)] W fun e w' => ∃ A c, e = .returned (.slice A E.length c) ∧ Below W.heap.size W w' := by
          intro W
          refine (int_any (-1 - m) W (by omega) (by omega)).mono ?_
          rintro e w' ⟨v, rfl, ho, hb⟩
          obtain ⟨A, c, rfl, _, _⟩ := ho.out
          rw [hEm]
          exact ⟨A, c, rfl, hb⟩
        have HN := Lib.hid hN
        have HV := Lib.hid (show ((E.take q == F.take q) == decide (m = n)) = true by
          rw [beq_iff_eq]
          by_cases hmn : m = n
          · have hEF : E = F := by rw [← HE.out, ← HF.out, hmn]
            rw [decide_eq_true hmn, hEF]; simp
          · rw [decide_eq_false hmn]
            refine beq_eq_false_iff_ne.2 fun h => hmn ?_
            refine enc_begin hm hm' hn hn' ?_
            rw [HE.out, HF.out, HQ.out]; exact h)
        clear hEm hN
        have hwr : IntKind.i64.wrap (-1 - m) = -1 - m := IntWalk.i64_in _ ⟨by omega, by omega⟩
        have hmb : ((m == n) : Bool) = decide (m = n) := rfl
        go_wp2_with fail
        have hqc1 : q ≤ c1 := by omega
        have hqc2 : q ≤ c2 := by omega
        clear hc1 hc2 HI HJ HFI HFK HIb HKb HQ HE HF hm hm' hn hn'
        refine wp_region_any (by kernel_rfl) ?_
        try (change wpAny _ _ _ _ _ _ _ (World.drew _))
        refine wpAny_ready (rs := [0]) (by kernel_rfl) (by simp) ?_
        refine AllReady.cons rfl (fun K hK => ?_) AllReady.nil
        go_simp
        go_wp2_with (go_at_call 12; refine (sanity_any _).mono ?_; rintro e w3 ⟨rfl, hb3⟩)
        refine wpAny_take (i := 1) (v := ?_) rfl (by kernel_rfl) (by kernel_rfl) (by kernel_rfl) (fun _ _ _ h => h) (Or.inl ⟨by rfl, ?_⟩) ?_
        rotate_left
        · intro w
          go_simp
          try (with_reducible rfl)
        change wpAny _ _ _ _ _ _ (Act.put _ (some 73) _) _
        simp only [Act.put, List.setIfInBounds_toArray, List.set_cons_succ, List.set_cons_zero]
        refine wpAny_take (i := 2) (v := ?_) rfl (by kernel_rfl) (by kernel_rfl) (by kernel_rfl) (fun _ _ _ h => h) (Or.inl ⟨by rfl, ?_⟩) ?_
        rotate_left
        · intro w
          go_simp
          try (with_reducible rfl)
        change wpAny _ _ _ _ _ _ (Act.put _ (some 74) _) _
        simp only [Act.put, List.setIfInBounds_toArray, List.set_cons_succ, List.set_cons_zero]
        refine wpAny_take (i := 3) (v := ?_) rfl (by kernel_rfl) (by kernel_rfl) (by kernel_rfl) (fun _ _ _ h => h) (Or.inl ⟨by rfl, ?_⟩) ?_
        rotate_left
        · intro w
          go_simp
          try (with_reducible rfl)
        change wpAny _ _ _ _ _ _ (Act.put _ (some 75) _) _
        simp only [Act.put, List.setIfInBounds_toArray, List.set_cons_succ, List.set_cons_zero]
        refine wpAny_take (i := 6) (v := ?_) rfl (by kernel_rfl) (by kernel_rfl) (by kernel_rfl) (fun _ _ _ h => h) (Or.inl ⟨by rfl, ?_⟩) ?_
        rotate_left
        · intro w
          go_simp
          try (with_reducible rfl)
        change wpAny _ _ _ _ _ _ (Act.put _ (some 78) _) _
        simp only [Act.put, List.setIfInBounds_toArray, List.set_cons_succ, List.set_cons_zero]
        refine wpAny_take (i := 7) (v := ?_) rfl (by kernel_rfl) (by kernel_rfl) (by kernel_rfl) (fun _ _ _ h => h) (Or.inl ⟨by rfl, ?_⟩) ?_
        rotate_left
        · intro w
          go_simp
          try (with_reducible rfl)
        change wpAny _ _ _ _ _ _ (Act.put _ (some 79) _) _
        simp only [Act.put, List.setIfInBounds_toArray, List.set_cons_succ, List.set_cons_zero]
        refine wpAny_ready (rs := [4]) (by kernel_rfl) (by simp) ?_
        refine AllReady.cons rfl (fun K hK => ?_) AllReady.nil
        go_simp
        go_wp2_with (go_at_call 14; refine (HN.out _).mono ?_; rintro e w4 ⟨A4, c4, rfl, hb4⟩)
        have HB := Lib.hid (Below.next (Below.next (below_drew1 w2) hb3) hb4)
        clear hb3 hb4 hwr hmb HN
        refine wpAny_take (i := 5) (v := ?_) rfl (by kernel_rfl) (by kernel_rfl) (by kernel_rfl) (fun _ _ _ h => h) (Or.inl ⟨by rfl, ?_⟩) ?_
        rotate_left
        · intro w
          go_simp
          try (with_reducible rfl)
        change wpAny _ _ _ _ _ _ (Act.put _ (some 77) _) _
        simp only [Act.put, List.setIfInBounds_toArray, List.set_cons_succ, List.set_cons_zero]
        refine wpAny_take (i := 8) (v := ?_) rfl (by kernel_rfl) (by kernel_rfl) (by kernel_rfl) (fun _ _ _ h => h) (Or.inl ⟨by rfl, ?_⟩) ?_
        rotate_left
        · intro w
          go_simp
          try (with_reducible rfl)
        change wpAny _ _ _ _ _ _ (Act.put _ (some 80) _) _
        simp only [Act.put, List.setIfInBounds_toArray, List.set_cons_succ, List.set_cons_zero]
        refine wpAny_take (i := 9) (v := ?_) rfl (by kernel_rfl) (by kernel_rfl) (by kernel_rfl) (fun _ _ _ h => h) (Or.inl ⟨by rfl, ?_⟩) ?_
        rotate_left
        · intro w
          go_simp
          try (with_reducible rfl)
        change wpAny _ _ _ _ _ _ (Act.put _ (some 81) _) _
        simp only [Act.put, List.setIfInBounds_toArray, List.set_cons_succ, List.set_cons_zero]
        refine wpAny_take (i := 10) (v := ?_) rfl (by kernel_rfl) (by kernel_rfl) (by kernel_rfl) (fun _ _ _ h => h) (Or.inl ⟨by rfl, ?_⟩) ?_
        rotate_left
        · intro w
          go_simp
          try (with_reducible rfl)
        change wpAny _ _ _ _ _ _ (Act.put _ (some 82) _) _
        simp only [Act.put, List.setIfInBounds_toArray, List.set_cons_succ, List.set_cons_zero]
        refine wpAny_take (i := 11) (v := ?_) rfl (by kernel_rfl) (by kernel_rfl) (by kernel_rfl) (fun _ _ _ h => h) (Or.inl ⟨by rfl, ?_⟩) ?_
        rotate_left
        · intro w
          go_simp
          try (with_reducible rfl)
        change wpAny _ _ _ _ _ _ (Act.put _ (some 83) _) _
        simp only [Act.put, List.setIfInBounds_toArray, List.set_cons_succ, List.set_cons_zero]
        refine wpAny_take (i := 12) (v := ?_) rfl (by kernel_rfl) (by kernel_rfl) (by kernel_rfl) (fun _ _ _ h => h) (Or.inl ⟨by rfl, ?_⟩) ?_
        rotate_left
        · intro w
          go_simp
          try (with_reducible rfl)
        change wpAny _ _ _ _ _ _ (Act.put _ (some 84) _) _
        simp only [Act.put, List.setIfInBounds_toArray, List.set_cons_succ, List.set_cons_zero]
        refine wpAny_take (i := 13) (v := ?_) rfl (by kernel_rfl) (by kernel_rfl) (by kernel_rfl) (fun _ _ _ h => h) (Or.inl ⟨by rfl, ?_⟩) ?_
        rotate_left
        · intro w
          go_simp
          try (with_reducible rfl)
        change wpAny _ _ _ _ _ _ (Act.put _ (some 85) _) _
        simp only [Act.put, List.setIfInBounds_toArray, List.set_cons_succ, List.set_cons_zero]
        refine wpAny_take (i := 15) (v := ?_) rfl (by kernel_rfl) (by kernel_rfl) (by kernel_rfl) (fun _ _ _ h => h) (Or.inl ⟨by rfl, ?_⟩) ?_
        rotate_left
        · intro w
          go_simp
          try (with_reducible rfl)
        change wpAny _ _ _ _ _ _ (Act.put _ (some 87) _) _
        simp only [Act.put, List.setIfInBounds_toArray, List.set_cons_succ, List.set_cons_zero]
        refine wpAny_take (i := 16) (v := ?_) rfl (by kernel_rfl) (by kernel_rfl) (by kernel_rfl) (fun _ _ _ h => h) (Or.inl ⟨by rfl, ?_⟩) ?_
        rotate_left
        · intro w
          go_simp
          try (with_reducible rfl)
        change wpAny _ _ _ _ _ _ (Act.put _ (some 88) _) _
        simp only [Act.put, List.setIfInBounds_toArray, List.set_cons_succ, List.set_cons_zero]
        refine wpAny_take (i := 17) (v := ?_) rfl (by kernel_rfl) (by kernel_rfl) (by kernel_rfl) (fun _ _ _ h => h) (Or.inl ⟨by rfl, ?_⟩) ?_
        rotate_left
        · intro w
          go_simp
          try (with_reducible rfl)
        change wpAny _ _ _ _ _ _ (Act.put _ (some 89) _) _
        simp only [Act.put, List.setIfInBounds_toArray, List.set_cons_succ, List.set_cons_zero]
        refine wpAny_take (i := 20) (v := ?_) rfl (by kernel_rfl) (by kernel_rfl) (by kernel_rfl) (fun _ _ _ h => h) (Or.inl ⟨by rfl, ?_⟩) ?_
        rotate_left
        · intro w
          go_simp
          try (with_reducible rfl)
        change wpAny _ _ _ _ _ _ (Act.put _ (some 92) _) _
        simp only [Act.put, List.setIfInBounds_toArray, List.set_cons_succ, List.set_cons_zero]
        refine wpAny_take (i := 21) (v := ?_) rfl (by kernel_rfl) (by kernel_rfl) (by kernel_rfl) (fun _ _ _ h => h) (Or.inl ⟨by rfl, ?_⟩) ?_
        rotate_left
        · intro w
          go_simp
          try (with_reducible rfl)
        change wpAny _ _ _ _ _ _ (Act.put _ (some 93) _) _
        simp only [Act.put, List.setIfInBounds_toArray, List.set_cons_succ, List.set_cons_zero]
        refine wpAny_take (i := 22) (v := ?_) rfl (by kernel_rfl) (by kernel_rfl) (by kernel_rfl) (fun _ _ _ h => h) (Or.inl ⟨by rfl, ?_⟩) ?_
        rotate_left
        · intro w
          go_simp
          try (with_reducible rfl)
        change wpAny _ _ _ _ _ _ (Act.put _ (some 94) _) _
        simp only [Act.put, List.setIfInBounds_toArray, List.set_cons_succ, List.set_cons_zero]
        have hk1 := fun cp => run_str_take (HR1.out.below (Below.next hb2 HB.out)) hq1 cp
        have hk2 := fun cp => run_str_take (HR2.out.below HB.out) hq2 cp
        refine wpAny_ready (rs := [14, 18]) (by kernel_rfl) (by simp) ?_
        refine AllReady.cons rfl (fun K hK => ?_) (AllReady.cons rfl (fun K hK => ?_) AllReady.nil)
        · go_simp
          refine hK _ _ ?_
          clear hK K
          refine wpAny_ready (rs := [18]) (by kernel_rfl) (by simp) ?_
          refine AllReady.cons rfl (fun K hK => ?_) AllReady.nil
          go_simp
          refine hK _ _ ?_
          clear hK K
          refine wpAny_take (i := 19) (v := ?_) rfl (by kernel_rfl) (by kernel_rfl) (by kernel_rfl) (fun _ _ _ h => h) (Or.inl ⟨by rfl, ?_⟩) ?_
          rotate_left
          · intro w
            go_simp
            try (with_reducible rfl)
          change wpAny _ _ _ _ _ _ (Act.put _ (some 91) _) _
          simp only [Act.put, List.setIfInBounds_toArray, List.set_cons_succ, List.set_cons_zero]
          refine wpAny_take (i := 23) (v := ?_) rfl (by kernel_rfl) (by kernel_rfl) (by kernel_rfl) (fun _ _ _ h => h) (Or.inl ⟨by rfl, ?_⟩) ?_
          rotate_left
          · intro w
            go_simp
            try (with_reducible rfl)
          change wpAny _ _ _ _ _ _ (Act.put _ (some 95) _) _
          simp only [Act.put, List.setIfInBounds_toArray, List.set_cons_succ, List.set_cons_zero]
          refine wpAny_take (i := 24) (v := ?_) rfl (by kernel_rfl) (by kernel_rfl) (by kernel_rfl) (fun _ _ _ h => h) (Or.inl ⟨by rfl, ?_⟩) ?_
          rotate_left
          · intro w
            go_simp
            try (with_reducible rfl)
          change wpAny _ _ _ _ _ _ (Act.put _ (some 96) _) _
          simp only [Act.put, List.setIfInBounds_toArray, List.set_cons_succ, List.set_cons_zero]
          refine wpAny_ready (rs := [25]) (by kernel_rfl) (by simp) ?_
          refine AllReady.cons rfl (fun K hK => ?_) AllReady.nil
          go_simp
          refine hK _ _ ?_
          clear hK K
          refine wpAny_done (by kernel_rfl) ?_ _
          go_wp2
          go_ret
          refine ⟨congrArg (fun b => Ending.returned (Value.bool b)) ?_, hb1.trans ((hb2.trans (HB.out.mono hb2.size)).mono hb1.size)⟩
          have := HV.out
          rw [Go.Lib.toList_data, Go.Lib.toList_data, st_list, st_list]; exact this
        · go_simp
          refine hK _ _ ?_
          clear hK K
          refine wpAny_ready (rs := [14]) (by kernel_rfl) (by simp) ?_
          refine AllReady.cons rfl (fun K hK => ?_) AllReady.nil
          go_simp
          refine hK _ _ ?_
          clear hK K
          refine wpAny_take (i := 19) (v := ?_) rfl (by kernel_rfl) (by kernel_rfl) (by kernel_rfl) (fun _ _ _ h => h) (Or.inl ⟨by rfl, ?_⟩) ?_
          rotate_left
          · intro w
            go_simp
            try (with_reducible rfl)
          change wpAny _ _ _ _ _ _ (Act.put _ (some 91) _) _
          simp only [Act.put, List.setIfInBounds_toArray, List.set_cons_succ, List.set_cons_zero]
          refine wpAny_take (i := 23) (v := ?_) rfl (by kernel_rfl) (by kernel_rfl) (by kernel_rfl) (fun _ _ _ h => h) (Or.inl ⟨by rfl, ?_⟩) ?_
          rotate_left
          · intro w
            go_simp
            try (with_reducible rfl)
          change wpAny _ _ _ _ _ _ (Act.put _ (some 95) _) _
          simp only [Act.put, List.setIfInBounds_toArray, List.set_cons_succ, List.set_cons_zero]
          refine wpAny_take (i := 24) (v := ?_) rfl (by kernel_rfl) (by kernel_rfl) (by kernel_rfl) (fun _ _ _ h => h) (Or.inl ⟨by rfl, ?_⟩) ?_
          rotate_left
          · intro w
            go_simp
            try (with_reducible rfl)
          change wpAny _ _ _ _ _ _ (Act.put _ (some 96) _) _
          simp only [Act.put, List.setIfInBounds_toArray, List.set_cons_succ, List.set_cons_zero]
          refine wpAny_ready (rs := [25]) (by kernel_rfl) (by simp) ?_
          refine AllReady.cons rfl (fun K hK => ?_) AllReady.nil
          go_simp
          refine hK _ _ ?_
          clear hK K
          refine wpAny_done (by kernel_rfl) ?_ _
          go_wp2
          go_ret
          refine ⟨congrArg (fun b => Ending.returned (Value.bool b)) ?_, hb1.trans ((hb2.trans (HB.out.mono hb2.size)).mono hb1.size)⟩
          have := HV.out
          rw [Go.Lib.toList_data, Go.Lib.toList_data, st_list, st_list]; exact this
end Go.Proofs.Ytpobblcokkgijaa
