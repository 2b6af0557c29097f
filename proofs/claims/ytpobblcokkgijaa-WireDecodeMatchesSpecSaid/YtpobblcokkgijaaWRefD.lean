/- The contract of the reference's GetInt. -/
import Derived.Test.YtpobblcokkgijaaWWalkD
namespace Go.Proofs.Ytpobblcokkgijaa
open Go.RowKit Wm

/-- The number that bytes write, the least digit first. -/
def val : List UInt8 → Nat
  | [] => 0
  | c :: r => c.toNat % 128 + 128 * val r
theorem val_snoc (c : UInt8) : ∀ l : List UInt8, val (l ++ [c]) = val l + 128 ^ l.length * (c.toNat % 128) := by
  intro l
  induction l with
  | nil => simp [val]
  | cons x r ih =>
    simp only [List.cons_append, val, ih, List.length_cons, Nat.pow_succ]
    rw [Nat.mul_add, ← Nat.mul_assoc, Nat.mul_comm 128 (128 ^ r.length)]; omega
theorem val_drop : ∀ (l : List UInt8) (m : Nat), val (l.drop m) ≤ val l := by
  intro l
  induction l with
  | nil => intro m; simp [val]
  | cons x r ih =>
    intro m
    cases m with
    | zero => simp
    | succ m =>
      have := ih m
      rw [List.drop_succ_cons]
      simp only [val]; omega
theorem lead (l : List UInt8) : ∀ k, k ≤ 9 → k ≤ l.length → (∀ j (h : j < l.length), j < k → 128 ≤ l[j].toNat) → val (l.take k) < 128 ^ k ∧ gz 0 l = comb (val (l.take k)) k (gz k (l.drop k)) := by
  intro k
  induction k with
  | zero =>
    intro _ _ _
    refine ⟨by simp [val], ?_⟩
    simp only [List.take_zero, List.drop_zero, val]
    exact comb_zero _ (gz_bad l 0)
  | succ k ih =>
    intro h9 hl h
    obtain ⟨h1, h2⟩ := ih (by omega) (by omega) fun j hj hjk => h j hj (by omega)
    have hk : k < l.length := by omega
    have hC := h k hk (by omega)
    have h3 := comb_on hk rfl h1 h2 (by omega) (by omega)
    have hv : val (l.take (k + 1)) = val (l.take k) + 128 ^ k * (l[k].toNat % 128) := by
      rw [List.take_succ_eq_append_getElem hk, val_snoc, List.length_take, Nat.min_eq_left (by omega)]
    rw [hv]; exact h3
theorem lead_ten {l : List UInt8} (hl : 10 ≤ l.length) (h : ∀ j (h : j < l.length), j < 10 → 128 ≤ l[j].toNat) : gi l = (0, 0, 11) := by
  obtain ⟨_, h2⟩ := lead l 9 (by omega) (by omega) fun j hj hj9 => h j hj (by omega)
  have h9 := h 9 (by omega) (by omega)
  exact comb_stop (k := 9) (by omega) rfl h2 (.inl ⟨rfl, by omega⟩)
theorem lead_end {l : List UInt8} (hl : l.length ≤ 9) (h : ∀ j (h : j < l.length), 128 ≤ l[j].toNat) : gi l = (0, 0, 10) := by
  obtain ⟨_, h2⟩ := lead l l.length hl (Nat.le_refl _) fun j hj _ => h j hj
  exact comb_end (by omega) h2
theorem lead_bad {l : List UInt8} {k : Nat} (hk : k < l.length) (hk9 : k ≤ 9) (h : ∀ j (h : j < l.length), j < k → 128 ≤ l[j].toNat) (hb : (k = 9 ∧ 1 < l[k].toNat) ∨ (0 < k ∧ l[k].toNat = 0)) : gi l = (0, 0, 11) := by
  obtain ⟨_, h2⟩ := lead l k hk9 (by omega) h
  exact comb_stop hk rfl h2 hb
theorem lead_ok {l : List UInt8} {k : Nat} (hk : k < l.length) (hk9 : k ≤ 9) (h : ∀ j (h : j < l.length), j < k → 128 ≤ l[j].toNat) (hb : ¬ ((k = 9 ∧ 1 < l[k].toNat) ∨ (0 < k ∧ l[k].toNat = 0))) (hs : l[k].toNat < 128) :
    gi l = (zag (val (l.take (k + 1))), k + 1, 0) ∧ val (l.take (k + 1)) < 18446744073709551616 := by
  obtain ⟨_, h2⟩ := lead l k hk9 (by omega) h
  have hv : val (l.take (k + 1)) = val (l.take k) + 128 ^ k * (l[k].toNat % 128) := by
    rw [List.take_succ_eq_append_getElem hk, val_snoc, List.length_take, Nat.min_eq_left (by omega)]
  rw [hv]
  exact comb_last hk rfl h2 hb hs

theorem zag_odd {z : Nat} (h : z % 2 = 1) : -1 - (z : Int) / 2 = zag z := by unfold zag; rw [if_pos h]; omega
theorem zag_even {z : Nat} (h : ¬ z % 2 = 1) : (z : Int) / 2 = zag z := by unfold zag; rw [if_neg h]; omega

set_option maxRecDepth 100000 in
set_option maxHeartbeats 2000000 in
theorem rgetInt_any (A : Option Addr) (c : Nat) (l : List UInt8) (w : World) (hl : l.length ≤ 140737488355328) (hr : Rd w A (bc l)) :
    Calls Try.prog 25 #[.slice A l.length c] w fun e w' => e = .returned (.tuple #[.int .i64 (gi l).1, .int .i64 ((gi l).2.1 : Nat), .int .i64 ((gi l).2.2 : Nat)]) ∧ w = w' := by
  have HR := Lib.hid hr
  clear hr
  go_enter Try.func25, Try.ntmps25
  go_wp2
  go_loop [5] (fun i => ∃ k : Nat, i = .int .i64 k ∧ k ≤ l.length ∧ k ≤ 10 ∧ Hid (∀ j (h : j < l.length), j < k → 128 ≤ l[j].toNat)) (fun i => l.length - (intOf i).toNat)
  case atStart => exact ⟨0, rfl, by omega, by omega, fun j _ hj => absurd hj (by omega)⟩
  case round =>
    obtain ⟨k, rfl, hk, hk10, HK⟩ := hrel
    by_cases hlt : k < l.length
    · by_cases h10 : k = 10
      · subst h10
        have HG := Lib.hid (lead_ten (l := l) (by omega) HK.out)
        go_wp2
        go_ret3
        exact ⟨by rw [HG.out]; rfl, rfl⟩
      · have hk9 : k ≤ 9 := by omega
        have b10 : ((k : Int) == 10) = false := beq_eq_false_iff_ne.2 (by omega)
        have bl : ((k : Int) == (l.length : Int)) = false := beq_eq_false_iff_ne.2 (by omega)
        obtain ⟨b, off, hA, hcell⟩ := HR.out.at_ (bc_at hlt)
        obtain ⟨C, hC⟩ : ∃ C : Nat, l[k].toNat = C := ⟨_, rfl⟩
        have hC2 : C < 256 := by have := l[k].toNat_lt; omega
        rw [hC] at hcell
        by_cases hs : 128 ≤ C
        · have HN := Lib.hid (show ∀ j (h : j < l.length), j < k + 1 → 128 ≤ l[j].toNat from fun j h hj => by
            rcases Nat.lt_or_ge j k with h1 | h1
            · exact HK.out j h h1
            · have : j = k := by omega
              subst this
              omega)
          subst hA
          clear hC
          go_wp2
          go_round
          case rel => exact ⟨k + 1, by go_num, by omega, by omega, HN.out⟩
          case measure => simp [intOf]; omega
        · by_cases hb : (k = 9 ∧ 1 < C) ∨ (0 < k ∧ C = 0)
          · have HG := Lib.hid (lead_bad hlt hk9 HK.out (by rw [hC]; exact hb))
            subst hA
            clear hC
            rcases hb with ⟨rfl, h1⟩ | ⟨h0, rfl⟩
            · go_wp2
              go_ret3
              exact ⟨by rw [HG.out]; rfl, rfl⟩
            · by_cases h9 : k = 9
              · subst h9
                go_wp2
                go_ret3
                exact ⟨by rw [HG.out]; rfl, rfl⟩
              · have b9 : ((k : Int) == 9) = false := beq_eq_false_iff_ne.2 (by omega)
                go_wp2
                go_ret3
                exact ⟨by rw [HG.out]; rfl, rfl⟩
          · have hok := lead_ok hlt hk9 HK.out (by rw [hC]; exact hb) (by omega)
            have HG := Lib.hid hok.1
            have HV := Lib.hid hok.2
            clear hok hC
            subst hA
            have hb9 : k = 9 → C ≤ 1 := fun h => by rcases Nat.lt_or_ge 1 C with h1 | h1; exact absurd (.inl ⟨h, h1⟩) hb; exact h1
            have hb0 : 0 < k → C ≠ 0 := fun h h1 => hb (.inr ⟨h, h1⟩)
            have hcases : (k = 9 ∧ C ≤ 1 ∧ C ≠ 0) ∨ (k ≠ 9 ∧ 0 < k ∧ C ≠ 0) ∨ k = 0 := by
              rcases Nat.eq_zero_or_pos k with h | h
              · exact .inr (.inr h)
              · by_cases h9 : k = 9
                · exact .inl ⟨h9, hb9 h9, hb0 h⟩
                · exact .inr (.inl ⟨h9, h, hb0 h⟩)
            clear hb hb9 hb0
            have hs' : ¬ 128 ≤ C := hs
            rcases hcases with ⟨h9, h1, h0⟩ | ⟨h9, hp, h0⟩ | h0
            · have c0 : ((C : Int) == 0) = false := beq_eq_false_iff_ne.2 (by omega)
              have b9 : ((k : Int) == 9) = true := beq_iff_eq.2 (by omega)
              have g0 : (k : Int) > 0 := by omega
              have g1 : ¬ (C : Int) > 1 := by omega
              clear h9 h1 h0
              go_wp2
              clear hcell
              go_loop [6, 7] (fun z i => ∃ m : Nat, m ≤ k + 1 ∧ i = .int .i64 ((m : Int) - 1) ∧ z = .int .u64 (val ((l.take (k + 1)).drop m) : Nat)) (fun _ i => (intOf i + 1).toNat)
              case atStart =>
                refine ⟨k + 1, Nat.le_refl _, by go_num, ?_⟩
                rw [List.drop_eq_nil_of_le (by rw [List.length_take]; omega)]; rfl
              case round =>
                obtain ⟨m, hm, rfl, rfl⟩ := hrel
                cases m with
                | zero =>
                  have hge : ¬ ((0 : Nat) : Int) - 1 ≥ 0 := by omega
                  rw [List.drop_zero]
                  obtain ⟨V, hV⟩ : ∃ V, val (l.take (k + 1)) = V := ⟨_, rfl⟩
                  rw [hV] at HG HV ⊢
                  clear hV
                  have hV := HV.out
                  by_cases ho : V % 2 = 1
                  · go_wp2
                    go_ret3
                    exact ⟨by rw [HG.out, ← zag_odd ho]; rfl, rfl⟩
                  · go_wp2
                    go_ret3
                    exact ⟨by rw [HG.out, ← zag_even ho]; rfl, rfl⟩
                | succ m =>
                  have hmk : m < k + 1 := by omega
                  have hml : m < l.length := by omega
                  have hge : ((m + 1 : Nat) : Int) - 1 ≥ 0 := by omega
                  have hi1 : ((m + 1 : Nat) : Int) - 1 = (m : Int) := by omega
                  rw [hi1] at hge ⊢
                  obtain ⟨b', off', hA', hcell'⟩ := HR.out.at_ (bc_at hml)
                  injection hA' with hA'
                  injection hA' with e1 e2 _
                  subst e1 e2
                  obtain ⟨D, hD⟩ : ∃ D : Nat, l[m].toNat = D := ⟨_, rfl⟩
                  have hD2 : D < 256 := by have := l[m].toNat_lt; omega
                  rw [hD] at hcell'
                  have hst : val ((l.take (k + 1)).drop m) = D % 128 + 128 * val ((l.take (k + 1)).drop (m + 1)) := by
                    have hml' : m < (l.take (k + 1)).length := by rw [List.length_take]; omega
                    rw [List.drop_eq_getElem_cons hml', val, List.getElem_take, hD]
                  have hlt2 := Nat.lt_of_le_of_lt (val_drop (l.take (k + 1)) m) HV.out
                  rw [hst] at hlt2
                  have HST := Lib.hid hst
                  clear hst hD
                  obtain ⟨Z, hZ⟩ : ∃ Z, val ((l.take (k + 1)).drop (m + 1)) = Z := ⟨_, rfl⟩
                  rw [hZ] at HST hlt2 ⊢
                  clear hZ
                  go_wp2
                  refine ⟨⟨m, by omega, rfl, ?_⟩, ?_⟩
                  · rw [HST.out]
                    exact congrArg (Value.int .u64) (by omega)
                  · simp only [intOf]; omega
            · have c0 : ((C : Int) == 0) = false := beq_eq_false_iff_ne.2 (by omega)
              have b9 : ((k : Int) == 9) = false := beq_eq_false_iff_ne.2 (by omega)
              have g0 : (k : Int) > 0 := by omega
              clear h9 hp h0
              go_wp2
              clear hcell
              go_loop [6, 7] (fun z i => ∃ m : Nat, m ≤ k + 1 ∧ i = .int .i64 ((m : Int) - 1) ∧ z = .int .u64 (val ((l.take (k + 1)).drop m) : Nat)) (fun _ i => (intOf i + 1).toNat)
              case atStart =>
                refine ⟨k + 1, Nat.le_refl _, by go_num, ?_⟩
                rw [List.drop_eq_nil_of_le (by rw [List.length_take]; omega)]; rfl
              case round =>
                obtain ⟨m, hm, rfl, rfl⟩ := hrel
                cases m with
                | zero =>
                  have hge : ¬ ((0 : Nat) : Int) - 1 ≥ 0 := by omega
                  rw [List.drop_zero]
                  obtain ⟨V, hV⟩ : ∃ V, val (l.take (k + 1)) = V := ⟨_, rfl⟩
                  rw [hV] at HG HV ⊢
                  clear hV
                  have hV := HV.out
                  by_cases ho : V % 2 = 1
                  · go_wp2
                    go_ret3
                    exact ⟨by rw [HG.out, ← zag_odd ho]; rfl, rfl⟩
                  · go_wp2
                    go_ret3
                    exact ⟨by rw [HG.out, ← zag_even ho]; rfl, rfl⟩
                | succ m =>
                  have hmk : m < k + 1 := by omega
                  have hml : m < l.length := by omega
                  have hge : ((m + 1 : Nat) : Int) - 1 ≥ 0 := by omega
                  have hi1 : ((m + 1 : Nat) : Int) - 1 = (m : Int) := by omega
                  rw [hi1] at hge ⊢
                  obtain ⟨b', off', hA', hcell'⟩ := HR.out.at_ (bc_at hml)
                  injection hA' with hA'
                  injection hA' with e1 e2 _
                  subst e1 e2
                  obtain ⟨D, hD⟩ : ∃ D : Nat, l[m].toNat = D := ⟨_, rfl⟩
                  have hD2 : D < 256 := by have := l[m].toNat_lt; omega
                  rw [hD] at hcell'
                  have hst : val ((l.take (k + 1)).drop m) = D % 128 + 128 * val ((l.take (k + 1)).drop (m + 1)) := by
                    have hml' : m < (l.take (k + 1)).length := by rw [List.length_take]; omega
                    rw [List.drop_eq_getElem_cons hml', val, List.getElem_take, hD]
                  have hlt2 := Nat.lt_of_le_of_lt (val_drop (l.take (k + 1)) m) HV.out
                  rw [hst] at hlt2
                  have HST := Lib.hid hst
                  clear hst hD
                  obtain ⟨Z, hZ⟩ : ∃ Z, val ((l.take (k + 1)).drop (m + 1)) = Z := ⟨_, rfl⟩
                  rw [hZ] at HST hlt2 ⊢
                  clear hZ
                  go_wp2
                  refine ⟨⟨m, by omega, rfl, ?_⟩, ?_⟩
                  · rw [HST.out]
                    exact congrArg (Value.int .u64) (by omega)
                  · simp only [intOf]; omega
            · have b9 : ((k : Int) == 9) = false := beq_eq_false_iff_ne.2 (by omega)
              have g0 : ¬ (k : Int) > 0 := by omega
              clear h0
              go_wp2
              clear hcell
              go_loop [6, 7] (fun z i => ∃ m : Nat, m ≤ k + 1 ∧ i = .int .i64 ((m : Int) - 1) ∧ z = .int .u64 (val ((l.take (k + 1)).drop m) : Nat)) (fun _ i => (intOf i + 1).toNat)
              case atStart =>
                refine ⟨k + 1, Nat.le_refl _, by go_num, ?_⟩
                rw [List.drop_eq_nil_of_le (by rw [List.length_take]; omega)]; rfl
              case round =>
                obtain ⟨m, hm, rfl, rfl⟩ := hrel
                cases m with
                | zero =>
                  have hge : ¬ ((0 : Nat) : Int) - 1 ≥ 0 := by omega
                  rw [List.drop_zero]
                  obtain ⟨V, hV⟩ : ∃ V, val (l.take (k + 1)) = V := ⟨_, rfl⟩
                  rw [hV] at HG HV ⊢
                  clear hV
                  have hV := HV.out
                  by_cases ho : V % 2 = 1
                  · go_wp2
                    go_ret3
                    exact ⟨by rw [HG.out, ← zag_odd ho]; rfl, rfl⟩
                  · go_wp2
                    go_ret3
                    exact ⟨by rw [HG.out, ← zag_even ho]; rfl, rfl⟩
                | succ m =>
                  have hmk : m < k + 1 := by omega
                  have hml : m < l.length := by omega
                  have hge : ((m + 1 : Nat) : Int) - 1 ≥ 0 := by omega
                  have hi1 : ((m + 1 : Nat) : Int) - 1 = (m : Int) := by omega
                  rw [hi1] at hge ⊢
                  obtain ⟨b', off', hA', hcell'⟩ := HR.out.at_ (bc_at hml)
                  injection hA' with hA'
                  injection hA' with e1 e2 _
                  subst e1 e2
                  obtain ⟨D, hD⟩ : ∃ D : Nat, l[m].toNat = D := ⟨_, rfl⟩
                  have hD2 : D < 256 := by have := l[m].toNat_lt; omega
                  rw [hD] at hcell'
                  have hst : val ((l.take (k + 1)).drop m) = D % 128 + 128 * val ((l.take (k + 1)).drop (m + 1)) := by
                    have hml' : m < (l.take (k + 1)).length := by rw [List.length_take]; omega
                    rw [List.drop_eq_getElem_cons hml', val, List.getElem_take, hD]
                  have hlt2 := Nat.lt_of_le_of_lt (val_drop (l.take (k + 1)) m) HV.out
                  rw [hst] at hlt2
                  have HST := Lib.hid hst
                  clear hst hD
                  obtain ⟨Z, hZ⟩ : ∃ Z, val ((l.take (k + 1)).drop (m + 1)) = Z := ⟨_, rfl⟩
                  rw [hZ] at HST hlt2 ⊢
                  clear hZ
                  go_wp2
                  refine ⟨⟨m, by omega, rfl, ?_⟩, ?_⟩
                  · rw [HST.out]
                    exact congrArg (Value.int .u64) (by omega)
                  · simp only [intOf]; omega
    · have HG : Hid (gi l = if k = 10 then (0, 0, 11) else (0, 0, 10)) := by
        show _ = _
        by_cases h10 : k = 10
        · rw [if_pos h10]; subst h10; exact lead_ten (by omega) HK.out
        · rw [if_neg h10]; exact lead_end (by omega) fun j h => HK.out j h (by omega)
      have hkl : k = l.length := by omega
      by_cases h10 : k = 10
      · rw [if_pos h10] at HG
        have b10 : ((k : Int) == 10) = true := beq_iff_eq.2 (by omega)
        go_wp2
        go_ret3
        exact ⟨by rw [HG.out]; rfl, rfl⟩
      · rw [if_neg h10] at HG
        have b10 : ((k : Int) == 10) = false := beq_eq_false_iff_ne.2 (by omega)
        have bl : ((k : Int) == (l.length : Int)) = true := beq_iff_eq.2 (by omega)
        go_wp2
        go_ret3
        exact ⟨by rw [HG.out]; rfl, rfl⟩
end Go.Proofs.Ytpobblcokkgijaa
