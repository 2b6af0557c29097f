/- The method that reads whatever stands next. -/
import Derived.Test.YtggjgikpiljoiaaDoorL11
namespace Go.Proofs.YtggjgikpiljoiaaDoor
open Go.RowKit Hm Wm Lx

/-- Which of the five methods reads what begins here; 5: none. -/
def kd (c : UInt8) (r : List UInt8) : Int := if bl c = true ∨ c.toNat = 35 then 0 else if lt c = true then 1 else if dg c = true then 2 else if c.toNat = 34 then 3 else if (sgn c r).fine = true then 4 else 5
theorem kd_rng (c : UInt8) (r : List UInt8) : 0 ≤ kd c r ∧ kd c r ≤ 5 := by
  unfold kd; repeat' split
  all_goals omega
theorem cl_lt {c : UInt8} (h : lt c = true) : bl c = false ∧ c.toNat ≠ 35 ∧ dg c = false ∧ c.toNat ≠ 34 := by
  simp only [lt, decide_eq_true_eq] at h
  simp only [bl, dg, decide_eq_false_iff_not]
  omega
theorem cl_dg {c : UInt8} (h : dg c = true) : bl c = false ∧ c.toNat ≠ 35 ∧ lt c = false ∧ c.toNat ≠ 34 := by
  simp only [dg, decide_eq_true_eq] at h
  simp only [bl, lt, decide_eq_false_iff_not]
  omega
theorem cl_34 {c : UInt8} (h : c.toNat = 34) : bl c = false ∧ c.toNat ≠ 35 ∧ lt c = false ∧ dg c = false := by
  simp only [bl, lt, dg, decide_eq_false_iff_not]
  omega
theorem kd_0 {c : UInt8} {r : List UInt8} : kd c r = 0 ↔ bl c = true ∨ c.toNat = 35 := by
  unfold kd
  by_cases h : bl c = true ∨ c.toNat = 35
  · simp [h]
  · rw [if_neg h]
    constructor
    · intro h2; exfalso; revert h2; repeat' split
      all_goals simp
    · intro h2; exact absurd h2 h
theorem kd_1 {c : UInt8} {r : List UInt8} : kd c r = 1 ↔ lt c = true := by
  constructor
  · intro h; unfold kd at h; revert h; repeat' split
    all_goals simp [*]
  · intro h
    obtain ⟨h1, h2, h3, h4⟩ := cl_lt h
    simp [kd, h, h1, h2]
theorem kd_2 {c : UInt8} {r : List UInt8} : kd c r = 2 ↔ dg c = true := by
  constructor
  · intro h; unfold kd at h; revert h; repeat' split
    all_goals simp [*]
  · intro h
    obtain ⟨h1, h2, h3, h4⟩ := cl_dg h
    simp [kd, h, h1, h2, h3]
theorem kd_3 {c : UInt8} {r : List UInt8} : kd c r = 3 ↔ c.toNat = 34 := by
  constructor
  · intro h; unfold kd at h; revert h; repeat' split
    all_goals simp [*]
  · intro h
    obtain ⟨h1, h2, h3, h4⟩ := cl_34 h
    simp [kd, h, h1, h3, h4]
theorem kd_45 {c : UInt8} {r : List UInt8} (h : 4 ≤ kd c r) : Lx.step (c :: r) = sgn c r ∧ ((sgn c r).fine = true ↔ kd c r = 4) := by
  unfold kd at h ⊢
  by_cases h0 : bl c = true ∨ c.toNat = 35
  · simp [h0] at h
  · rw [if_neg h0] at h ⊢
    obtain ⟨h01, h02⟩ : bl c = false ∧ c.toNat ≠ 35 := by
      constructor
      · cases hb : bl c
        · rfl
        · exact absurd (.inl hb) h0
      · exact fun e => h0 (.inr e)
    by_cases h1 : lt c = true
    · simp [h1] at h
    · rw [if_neg h1] at h ⊢
      by_cases h2 : dg c = true
      · simp [h2] at h
      · rw [if_neg h2] at h ⊢
        by_cases h3 : c.toNat = 34
        · simp [h3] at h
        · rw [if_neg h3] at h ⊢
          refine ⟨by simp [Lx.step, h01, h02, h1, h2, h3], ?_⟩
          by_cases h4 : (sgn c r).fine = true
          · simp [h4]
          · simp [h4]
theorem step_codes {q : List UInt8} {e : Nat} (h : Lx.step q = .bad e) : e ≠ 8 ∧ e ≠ 0 := by
  cases q with
  | nil => injection h with h; omega
  | cons c r =>
    simp only [Lx.step] at h
    split at h
    · cases h
    · split at h
      · cases h
      · split at h
        · split at h
          · injection h with h; omega
          · cases h
        · split at h
          · split at h
            · cases h
            · injection h with h; omega
          · split at h
            · have : ∀ (k : Nat) (l acc : List UInt8) (n : Nat), l.length ≤ k → txt l acc n = .bad e → e ≠ 8 ∧ e ≠ 0 := by
                intro k
                induction k with
                | zero =>
                  intro l acc n hl h
                  obtain rfl := List.eq_nil_of_length_eq_zero (by omega : l.length = 0)
                  rw [txt_nil] at h; injection h with h; omega
                | succ k ih =>
                  intro l acc n hl h
                  cases l with
                  | nil => rw [txt_nil] at h; injection h with h; omega
                  | cons c r =>
                    by_cases hq : c.toNat = 34
                    · rw [txt_quote hq] at h; cases h
                    · by_cases h0 : (chr (c :: r)).2 = 0
                      · rw [txt_bad hq h0] at h; injection h with h; omega
                      · by_cases ha : acc.length = 200
                        · rw [txt_long hq h0 ha] at h; injection h with h; omega
                        · rw [txt_next hq h0 ha] at h
                          simp only [List.length_cons] at hl
                          exact ih _ _ _ (by simp only [List.length_drop, List.length_cons]; omega) h
              exact this _ _ _ _ (Nat.le_refl _) h
            · rcases sgn_cases c r with h1 | ⟨n, h1, _⟩
              · rw [h1] at h; injection h with h; omega
              · rw [h1] at h; cases h
theorem Rst.comp {g base p : Nat} {l : List UInt8} {T : List TI} {w w1 w2 : World} (h : Rst g base l p T w1 w2) (hk : KeepsX g w w1) (hb : Below base w w1) : Rst g base l p T w w2 := ⟨h.1, hk.trans h.2.1, hb.trans h.2.2⟩
theorem StP.out {g base p : Nat} {l : List UInt8} {T : List TI} {w w1 w2 : World} {q : St} {e : Ending} (h : StP g base l p T w1 q e w2) (hk : KeepsX g w w1) (hb : Below base w w1) (hq : ∀ e, q = .bad e → e ≠ 8) :
    ∃ z : Int, e = .returned (.int .i64 z) ∧ (z != 8) = true ∧ StP g base l p T w q (.returned (.int .i64 z)) w2 := by
  cases q with
  | bad e' => obtain ⟨h1, h2⟩ := h; exact ⟨e', h1, by have := hq e' rfl; rw [bne_iff_ne]; omega, rfl, h2.comp hk hb⟩
  | skip n => obtain ⟨h1, h2⟩ := h; exact ⟨0, h1, rfl, rfl, h2.comp hk hb⟩
  | tok k s z n => obtain ⟨h1, h2⟩ := h; exact ⟨0, h1, rfl, rfl, h2.comp hk hb⟩
theorem m0_yes (g base p : Nat) (l r : List UInt8) (c : UInt8) (v : Value) (T : List TI) (w : World) (hE : Env w) (hR : Blk w g 46 [.string (sb l), .int .i64 p, v]) (hT : Row w base v T) (_hb6 : 6 ≤ base) (hg : base ≤ g) (hp : p < l.length) (_hl : l.length ≤ 65536) (_hn : T.length ≤ 100000) (hd : l.drop p = c :: r) (h : kd c r = 0) : Calls Tryd.prog 26 #[.pointer (some ⟨g, 0, none⟩)] w (StP g base l p T w (Lx.step (c :: r))) := by
  by_cases h1 : bl c = true
  · have hs : Lx.step (c :: r) = .skip 1 := by simp [Lx.step, h1]
    rw [hs]
    simp only [bl, decide_eq_true_eq] at h1
    rcases h1 with h1 | h1 | h1 | h1
    · exact blank_32 g base p l r c v T w hE hR hT _hb6 hg hp _hl _hn hd h1
    · exact blank_9 g base p l r c v T w hE hR hT _hb6 hg hp _hl _hn hd h1
    · exact blank_10 g base p l r c v T w hE hR hT _hb6 hg hp _hl _hn hd h1
    · exact blank_13 g base p l r c v T w hE hR hT _hb6 hg hp _hl _hn hd h1
  · have h2 := (kd_0.1 h).resolve_left h1
    rw [step_cmt h2]
    exact blank_cmt g base p l r c v T w hE hR hT _hb6 hg hp _hl _hn hd h2
theorem m0_no (g base p : Nat) (l r : List UInt8) (c : UInt8) (v : Value) (T : List TI) (w : World) (hE : Env w) (hR : Blk w g 46 [.string (sb l), .int .i64 p, v]) (hT : Row w base v T) (_hb6 : 6 ≤ base) (hg : base ≤ g) (hp : p < l.length) (_hl : l.length ≤ 65536) (_hn : T.length ≤ 100000) (hd : l.drop p = c :: r) (h : kd c r ≠ 0) : Calls Tryd.prog 26 #[.pointer (some ⟨g, 0, none⟩)] w (MetP g base l p T w 8) := by
  have h1 : ¬ (bl c = true ∨ c.toNat = 35) := fun e => h (kd_0.2 e)
  refine blank_no g base p l r c v T w hE hR hT _hb6 hg hp _hl _hn hd ?_
  simp only [bl, decide_eq_true_eq] at h1
  omega
theorem m1_yes (g base p : Nat) (l r : List UInt8) (c : UInt8) (v : Value) (T : List TI) (w : World) (hE : Env w) (hR : Blk w g 46 [.string (sb l), .int .i64 p, v]) (hT : Row w base v T) (_hb6 : 6 ≤ base) (hg : base ≤ g) (hp : p < l.length) (_hl : l.length ≤ 65536) (_hn : T.length ≤ 100000) (hd : l.drop p = c :: r) (h : kd c r = 1) : Calls Tryd.prog 27 #[.pointer (some ⟨g, 0, none⟩)] w (StP g base l p T w (Lx.step (c :: r))) := by
  have h1 := kd_1.1 h
  obtain ⟨h2, h3, h4, h5⟩ := cl_lt h1
  by_cases h6 : 32 < (word (c :: r)).length
  · have hs : Lx.step (c :: r) = .bad 2 := by simp [Lx.step, h1, h2, h3, h6]
    rw [hs]; exact name_long g base p l r c v T w hE hR hT _hb6 hg hp _hl _hn hd (lt_wd h1) h4 h6
  · have hs : Lx.step (c :: r) = .tok 1 (word (c :: r)) 0 (word (c :: r)).length := by simp [Lx.step, h1, h2, h3, h6]
    rw [hs]; exact name_yes g base p l r c v T w hE hR hT _hb6 hg hp _hl _hn hd (lt_wd h1) h4 (by omega)
theorem m1_no (g base p : Nat) (l r : List UInt8) (c : UInt8) (v : Value) (T : List TI) (w : World) (hE : Env w) (hR : Blk w g 46 [.string (sb l), .int .i64 p, v]) (hT : Row w base v T) (_hb6 : 6 ≤ base) (hg : base ≤ g) (hp : p < l.length) (_hl : l.length ≤ 65536) (_hn : T.length ≤ 100000) (hd : l.drop p = c :: r) (h : kd c r ≠ 1) : Calls Tryd.prog 27 #[.pointer (some ⟨g, 0, none⟩)] w (MetP g base l p T w 8) := by
  have h1 : lt c = false := by
    cases hl : lt c
    · rfl
    · exact absurd (kd_1.2 hl) h
  cases h2 : dg c
  · exact name_no g base p l r c v T w hE hR hT _hb6 hg hp _hl _hn hd (by simp [wd, h1, h2])
  · exact name_dig g base p l r c v T w hE hR hT _hb6 hg hp _hl _hn hd (by simp [wd, h2]) h2
theorem m2_yes (g base p : Nat) (l r : List UInt8) (c : UInt8) (v : Value) (T : List TI) (w : World) (hE : Env w) (hR : Blk w g 46 [.string (sb l), .int .i64 p, v]) (hT : Row w base v T) (_hb6 : 6 ≤ base) (hg : base ≤ g) (hp : p < l.length) (_hl : l.length ≤ 65536) (_hn : T.length ≤ 100000) (hd : l.drop p = c :: r) (h : kd c r = 2) : Calls Tryd.prog 28 #[.pointer (some ⟨g, 0, none⟩)] w (StP g base l p T w (Lx.step (c :: r))) := by
  have h1 := kd_2.1 h
  obtain ⟨h2, h3, h4, h5⟩ := cl_dg h1
  have hwc : word (c :: r) = c :: r.takeWhile wd := by unfold word; rw [List.takeWhile_cons, if_pos (dg_wd h1)]
  cases h6 : numOk (word (c :: r))
  · have hs : Lx.step (c :: r) = .bad 27 := by simp [Lx.step, h1, h2, h3, h4, h6]
    rw [hs]
    by_cases h7 : 999999999999999 < numA (word (c :: r))
    · exact number_big g base p l r c v T w hE hR hT _hb6 hg hp _hl _hn hd h1 h7
    · refine number_bad g base p l r c v T w hE hR hT _hb6 hg hp _hl _hn hd h1 (by omega) (fun e => ?_)
      rw [hwc] at e h7 h6
      have := (numA_iff h1).1 ⟨by omega, e⟩
      rw [h6] at this
      cases this
  · have hs : Lx.step (c :: r) = .tok 2 [] (numV (word (c :: r))) (word (c :: r)).length := by simp [Lx.step, h1, h2, h3, h4, h6]
    rw [hs]; exact number_yes g base p l r c v T w hE hR hT _hb6 hg hp _hl _hn hd h1 h6
theorem m2_no (g base p : Nat) (l r : List UInt8) (c : UInt8) (v : Value) (T : List TI) (w : World) (hE : Env w) (hR : Blk w g 46 [.string (sb l), .int .i64 p, v]) (hT : Row w base v T) (_hb6 : 6 ≤ base) (hg : base ≤ g) (hp : p < l.length) (_hl : l.length ≤ 65536) (_hn : T.length ≤ 100000) (hd : l.drop p = c :: r) (h : kd c r ≠ 2) : Calls Tryd.prog 28 #[.pointer (some ⟨g, 0, none⟩)] w (MetP g base l p T w 8) := by
  have h1 : dg c = false := by
    cases hl : dg c
    · rfl
    · exact absurd (kd_2.2 hl) h
  exact number_no g base p l r c v T w hE hR hT _hb6 hg hp _hl _hn hd h1
theorem m3_yes (g base p : Nat) (l r : List UInt8) (c : UInt8) (v : Value) (T : List TI) (w : World) (hE : Env w) (hR : Blk w g 46 [.string (sb l), .int .i64 p, v]) (hT : Row w base v T) (_hb6 : 6 ≤ base) (hg : base ≤ g) (hp : p < l.length) (_hl : l.length ≤ 65536) (_hn : T.length ≤ 100000) (hd : l.drop p = c :: r) (h : kd c r = 3) : Calls Tryd.prog 29 #[.pointer (some ⟨g, 0, none⟩)] w (StP g base l p T w (Lx.step (c :: r))) := by
  have h1 := kd_3.1 h
  obtain ⟨h2, h3, h4, h5⟩ := cl_34 h1
  have hs : Lx.step (c :: r) = txt r [] 1 := by simp [Lx.step, h1, h2, h4, h5]
  rw [hs]; exact text_any g base p l r c v T w hE hR hT _hb6 hg hp _hl _hn hd h1
theorem m3_no (g base p : Nat) (l r : List UInt8) (c : UInt8) (v : Value) (T : List TI) (w : World) (hE : Env w) (hR : Blk w g 46 [.string (sb l), .int .i64 p, v]) (hT : Row w base v T) (_hb6 : 6 ≤ base) (hg : base ≤ g) (hp : p < l.length) (_hl : l.length ≤ 65536) (_hn : T.length ≤ 100000) (hd : l.drop p = c :: r) (h : kd c r ≠ 3) : Calls Tryd.prog 29 #[.pointer (some ⟨g, 0, none⟩)] w (MetP g base l p T w 8) := text_no g base p l r c v T w hE hR hT _hb6 hg hp _hl _hn hd (fun e => h (kd_3.2 e))
theorem m4_yes (g base p : Nat) (l r : List UInt8) (c : UInt8) (v : Value) (T : List TI) (w : World) (_hE : Env w) (hR : Blk w g 46 [.string (sb l), .int .i64 p, v]) (hT : Row w base v T) (_hb6 : 6 ≤ base) (hg : base ≤ g) (hp : p < l.length) (_hl : l.length ≤ 65536) (_hn : T.length ≤ 100000) (hd : l.drop p = c :: r) (h : kd c r = 4) : Calls Tryd.prog 30 #[.pointer (some ⟨g, 0, none⟩)] w (StP g base l p T w (Lx.step (c :: r))) := by
  obtain ⟨h1, h2⟩ := kd_45 (c := c) (r := r) (by omega)
  have h3 := sign_any g base p l r c v T w hR hT hg hp _hl _hn hd
  rw [h1]
  cases h4 : sgn c r with
  | bad e => rw [h4] at h2; exact absurd (h2.2 h) (by simp [St.fine])
  | skip n => rcases sgn_cases c r with h5 | ⟨n, h5, _⟩ <;> rw [h4] at h5 <;> cases h5
  | tok k s z n => rw [h4] at h3; exact h3
theorem m4_no (g base p : Nat) (l r : List UInt8) (c : UInt8) (v : Value) (T : List TI) (w : World) (_hE : Env w) (hR : Blk w g 46 [.string (sb l), .int .i64 p, v]) (hT : Row w base v T) (_hb6 : 6 ≤ base) (hg : base ≤ g) (hp : p < l.length) (_hl : l.length ≤ 65536) (_hn : T.length ≤ 100000) (hd : l.drop p = c :: r) (h : kd c r = 5) : Calls Tryd.prog 30 #[.pointer (some ⟨g, 0, none⟩)] w (MetP g base l p T w 8) := by
  obtain ⟨h1, h2⟩ := kd_45 (c := c) (r := r) (by omega)
  have h3 := sign_any g base p l r c v T w hR hT hg hp _hl _hn hd
  rcases sgn_cases c r with h5 | ⟨n, h5, _⟩
  · rw [h5] at h3; exact h3
  · rw [h5] at h2; have := h2.1 rfl; omega
theorem m5_step {c : UInt8} {r : List UInt8} (h : kd c r = 5) : Lx.step (c :: r) = .bad 26 := by
  obtain ⟨h1, h2⟩ := kd_45 (c := c) (r := r) (by omega)
  rw [h1]
  rcases sgn_cases c r with h5 | ⟨n, h5, _⟩
  · exact h5
  · rw [h5] at h2; have := h2.1 rfl; omega
set_option maxRecDepth 100000 in
set_option maxHeartbeats 800000 in
theorem next_any (g base p : Nat) (l r : List UInt8) (c : UInt8) (v : Value) (T : List TI) (w : World) (hE : Env w) (hR : Blk w g 46 [.string (sb l), .int .i64 p, v]) (hT : Row w base v T) (_hb6 : 6 ≤ base) (hg : base ≤ g) (hp : p < l.length) (_hl : l.length ≤ 65536) (_hn : T.length ≤ 100000) (hd : l.drop p = c :: r) : Calls Tryd.prog 16 #[.pointer (some ⟨g, 0, none⟩)] w (StP g base l p T w (Lx.step (c :: r))) := by
  have HE0 := Lib.hid hE
  have HD := Lib.hid hd
  have HR0 := Lib.hid (show Rst g base l p T w w from ⟨⟨v, hR, hT⟩, KeepsX.refl _ _, Below.refl _ _⟩)
  have hkr := kd_rng c r
  obtain ⟨q, hq⟩ : ∃ q, q = Lx.step (c :: r) := ⟨_, rfl⟩
  have hqc : ∀ e, q = .bad e → e ≠ 8 := fun e he => (step_codes (hq ▸ he)).1
  have HQ := Lib.hid hq
  have HQC := Lib.hid hqc
  rw [← hq]
  clear hE hd hR hT hq hqc
  go_enter Tryd.func16, Tryd.ntmps16
  go_wp2_with (first | (refine wpList_dst 6 rfl ?_; refine wpList_run 6 rfl rfl _ (exec_buildF 60 #[(0, .func 26), (1, .func 27), (2, .func 28), (3, .func 29), (4, .func 30)] rfl #[(0, .func (.func 26) #[] #[]), (1, .func (.func 27) #[] #[]), (2, .func (.func 28) #[] #[]), (3, .func (.func 29) #[] #[]), (4, .func (.func 30) #[] #[])] rfl (.agg #[.func (.func 26) #[] #[], .func (.func 27) #[] #[], .func (.func 28) #[] #[], .func (.func 29) #[] #[], .func (.func 30) #[] #[]]) (by kernel_rfl)) ?_; go_frame))
  go_loopw [7] (fun a wr => ∃ z : Int, a = .int .i64 z ∧ (z = 0 ∨ z = 1 ∨ z = 2 ∨ z = 3 ∨ z = 4 ∨ z = 5) ∧ Hid (z ≤ kd c r) ∧ Hid (Rst g base l p T w wr)) (fun a _ => 5 - (intOf a).toNat)
  case atStart => exact ⟨0, rfl, .inl rfl, Lib.hid hkr.1, HR0⟩
  case round =>
    obtain ⟨z, rfl, hz, HZ, HRS⟩ := hrel
    obtain ⟨⟨v1, hR1, hT1⟩, hK1, hB1⟩ := HRS.out
    have hE1 := HE0.out.low hB1 _hb6
    have HR := Lib.hid hR1
    have HT := Lib.hid hT1
    have HK := Lib.hid hK1
    have HB := Lib.hid hB1
    have HE := Lib.hid hE1
    clear hR1 hT1 hK1 hB1 hE1 HRS HR0
    rcases hz with rfl | rfl | rfl | rfl | rfl | rfl
    · have hk : kd c r = 0 ∨ 1 ≤ kd c r := by have := HZ.out; omega
      rcases hk with hk | hk
      · go_wp2_with (first | (refine wpList_dst 9 rfl ?_; refine wpList_run 9 rfl rfl _ (exec_index 60 (.tmp 6) (.tmp 7) rfl _ _ (.func (.func 26) #[] #[]) rfl rfl (by kernel_rfl)) ?_; go_frame) | (refine (m0_yes g base p l r c v1 T _ HE.out HR.out HT.out _hb6 hg hp _hl _hn HD.out hk).mono ?_; rintro e w5 hst; rw [← HQ.out] at hst; obtain ⟨zz, rfl, hne, hfin⟩ := StP.out hst HK.out HB.out HQC.out; have HF := Lib.hid hfin; clear hst hfin hk))
        go_ret
        exact HF.out
      · have HK2 := Lib.hid hk
        have hk5 : kd c r ≠ 0 := by omega
        clear hk hkr
        go_wp2_with (first | (refine wpList_dst 9 rfl ?_; refine wpList_run 9 rfl rfl _ (exec_index 60 (.tmp 6) (.tmp 7) rfl _ _ (.func (.func 26) #[] #[]) rfl rfl (by kernel_rfl)) ?_; go_frame) | (refine (m0_no g base p l r c v1 T _ HE.out HR.out HT.out _hb6 hg hp _hl _hn HD.out hk5).mono ?_; rintro e w5 ⟨rfl, hst⟩; have HF := Lib.hid (hst.comp HK.out HB.out); clear hst hk5))
        go_roundw
        case rel => exact ⟨1, rfl, by omega, HK2, HF⟩
        case measure => simp [intOf]
    · have hk : kd c r = 1 ∨ 2 ≤ kd c r := by have := HZ.out; omega
      rcases hk with hk | hk
      · go_wp2_with (first | (refine wpList_dst 9 rfl ?_; refine wpList_run 9 rfl rfl _ (exec_index 60 (.tmp 6) (.tmp 7) rfl _ _ (.func (.func 27) #[] #[]) rfl rfl (by kernel_rfl)) ?_; go_frame) | (refine (m1_yes g base p l r c v1 T _ HE.out HR.out HT.out _hb6 hg hp _hl _hn HD.out hk).mono ?_; rintro e w5 hst; rw [← HQ.out] at hst; obtain ⟨zz, rfl, hne, hfin⟩ := StP.out hst HK.out HB.out HQC.out; have HF := Lib.hid hfin; clear hst hfin hk))
        go_ret
        exact HF.out
      · have HK2 := Lib.hid hk
        have hk5 : kd c r ≠ 1 := by omega
        clear hk hkr
        go_wp2_with (first | (refine wpList_dst 9 rfl ?_; refine wpList_run 9 rfl rfl _ (exec_index 60 (.tmp 6) (.tmp 7) rfl _ _ (.func (.func 27) #[] #[]) rfl rfl (by kernel_rfl)) ?_; go_frame) | (refine (m1_no g base p l r c v1 T _ HE.out HR.out HT.out _hb6 hg hp _hl _hn HD.out hk5).mono ?_; rintro e w5 ⟨rfl, hst⟩; have HF := Lib.hid (hst.comp HK.out HB.out); clear hst hk5))
        go_roundw
        case rel => exact ⟨2, rfl, by omega, HK2, HF⟩
        case measure => simp [intOf]
    · have hk : kd c r = 2 ∨ 3 ≤ kd c r := by have := HZ.out; omega
      rcases hk with hk | hk
      · go_wp2_with (first | (refine wpList_dst 9 rfl ?_; refine wpList_run 9 rfl rfl _ (exec_index 60 (.tmp 6) (.tmp 7) rfl _ _ (.func (.func 28) #[] #[]) rfl rfl (by kernel_rfl)) ?_; go_frame) | (refine (m2_yes g base p l r c v1 T _ HE.out HR.out HT.out _hb6 hg hp _hl _hn HD.out hk).mono ?_; rintro e w5 hst; rw [← HQ.out] at hst; obtain ⟨zz, rfl, hne, hfin⟩ := StP.out hst HK.out HB.out HQC.out; have HF := Lib.hid hfin; clear hst hfin hk))
        go_ret
        exact HF.out
      · have HK2 := Lib.hid hk
        have hk5 : kd c r ≠ 2 := by omega
        clear hk hkr
        go_wp2_with (first | (refine wpList_dst 9 rfl ?_; refine wpList_run 9 rfl rfl _ (exec_index 60 (.tmp 6) (.tmp 7) rfl _ _ (.func (.func 28) #[] #[]) rfl rfl (by kernel_rfl)) ?_; go_frame) | (refine (m2_no g base p l r c v1 T _ HE.out HR.out HT.out _hb6 hg hp _hl _hn HD.out hk5).mono ?_; rintro e w5 ⟨rfl, hst⟩; have HF := Lib.hid (hst.comp HK.out HB.out); clear hst hk5))
        go_roundw
        case rel => exact ⟨3, rfl, by omega, HK2, HF⟩
        case measure => simp [intOf]
    · have hk : kd c r = 3 ∨ 4 ≤ kd c r := by have := HZ.out; omega
      rcases hk with hk | hk
      · go_wp2_with (first | (refine wpList_dst 9 rfl ?_; refine wpList_run 9 rfl rfl _ (exec_index 60 (.tmp 6) (.tmp 7) rfl _ _ (.func (.func 29) #[] #[]) rfl rfl (by kernel_rfl)) ?_; go_frame) | (refine (m3_yes g base p l r c v1 T _ HE.out HR.out HT.out _hb6 hg hp _hl _hn HD.out hk).mono ?_; rintro e w5 hst; rw [← HQ.out] at hst; obtain ⟨zz, rfl, hne, hfin⟩ := StP.out hst HK.out HB.out HQC.out; have HF := Lib.hid hfin; clear hst hfin hk))
        go_ret
        exact HF.out
      · have HK2 := Lib.hid hk
        have hk5 : kd c r ≠ 3 := by omega
        clear hk hkr
        go_wp2_with (first | (refine wpList_dst 9 rfl ?_; refine wpList_run 9 rfl rfl _ (exec_index 60 (.tmp 6) (.tmp 7) rfl _ _ (.func (.func 29) #[] #[]) rfl rfl (by kernel_rfl)) ?_; go_frame) | (refine (m3_no g base p l r c v1 T _ HE.out HR.out HT.out _hb6 hg hp _hl _hn HD.out hk5).mono ?_; rintro e w5 ⟨rfl, hst⟩; have HF := Lib.hid (hst.comp HK.out HB.out); clear hst hk5))
        go_roundw
        case rel => exact ⟨4, rfl, by omega, HK2, HF⟩
        case measure => simp [intOf]
    · have hk : kd c r = 4 ∨ 5 ≤ kd c r := by have := HZ.out; omega
      rcases hk with hk | hk
      · go_wp2_with (first | (refine wpList_dst 9 rfl ?_; refine wpList_run 9 rfl rfl _ (exec_index 60 (.tmp 6) (.tmp 7) rfl _ _ (.func (.func 30) #[] #[]) rfl rfl (by kernel_rfl)) ?_; go_frame) | (refine (m4_yes g base p l r c v1 T _ HE.out HR.out HT.out _hb6 hg hp _hl _hn HD.out hk).mono ?_; rintro e w5 hst; rw [← HQ.out] at hst; obtain ⟨zz, rfl, hne, hfin⟩ := StP.out hst HK.out HB.out HQC.out; have HF := Lib.hid hfin; clear hst hfin hk))
        go_ret
        exact HF.out
      · have HK2 := Lib.hid hk
        have hk5 : kd c r = 5 := by omega
        clear hk hkr
        go_wp2_with (first | (refine wpList_dst 9 rfl ?_; refine wpList_run 9 rfl rfl _ (exec_index 60 (.tmp 6) (.tmp 7) rfl _ _ (.func (.func 30) #[] #[]) rfl rfl (by kernel_rfl)) ?_; go_frame) | (refine (m4_no g base p l r c v1 T _ HE.out HR.out HT.out _hb6 hg hp _hl _hn HD.out hk5).mono ?_; rintro e w5 ⟨rfl, hst⟩; have HF := Lib.hid (hst.comp HK.out HB.out); clear hst hk5))
        go_roundw
        case rel => exact ⟨5, rfl, by omega, HK2, HF⟩
        case measure => simp [intOf]
    · have hk : kd c r = 5 := by have := HZ.out; omega
      have HS := Lib.hid (show q = .bad 26 by rw [HQ.out]; exact m5_step hk)
      clear hk hkr
      go_wp2
      go_ret
      rw [HS.out]
      exact ⟨rfl, ⟨⟨v1, HR.out, HT.out⟩, HK.out, HB.out⟩⟩
end Go.Proofs.YtggjgikpiljoiaaDoor
