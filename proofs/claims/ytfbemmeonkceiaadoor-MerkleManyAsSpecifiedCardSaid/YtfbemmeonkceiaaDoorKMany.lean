/- The reference's Ascend. -/
import Derived.Test.YtfbemmeonkceiaaDoorKRr4
import Derived.Test.YtfbemmeonkceiaaDoorKWp
import Derived.Test.YtfbemmeonkceiaaDoorKWm
namespace Go.Proofs.YtfbemmeonkceiaaDoor
open Go.RowKit Hm Wm

def AscR (ps : List Int) (n : Int) (k : Nat) (z : Int) : Prop := ascF n (-1) ps = ascF n z (ps.drop k)
def PrevR (ps : List Int) (k : Nat) (z : Int) : Prop := (k = 0 ∧ z = -1) ∨ (∃ j, k = j + 1 ∧ 0 ≤ z ∧ ps[j]? = some z)
set_option maxRecDepth 100000 in
set_option maxHeartbeats 4000000 in
theorem rasc_any (A : Option Addr) (c : Nat) (ps : List Int) (n : Int) (w : World) (hr : RdI w A ps) (hn : ps.length ≤ 2 ^ 41) :
    Calls Tryd.prog 45 #[.slice A ps.length c, .int .i64 n] w fun e w' => e = .returned (.bool (ascF n (-1) ps)) ∧ ∃ q, w' = w.drewN q := by
  have HR := Lib.hid hr
  clear hr
  go_enter Tryd.func45, Tryd.ntmps45
  go_wp2
  go_loopw [5] (fun i wr => ∃ (k : Nat) (z : Int) (q : Nat), i = .int .i64 k ∧ k ≤ ps.length ∧ wr = w.drewN q ∧ Hid (AscR ps n k z) ∧ Hid (PrevR ps k z)) (fun i _ => ps.length - (intOf i).toNat)
  case atStart => exact ⟨0, -1, 0, rfl, Nat.zero_le _, rfl, rfl, .inl ⟨rfl, rfl⟩⟩
  case round =>
    obtain ⟨k, z, q, rfl, hk, rfl, HA, HP⟩ := hrel
    by_cases hlt : k < ps.length
    · obtain ⟨b, off, hA, hcell0⟩ := HR.out.at_ (k := k) (u := .int .i64 ps[k]) (by simp [hlt])
      have hd : ps.drop k = ps[k] :: ps.drop (k + 1) := List.drop_eq_getElem_cons hlt
      have hg : ps[k]? = some ps[k] := List.getElem?_eq_getElem hlt
      obtain ⟨p, hp⟩ : ∃ p, ps[k] = p := ⟨_, rfl⟩
      rw [hp] at hcell0 hd hg
      have hcell : (w.drewN q).cell? ⟨b, off + k, none⟩ = some (.int .i64 p) := hcell0
      have hz : ascF n (-1) ps = ascF n z (ps.drop k) := HA.out
      rw [hd, ascF_cons] at hz
      rcases HP.out with ⟨k0, z0⟩ | ⟨j, kj, z0, hj⟩
      · have dk : decide ((0 : Int) < (k : Int)) = false := decide_eq_false (by omega)
        have dkn : decide (0 < k) = false := decide_eq_false (by omega)
        by_cases h0 : p < 0
        · have d0 : decide (p < 0) = true := decide_eq_true h0
          have hf : ascF n (-1) ps = false := by rw [hz, if_pos (.inl (by omega))]
          have HF := Lib.hid hf
          clear hz hf hd hg hp hcell HA HP k0 z0
          subst hA
          go_wp2
          go_quiet (fail)
          go_wp2
          go_ret
          exact ⟨by rw [HF.out]; rfl, _, World.drewN_drewN _ _ _⟩
        have d0 : decide (p < 0) = false := decide_eq_false h0
        by_cases h2 : n ≤ p
        · have d2 : decide (n ≤ p) = true := decide_eq_true h2
          have hf : ascF n (-1) ps = false := by rw [hz, if_pos (.inr h2)]
          have HF := Lib.hid hf
          clear hz hf hd hg hp hcell HA HP k0 z0
          subst hA
          go_wp2
          go_quiet (fail)
          go_wp2
          go_ret
          exact ⟨by rw [HF.out]; rfl, _, World.drewN_drewN _ _ _⟩
        have d2 : decide (n ≤ p) = false := decide_eq_false h2
        rw [if_neg (by omega)] at hz
        have HF : Hid (AscR ps n (k + 1) p) := hz
        have HP2 : Hid (PrevR ps (k + 1) p) := .inr ⟨k, rfl, by omega, hg⟩
        clear hz hd hg hp hcell HA HP k0 z0
        subst hA
        go_wp2
        go_quiet (fail)
        go_wp2
        go_round
        case rel => exact ⟨k + 1, p, _, by go_num, by omega, rfl, HF, HP2⟩
        case measure => simp [intOf]; omega
      · obtain ⟨b2, off2, hA2, hcell3⟩ := HR.out.at_ (k := j) (u := .int .i64 z) (by rw [List.getElem?_map, hj]; rfl)
        rw [hA] at hA2
        simp only [Option.some.injEq, Addr.mk.injEq] at hA2
        obtain ⟨rfl, rfl, -⟩ := hA2
        have hcell2 : (w.drewN q).cell? ⟨b, off + j, none⟩ = some (.int .i64 z) := hcell3
        clear hcell2
        have dk : decide ((0 : Int) < (k : Int)) = true := decide_eq_true (by omega)
        have dkn : decide (0 < k) = true := decide_eq_true (by omega)
        have hkj : (k : Int) - 1 = (j : Int) := by omega
        have hjl : j < ps.length := by omega
        by_cases h0 : p < 0
        · have d0 : decide (p < 0) = true := decide_eq_true h0
          have hf : ascF n (-1) ps = false := by rw [hz, if_pos (.inl (by omega))]
          have HF := Lib.hid hf
          clear hz hf hd hg hp hcell HA HP kj z0 hj
          subst hA
          go_wp2
          go_quiet (fail)
          go_wp2
          go_ret
          exact ⟨by rw [HF.out]; rfl, _, World.drewN_drewN _ _ _⟩
        have d0 : decide (p < 0) = false := decide_eq_false h0
        by_cases h2 : n ≤ p
        · have d2 : decide (n ≤ p) = true := decide_eq_true h2
          have hf : ascF n (-1) ps = false := by rw [hz, if_pos (.inr h2)]
          have HF := Lib.hid hf
          clear hz hf hd hg hp hcell HA HP kj z0 hj
          subst hA
          go_wp2
          go_quiet (fail)
          go_wp2
          go_ret
          exact ⟨by rw [HF.out]; rfl, _, World.drewN_drewN _ _ _⟩
        have d2 : decide (n ≤ p) = false := decide_eq_false h2
        by_cases h1 : p ≤ z
        · have d1 : decide (p ≤ z) = true := decide_eq_true h1
          have hf : ascF n (-1) ps = false := by rw [hz, if_pos (.inl h1)]
          have HF := Lib.hid hf
          clear hz hf hd hg hp hcell HA HP kj z0 hj
          subst hA
          go_wp2
          go_quiet (fail)
          go_wp2
          go_ret
          exact ⟨by rw [HF.out]; rfl, _, World.drewN_drewN _ _ _⟩
        have d1 : decide (p ≤ z) = false := decide_eq_false h1
        rw [if_neg (by omega)] at hz
        have HF : Hid (AscR ps n (k + 1) p) := hz
        have HP2 : Hid (PrevR ps (k + 1) p) := .inr ⟨k, rfl, by omega, hg⟩
        clear hz hd hg hp hcell HA HP kj z0 hj
        subst hA
        go_wp2
        go_quiet (fail)
        go_wp2
        go_round
        case rel => exact ⟨k + 1, p, _, by go_num, by omega, rfl, HF, HP2⟩
        case measure => simp [intOf]; omega
    · obtain rfl : k = ps.length := by omega
      have hf : ascF n (-1) ps = ascF n z (ps.drop ps.length) := HA.out
      rw [List.drop_length] at hf
      have HF : Hid (ascF n (-1) ps = true) := hf
      clear hf HA HP
      go_wp2
      go_ret
      exact ⟨by rw [HF.out]; rfl, q, rfl⟩
end Go.Proofs.YtfbemmeonkceiaaDoor

/- The reference's within. -/
namespace Go.Proofs.YtfbemmeonkceiaaDoor
open Go.RowKit Hm Wm

def winF (lo hi : Int) (ps : List Int) : List Int := ps.filter (fun p => decide (lo ≤ p) && decide (p < hi))
theorem winF_yes {lo hi p : Int} (ps : List Int) (h1 : lo ≤ p) (h2 : p < hi) : winF lo hi (ps ++ [p]) = winF lo hi ps ++ [p] := by
  unfold winF; rw [List.filter_append, List.filter_cons_of_pos (by simp [h1, h2])]; rfl
theorem winF_no {lo hi p : Int} (ps : List Int) (h : ¬ (lo ≤ p ∧ p < hi)) : winF lo hi (ps ++ [p]) = winF lo hi ps := by
  unfold winF; rw [List.filter_append, List.filter_cons_of_neg (by simpa using h)]; simp
theorem winF_len (lo hi : Int) (ps : List Int) : (winF lo hi ps).length ≤ ps.length := List.length_filter_le _ _
def WinR (w : World) (ps : List Int) (lo hi : Int) (pv iv : Value) (wr : World) : Prop := ∃ k : Nat, iv = .int .i64 k ∧ k ≤ ps.length ∧ Hid (Below w.heap.size w wr) ∧ Hid (wr.ownsRow w.heap.size 3 1 pv (winF lo hi (ps.take k)).length ((winF lo hi (ps.take k)).map (Value.int .i64)))
set_option maxRecDepth 100000 in
set_option maxHeartbeats 4000000 in
theorem rwithin_row (A : Option Addr) (c : Nat) (ps : List Int) (lo hi : Int) (w : World) (hr : RdI w A ps) (hn : ps.length ≤ 1000) :
    Calls Tryd.prog 71 #[.slice A ps.length c, .int .i64 lo, .int .i64 hi] w fun e w' => ∃ v, e = .returned v ∧ w'.ownsRow w.heap.size 3 1 v (winF lo hi ps).length ((winF lo hi ps).map (Value.int .i64)) ∧ Below w.heap.size w w' := by
  have HR := Lib.hid hr
  clear hr
  go_enter Tryd.func71, Tryd.ntmps71
  go_wp2
  go_loopw [7, 8] (WinR w ps lo hi) (fun _ iv _ => ps.length - (intOf iv).toNat)
  case atStart => exact ⟨0, rfl, Nat.zero_le _, Below.refl _ _, World.ownsRow_nil _ _ _ _⟩
  case round =>
    obtain ⟨k, rfl, hk, HW, HO⟩ := hrel
    by_cases hlt : k < ps.length
    · obtain ⟨b, off, hA, hcell⟩ := (RdI.below HR.out HW.out).at_ (k := k) (u := .int .i64 ps[k]) (by simp [hlt])
      have hst : ps.take (k + 1) = ps.take k ++ [ps[k]] := (List.take_append_getElem hlt).symm
      obtain ⟨p, hp⟩ : ∃ p, ps[k] = p := ⟨_, rfl⟩
      rw [hp] at hcell hst
      clear hp
      subst hA
      have dl0 : decide ((k : Int) < (ps.length : Int)) = true := decide_eq_true (by omega)
      have hwl := winF_len lo hi (ps.take k)
      rw [List.length_take] at hwl
      have HL := Lib.hid (show (winF lo hi (ps.take k)).length ≤ 1000 by omega)
      clear hwl
      by_cases h1 : lo ≤ p
      · have d1 : decide (lo ≤ p) = true := decide_eq_true h1
        by_cases h2 : p < hi
        · have d2 : decide (p < hi) = true := decide_eq_true h2
          have hst2 : winF lo hi (ps.take (k + 1)) = winF lo hi (ps.take k) ++ [p] := by rw [hst, winF_yes _ h1 h2]
          obtain ⟨T, hT⟩ : ∃ T, winF lo hi (ps.take k) = T := ⟨_, rfl⟩
          rw [hT] at HO HL hst2
          have HST := Lib.hid hst2
          clear hst hst2 hT h1 h2
          go_wp2_with (refine wpList_pushI rfl rfl 34 35 rfl rfl (.tmp 33) rfl 29 rfl w.heap.size _ T p rfl rfl rfl (by kernel_rfl) HO.out HW.out.size HL.out ?_; intro vI wI hoI hbI hkI; have HPI := Lib.hid hoI; have HWI := Lib.hid (HW.out.trans hbI); clear hoI hbI hkI)
          go_roundw
          case rel => exact ⟨k + 1, by go_num, by omega, HWI, Lib.hid (by rw [HST.out]; exact HPI.out)⟩
          case measure => simp [intOf]; omega
        · have d2 : decide (p < hi) = false := decide_eq_false h2
          have HST := Lib.hid (show winF lo hi (ps.take (k + 1)) = winF lo hi (ps.take k) by rw [hst, winF_no _ (by omega)])
          clear hst h1 h2
          go_wp2
          go_roundw
          case rel => exact ⟨k + 1, by go_num, by omega, HW, Lib.hid (by rw [HST.out]; exact HO.out)⟩
          case measure => simp [intOf]; omega
      · have d1 : decide (lo ≤ p) = false := decide_eq_false h1
        have HST := Lib.hid (show winF lo hi (ps.take (k + 1)) = winF lo hi (ps.take k) by rw [hst, winF_no _ (by omega)])
        clear hst h1
        go_wp2
        go_roundw
        case rel => exact ⟨k + 1, by go_num, by omega, HW, Lib.hid (by rw [HST.out]; exact HO.out)⟩
        case measure => simp [intOf]; omega
    · obtain rfl : k = ps.length := by omega
      have dl0 : decide ((ps.length : Int) < (ps.length : Int)) = false := decide_eq_false (by omega)
      have hO := HO.out
      rw [List.take_length] at hO
      have HO2 := Lib.hid hO
      clear hO HO
      go_wp2
      go_ret
      exact ⟨_, rfl, HO2.out, HW.out⟩
end Go.Proofs.YtfbemmeonkceiaaDoor

/- Plain mathematics of the places in a window: the reference's Many and walk against manyD and wlkD. -/
namespace Go.Proofs.YtfbemmeonkceiaaDoor
open Go.RowKit Hm Wm

theorem winF_all {lo hi : Int} {ps : List Int} (h : ∀ p ∈ ps, lo ≤ p ∧ p < hi) : winF lo hi ps = ps :=
  List.filter_eq_self.2 (by intro p hp; have := h p hp; simp [this.1, this.2])
theorem winF_mem {lo hi p : Int} {ps : List Int} (h : p ∈ winF lo hi ps) : lo ≤ p ∧ p < hi := by
  have := (List.mem_filter.1 h).2; simpa using this
theorem winF_lo (fr : Int) (h n : Nat) (ps : List Int) : winF fr (fr + (h : Int)) (winF fr (fr + (n : Int)) ps) = (winF fr (fr + (n : Int)) ps).filter (· < fr + (h : Int)) := by
  conv => lhs; unfold winF
  refine List.filter_congr ?_
  intro p hp
  have := winF_mem (show p ∈ winF fr (fr + (n : Int)) ps from hp)
  simp [this.1]
theorem winF_hi (fr : Int) (h n : Nat) (hh : h ≤ n) (ps : List Int) : winF (fr + (h : Int)) (fr + (h : Int) + ((n - h : Nat) : Int)) (winF fr (fr + (n : Int)) ps) = (winF fr (fr + (n : Int)) ps).filter (fun p => ¬ p < fr + (h : Int)) := by
  conv => lhs; unfold winF
  refine List.filter_congr ?_
  intro p hp
  have := winF_mem (show p ∈ winF fr (fr + (n : Int)) ps from hp)
  have e : (fr + (h : Int) + ((n - h : Nat) : Int)) = fr + (n : Int) := by omega
  rw [e]
  simp [this.2]
theorem filter_two (p : Int → Bool) : ∀ l : List Int, (l.filter p).length + (l.filter (fun x => !p x)).length = l.length := by
  intro l
  induction l with
  | nil => rfl
  | cons a r ih => cases h : p a <;> simp [h] <;> omega
theorem filter_cut (x : Int) (l : List Int) : (l.filter (· < x)).length + (l.filter (fun p => ¬ p < x)).length = l.length := by
  simp only [decide_not]
  exact filter_two (fun p => decide (p < x)) l
theorem pair_filter {ps : List Int} (h : ps.Pairwise (· < ·)) (p : Int → Bool) : (ps.filter p).Pairwise (· < ·) := h.sublist List.filter_sublist

theorem wlkD_take (path : List Dg) (k : Nat) : ∀ (n : Nat) (fr : Int) (ps : List Int) (fs : List Dg) (a : Nat), n ≤ k → wlkD fr n ps (fs.take ps.length) a path = wlkD fr n ps fs a path := by
  induction k with
  | zero => intro n fr ps fs a h; obtain rfl : n = 0 := by omega
            rw [wlkD_zero, wlkD_zero]
  | succ k ih =>
    intro n fr ps fs a h
    by_cases h0 : n = 0
    · subst h0; rw [wlkD_zero, wlkD_zero]
    · by_cases hp : ps = []
      · subst hp; rw [wlkD_none fr _ a path (by omega), wlkD_none fr _ a path (by omega)]
      · by_cases h2 : 2 ≤ n
        · have h3 := hf_lt h2
          have h4 := hf_pos n
          have hc := filter_cut (fr + hf n) ps
          rw [wlkD_two fr _ a path h2 hp, wlkD_two fr _ a path h2 hp]
          have e1 : (fs.take ps.length).take (ps.filter (· < fr + hf n)).length = fs.take (ps.filter (· < fr + hf n)).length := by
            rw [List.take_take]; congr 1; omega
          have e2 : (fs.take ps.length).drop (ps.filter (· < fr + hf n)).length = (fs.drop (ps.filter (· < fr + hf n)).length).take (ps.filter (fun p => ¬ p < fr + hf n)).length := by
            rw [List.drop_take]; congr 1; omega
          rw [e1, e2]
          rw [ih (n - hf n) (fr + hf n) (ps.filter (fun p => ¬ p < fr + hf n)) (fs.drop (ps.filter (· < fr + hf n)).length) _ (by omega)]
        · obtain rfl : n = 1 := by omega
          rw [wlkD_one fr _ a path hp, wlkD_one fr _ a path hp]
          congr 1
          rcases ps with _ | ⟨p, r⟩
          · exact absurd rfl hp
          · cases fs <;> simp
theorem nx_drop (path : List Dg) (a b : Nat) : nx (path.drop a) b = nx path (a + b) := by
  unfold nx; simp [List.getD_eq_getElem?_getD, List.getElem?_drop]
theorem wlkD_shift (path : List Dg) (a : Nat) (k : Nat) : ∀ (n : Nat) (fr : Int) (ps : List Int) (fs : List Dg) (b : Nat), n ≤ k → wlkD fr n ps fs (a + b) path = ((wlkD fr n ps fs b (path.drop a)).1, a + (wlkD fr n ps fs b (path.drop a)).2) := by
  induction k with
  | zero => intro n fr ps fs b h; obtain rfl : n = 0 := by omega
            rw [wlkD_zero, wlkD_zero]
  | succ k ih =>
    intro n fr ps fs b h
    by_cases h0 : n = 0
    · subst h0; rw [wlkD_zero, wlkD_zero]
    · by_cases hp : ps = []
      · subst hp; rw [wlkD_none fr _ _ path (by omega), wlkD_none fr _ _ _ (by omega), nx_drop]; rfl
      · by_cases h2 : 2 ≤ n
        · have h3 := hf_lt h2
          have h4 := hf_pos n
          rw [wlkD_two fr _ _ path h2 hp, wlkD_two fr _ _ _ h2 hp]
          rw [ih (hf n) fr _ _ b (by omega)]
          simp only
          rw [ih (n - hf n) (fr + hf n) _ _ _ (by omega)]
        · obtain rfl : n = 1 := by omega
          rw [wlkD_one fr _ _ path hp, wlkD_one fr _ _ _ hp]
/-- What the reference's walk finds for the left part and then for the right one. -/
theorem wlkD_halves (fr : Int) (n : Nat) (ps : List Int) (fs : List Dg) (path : List Dg) (h2 : 2 ≤ n) (hp : ps ≠ []) (d1 d2 : Dg) (a1 a2 : Nat) (f1 : Nat)
    (hf1 : (ps.filter (· < fr + hf n)).length = f1) (h1 : wlkD fr (hf n) (ps.filter (· < fr + hf n)) fs 0 path = (d1, a1))
    (hr : wlkD (fr + hf n) (n - hf n) (ps.filter (fun p => ¬ p < fr + hf n)) (fs.drop f1) 0 (path.drop a1) = (d2, a2)) :
    wlkD fr n ps fs 0 path = (nodeD d1 d2, a1 + a2) := by
  rw [wlkD_two fr fs 0 path h2 hp, wlkD_take path (hf n) (hf n) fr _ fs 0 (Nat.le_refl _), h1, hf1]
  simp only
  have := wlkD_shift path a1 (n - hf n) (n - hf n) (fr + hf n) (ps.filter (fun p => ¬ p < fr + hf n)) (fs.drop f1) 0 (Nat.le_refl _)
  rw [Nat.add_zero, hr] at this
  rw [this]
theorem wlkD_more (fr : Int) (n : Nat) (ps : List Int) (fs : List Dg) (path : List Dg) (h2 : 2 ≤ n) (hp : ps ≠ []) (d1 : Dg) (a1 : Nat)
    (h1 : wlkD fr (hf n) (ps.filter (· < fr + hf n)) fs 0 path = (d1, a1)) : a1 ≤ (wlkD fr n ps fs 0 path).2 := by
  have e := wlkD_take path (hf n) (hf n) fr (ps.filter (· < fr + hf n)) fs 0 (Nat.le_refl _)
  rw [wlkD_two fr fs 0 path h2 hp, e, h1]
  exact (wlkD_asks path (n - hf n) _ _ _ _ _ (Nat.le_refl _)).1
theorem asc_one {ps : List Int} {fr : Int} (h : ps.Pairwise (· < ·)) (hw : ∀ p ∈ ps, fr ≤ p ∧ p < fr + 1) : ps.length ≤ 1 := by
  rcases ps with _ | ⟨p, _ | ⟨q, r⟩⟩
  · simp
  · simp
  · exfalso
    have h1 := hw p (by simp)
    have h2 := hw q (by simp)
    have h3 : p < q := by
      rw [List.pairwise_cons] at h
      exact h.1 q (by simp)
    omega
end Go.Proofs.YtfbemmeonkceiaaDoor

/- The reference's many. -/
namespace Go.Proofs.YtfbemmeonkceiaaDoor
open Go.RowKit Hm Wm

theorem own_keep {w w' : World} {base : Nat} {e : TypeId} {size : Nat} {v x : Value} {n : Nat} {xs : List Value} (hk : ∀ k t cs, v.ownBlock ≠ some k → Blk w k t cs → Blk w' k t cs) (hne : ∀ g, x.ownBlock = some g → v.ownBlock ≠ some g) (h : w.ownsRow base e size x n xs) : w'.ownsRow base e size x n xs := by
  refine ⟨h.1, ?_⟩
  rcases h.2 with hn | ⟨g, cap, cur, rfl, hbg, hg, rest⟩
  · exact .inl hn
  · refine .inr ⟨g, cap, cur, rfl, hbg, ?_, rest⟩
    have := hk g e cur.toList (hne g rfl) (by unfold Blk; rw [Array.toArray_toList]; exact hg)
    unfold Blk at this
    rw [Array.toArray_toList] at this
    exact this
theorem row_apart {w W : World} {b0 : Nat} {e e' : TypeId} {s s' : Nat} {v x : Value} {n m : Nat} {xs ys : List Value} (h0 : w.ownsRow b0 e s v n xs) (h1 : W.ownsRow w.heap.size e' s' x m ys) : ∀ g, v.ownBlock = some g → x.ownBlock ≠ some g := by
  intro g hv hx
  have := (World.ownsRow.lt h0 g hv).2
  have := (World.ownsRow.lt h1 g hx).1
  omega
theorem row_rd {w : World} {base : Nat} {A : Option Addr} {c : Nat} {l : List Dg} (h : w.ownsRow base 31 16 (.slice A l.length c) l.length (dl l)) : RdD w A l := by
  obtain ⟨A', c', e, hr, -⟩ := newD_of_row h
  simp only [Value.slice.injEq] at e
  rw [e.1]
  exact hr
theorem own_oneD (w : World) (d : Dg) : (w.alloc (.cells (dc d).toArray 31)).ownsRow w.heap.size 31 16 (.slice (some ⟨w.heap.size, 0, none⟩) 1 1) [d].length (dl [d]) := by
  rw [dl_one]
  refine ⟨by rw [dc_len]; rfl, .inr ⟨w.heap.size, 1, (dc d).toArray, rfl, Nat.le_refl _, heap_alloc_new w _, Nat.le_refl _, by decide, by simp [dc_len], ?_⟩⟩
  exact List.take_of_length_le (by rw [dc_len]; exact Nat.le_refl _)
theorem wpList_rowD1 {w : World} {ops : Array Oper} {rest : List Oper} {o : Oper} {a : Act} {Q : Exit → Act → World → Prop} (hw : Region.wanted o (yielded ops a.tmps) = true) (x : Operand) (ho : o.op = .buildSlice 22 1 #[(0, x)]) (d : Dg) (hx : a.eval x = dv d)
    (h : ∀ v w', w'.ownsRow w.heap.size 31 16 v [d].length (dl [d]) → Below w.heap.size w w' → wpList Tryd.prog ops Q rest (a.put o.dst v) w') : wpList Tryd.prog ops Q (o :: rest) a w := by
  refine wpList_want hw fun K hK => ?_
  unfold Oper.wp
  rw [exec_buildD1 x ho d hx]
  exact hK _ _ (h _ _ (own_oneD w d) ((Below.refl _ _).alloc (Nat.le_refl _) _))

set_option maxRecDepth 1000000 in
set_option maxHeartbeats 1000000 in
theorem rmany_none (l : List Dg) (fr : Int) (ps : List Int) (A : Option Addr) (c : Nat) (A2 : Option Addr) (c2 : Nat) (w : World) (h1 : 1 ≤ l.length) (hc : l.length ≤ c) (hn : l.length ≤ 1000) (hp : ps.length ≤ 1000) (hf0 : 0 ≤ fr) (hf1 : fr ≤ 1000000) (hg : RTab w) (hr : RdD w A l) (hi : RdI w A2 ps) (hw : winF fr (fr + (l.length : Int)) ps = []) :
    Calls Tryd.prog 46 #[.slice A l.length c, .int .i64 fr, .slice A2 ps.length c2] w fun e w' => ∃ v, e = .returned v ∧ w'.ownsRow w.heap.size 31 16 v (manyD l fr []).length (dl (manyD l fr [])) ∧ Below w.heap.size w w' := by
  have HX := Lib.hid (manyD_none fr h1)
  have HWI := Lib.hid (rwithin_row A2 c2 ps fr (fr + (l.length : Int)) w hi hp)
  rw [hw] at HWI
  have HC := Lib.hid (fun w' (hg' : RTab w') (hr' : RdD w' A l) => rroot_any l.length l A c w' (Nat.le_refl _) hc (by omega) hg' hr')
  have HG := Lib.hid hg
  have HR := Lib.hid hr
  have HW := Lib.hid (show IntKind.i64.wrap (fr + (l.length : Int)) = fr + (l.length : Int) from IntWalk.i64_in _ (by omega))
  clear hg hr hi hw
  go_enter Tryd.func46, Tryd.ntmps46
  go_wp2_with fail
  try rw [HW.out]
  refine HWI.out.mono ?_
  rintro e w1 ⟨v1, rfl, hO, hb1⟩
  obtain ⟨A1, c1, rfl, -, -⟩ := newI_of_row hO
  have HB1 := Lib.hid hb1
  have HG1 := Lib.hid (HG.out.next hb1)
  have HR1 := Lib.hid (HR.out.below hb1)
  clear hO hb1 HWI
  go_wp2_with fail
  refine (HC.out _ HG1.out HR1.out).mono ?_
  rintro e w2 ⟨rfl, hb2⟩
  obtain ⟨d, hd⟩ : ∃ d, rootD l = d := ⟨_, rfl⟩
  rw [hd]
  have HD := Lib.hid hd
  have HB2 := Lib.hid (HB1.out.trans (hb2.mono HB1.out.size))
  clear hb2 hd HC
  go_wp2_with (refine wpList_rowD1 rfl _ rfl d rfl ?_; intro v4 w4 h4 hb4; have HN4 := Lib.hid h4; have HB4 := Lib.hid (HB2.out.trans (hb4.mono HB2.out.size)); clear h4 hb4)
  go_ret
  exact ⟨v4, rfl, by rw [HX.out, HD.out]; exact own_lower HN4.out HB2.out.size, HB4.out⟩

set_option maxRecDepth 1000000 in
set_option maxHeartbeats 1000000 in
theorem rmany_one (l : List Dg) (fr : Int) (ps : List Int) (A : Option Addr) (c : Nat) (A2 : Option Addr) (c2 : Nat) (w : World) (h1 : l.length = 1) (hp : ps.length ≤ 1000) (hf0 : 0 ≤ fr) (hf1 : fr ≤ 1000000) (hi : RdI w A2 ps) (hw : winF fr (fr + (l.length : Int)) ps ≠ []) :
    Calls Tryd.prog 46 #[.slice A l.length c, .int .i64 fr, .slice A2 ps.length c2] w fun e w' => ∃ v, e = .returned v ∧ w'.ownsRow w.heap.size 31 16 v ([] : List Dg).length (dl []) ∧ Below w.heap.size w w' := by
  have HWI := Lib.hid (rwithin_row A2 c2 ps fr (fr + (l.length : Int)) w hi hp)
  have HW := Lib.hid (show IntKind.i64.wrap (fr + (l.length : Int)) = fr + (l.length : Int) from IntWalk.i64_in _ (by omega))
  obtain ⟨X, hX⟩ : ∃ X, winF fr (fr + (l.length : Int)) ps = X := ⟨_, rfl⟩
  rw [hX] at HWI hw
  have hx := List.length_pos_iff.2 hw
  have dx : ((X.length : Int) == 0) = false := by rw [beq_eq_false_iff_ne]; omega
  have dx' : (X.length == 0) = false := by rw [beq_eq_false_iff_ne]; omega
  have dl1 : ((l.length : Int) == 1) = true := by rw [h1]; rfl
  have hl : l.length ≤ 1000 := by omega
  clear hi hw hX hx h1
  go_enter Tryd.func46, Tryd.ntmps46
  go_wp2_with fail
  try rw [HW.out]
  refine HWI.out.mono ?_
  rintro e w1 ⟨v1, rfl, hO, hb1⟩
  obtain ⟨A1, c1, rfl, -, -⟩ := newI_of_row hO
  have HB1 := Lib.hid hb1
  clear hO hb1 HWI
  go_wp2
  go_ret
  exact ⟨_, rfl, World.ownsRow_nil _ _ _ _, HB1.out⟩

set_option maxRecDepth 1000000 in
set_option maxHeartbeats 1000000 in
theorem rmany_any (k : Nat) : ∀ (l : List Dg) (fr : Int) (ps : List Int) (A : Option Addr) (c : Nat) (A2 : Option Addr) (c2 : Nat) (w : World), l.length ≤ k → 1 ≤ l.length → l.length ≤ c → l.length ≤ 1000 → ps.length ≤ 1000 → 0 ≤ fr → fr + l.length ≤ 1000000 → RTab w → RdD w A l → RdI w A2 ps →
    Calls Tryd.prog 46 #[.slice A l.length c, .int .i64 fr, .slice A2 ps.length c2] w fun e w' => ∃ v, e = .returned v ∧ w'.ownsRow w.heap.size 31 16 v (manyD l fr (winF fr (fr + (l.length : Int)) ps)).length (dl (manyD l fr (winF fr (fr + (l.length : Int)) ps))) ∧ Below w.heap.size w w' := by
  induction k with
  | zero => intro l fr ps A c A2 c2 w hk h1; omega
  | succ k ih =>
  intro l fr ps A c A2 c2 w hk h1 hc hn hp hf0 hf1 hg hr hi
  by_cases hw : winF fr (fr + (l.length : Int)) ps = []
  · rw [hw]; exact rmany_none l fr ps A c A2 c2 w h1 hc hn hp hf0 (by omega) hg hr hi hw
  · by_cases hl1 : l.length = 1
    · rw [manyD_one fr hl1 hw]; exact rmany_one l fr ps A c A2 c2 w hl1 hp hf0 (by omega) hi hw
    · have h2 : 2 ≤ l.length := by omega
      have hlt := hf_lt h2
      have hpz := hf_pos l.length
      have e1 : (l.take (hf l.length)).length = hf l.length := by rw [List.length_take]; omega
      have e2 : (l.drop (hf l.length)).length = l.length - hf l.length := List.length_drop
      have hx := manyD_two fr h2 hw
      rw [← winF_lo fr (hf l.length) l.length, ← winF_hi fr (hf l.length) l.length (by omega)] at hx
      have hXl := winF_len fr (fr + (l.length : Int)) ps
      have HWI := Lib.hid (rwithin_row A2 c2 ps fr (fr + (l.length : Int)) w hi hp)
      obtain ⟨X, hX⟩ : ∃ X, winF fr (fr + (l.length : Int)) ps = X := ⟨_, rfl⟩
      rw [hX] at HWI hw hXl hx
      have c1 := fun (w' : World) (A2' : Option Addr) (c2' : Nat) (hg' : RTab w') (hr' : RdD w' A (l.take (hf l.length))) (hi' : RdI w' A2' X) => ih (l.take (hf l.length)) fr X A c A2' c2' w' (by omega) (by omega) (by omega) (by omega) (by omega) hf0 (by omega) hg' hr' hi'
      have c2 := fun (w' : World) (A2' : Option Addr) (c2' : Nat) (hg' : RTab w') (hr' : RdD w' (dA A l.length (hf l.length)) (l.drop (hf l.length))) (hi' : RdI w' A2' X) => ih (l.drop (hf l.length)) (fr + (hf l.length : Int)) X (dA A l.length (hf l.length)) (c - hf l.length) A2' c2' w' (by omega) (by omega) (by omega) (by omega) (by omega) (by omega) (by omega) hg' hr' hi'
      have t1 := manyD_len (l.take (hf l.length)) fr (winF fr (fr + (hf l.length : Int)) X)
      have t2 := manyD_len (l.drop (hf l.length)) (fr + (hf l.length : Int)) (winF (fr + (hf l.length : Int)) (fr + (hf l.length : Int) + ((l.length - hf l.length : Nat) : Int)) X)
      rw [e1] at c1 t1
      rw [e2] at c2 t2
      have HP := Lib.hid (fun w' => split_any l.length w' h2 (by omega))
      have r1 := hr.take (hf l.length)
      have r2 := hr.drop (hf l.length)
      obtain ⟨h, hh⟩ : ∃ h, hf l.length = h := ⟨_, rfl⟩
      rw [hh] at c1 c2 r1 r2 hlt hpz hx t1 t2 HP
      obtain ⟨T1, hT1⟩ : ∃ T1, manyD (l.take h) fr (winF fr (fr + (h : Int)) X) = T1 := ⟨_, rfl⟩
      obtain ⟨T2, hT2⟩ : ∃ T2, manyD (l.drop h) (fr + (h : Int)) (winF (fr + (h : Int)) (fr + (h : Int) + ((l.length - h : Nat) : Int)) X) = T2 := ⟨_, rfl⟩
      rw [hT1] at c1 hx t1
      rw [hT2] at c2 hx t2
      have hxp := List.length_pos_iff.2 hw
      have dx : ((X.length : Int) == 0) = false := by rw [beq_eq_false_iff_ne]; omega
      have dx' : (X.length == 0) = false := by rw [beq_eq_false_iff_ne]; omega
      have dl1 : ((l.length : Int) == 1) = false := by rw [beq_eq_false_iff_ne]; omega
      have dl1' : (l.length == 1) = false := by rw [beq_eq_false_iff_ne]; omega
      have HWL := Lib.hid (show IntKind.i64.wrap (fr + (l.length : Int)) = fr + (l.length : Int) from IntWalk.i64_in _ (by omega))
      have HW := Lib.hid (show IntKind.i64.wrap (fr + (h : Int)) = fr + (h : Int) from IntWalk.i64_in _ (by omega))
      have HX := Lib.hid (show manyD l fr (winF fr (fr + (l.length : Int)) ps) = T1 ++ T2 by rw [hX]; exact hx)
      have HG := Lib.hid hg
      have HR1 := Lib.hid r1
      have HR2 := Lib.hid r2
      have HC1 := Lib.hid c1
      have HC2 := Lib.hid c2
      clear c1 c2 r1 r2 hg hr hi ih hx hX hw hT1 hT2 hxp hh e1 e2 hXl hl1 h1 hk
      go_enter Tryd.func46, Tryd.ntmps46
      go_wp2_with fail
      try rw [HWL.out]
      refine HWI.out.mono ?_
      rintro e B ⟨v1, rfl, hO, hb1⟩
      obtain ⟨A1, k1, rfl, hI, -⟩ := newI_of_row hO
      have HBW := Lib.hid hb1
      have HI := Lib.hid hI
      replace HG := Lib.hid (HG.out.next hb1)
      replace HR1 := Lib.hid (HR1.out.below hb1)
      replace HR2 := Lib.hid (HR2.out.below hb1)
      replace HC1 := Lib.hid (fun w' => HC1.out w' A1 k1)
      replace HC2 := Lib.hid (fun w' => HC2.out w' A1 k1)
      clear hO hb1 hI HWI
      go_wp2_with fail
      refine (HP.out _).mono ?_
      rintro e B ⟨rfl, rfl⟩
      go_wp2_with fail
      refine wp_region_held_drew (S := fun W => Below B.heap.size B W) (by kernel_rfl) (Below.refl _ _).drew (fun hS => ?_)
      generalize B.drew = u0 at hS ⊢
      refine reg_takeG (i := 1) (some 29) rfl rfl rfl (by kernel_rfl) (by kernel_rfl) (by kernel_rfl) (.slice A l.length c) (fun _ _ _ h => h) (fun W hW => exec_move (.tmp 0) rfl _ rfl) hS ?_
      go_frame
      refine reg_takeG (i := 2) (some 30) rfl rfl rfl (by kernel_rfl) (by kernel_rfl) (by kernel_rfl) (.int .i64 h) (fun _ _ _ h => h) (fun W hW => exec_move (.tmp 8) rfl _ rfl) hS ?_
      go_frame
      refine reg_takeG (i := 3) (some 31) rfl rfl rfl (by kernel_rfl) (by kernel_rfl) (by kernel_rfl) (.slice A h c) (fun _ _ _ h => h) (fun W hW => exec_hiD (.tmp 29) (.tmp 30) rfl A l.length c h (by omega) hc rfl rfl) hS ?_
      go_frame
      refine reg_takeG (i := 4) (some 32) rfl rfl rfl (by kernel_rfl) (by kernel_rfl) (by kernel_rfl) (.int .i64 fr) (fun _ _ _ h => h) (fun W hW => exec_move (.tmp 1) rfl _ rfl) hS ?_
      go_frame
      refine reg_takeG (i := 5) (some 33) rfl rfl rfl (by kernel_rfl) (by kernel_rfl) (by kernel_rfl) (.slice A1 X.length k1) (fun _ _ _ h => h) (fun W hW => exec_move (.tmp 7) rfl _ rfl) hS ?_
      go_frame
      refine reg_takeG (i := 8) (some 36) rfl rfl rfl (by kernel_rfl) (by kernel_rfl) (by kernel_rfl) (.slice A l.length c) (fun _ _ _ h => h) (fun W hW => exec_move (.tmp 0) rfl _ rfl) hS ?_
      go_frame
      refine reg_takeG (i := 9) (some 37) rfl rfl rfl (by kernel_rfl) (by kernel_rfl) (by kernel_rfl) (.int .i64 h) (fun _ _ _ h => h) (fun W hW => exec_move (.tmp 8) rfl _ rfl) hS ?_
      go_frame
      refine reg_takeG (i := 10) (some 38) rfl rfl rfl (by kernel_rfl) (by kernel_rfl) (by kernel_rfl) (.slice (dA A l.length h) (l.length - h : Nat) (c - h : Nat)) (fun _ _ _ h => h) (fun W hW => exec_loD (.tmp 36) (.tmp 37) rfl A l.length c h hlt hc rfl rfl) hS ?_
      go_frame
      refine reg_takeG (i := 11) (some 39) rfl rfl rfl (by kernel_rfl) (by kernel_rfl) (by kernel_rfl) (.int .i64 fr) (fun _ _ _ h => h) (fun W hW => exec_move (.tmp 1) rfl _ rfl) hS ?_
      go_frame
      refine reg_takeG (i := 12) (some 40) rfl rfl rfl (by kernel_rfl) (by kernel_rfl) (by kernel_rfl) (.int .i64 h) (fun _ _ _ h => h) (fun W hW => exec_move (.tmp 8) rfl _ rfl) hS ?_
      go_frame
      refine reg_takeG (i := 13) (some 41) rfl rfl rfl (by kernel_rfl) (by kernel_rfl) (by kernel_rfl) (.int .i64 (fr + (h : Int))) (fun _ _ _ h => h) (fun W hW => exec_addI _ (.tmp 39) (.tmp 40) _ rfl _ _ _ rfl rfl HW.out) hS ?_
      go_frame
      refine reg_takeG (i := 14) (some 42) rfl rfl rfl (by kernel_rfl) (by kernel_rfl) (by kernel_rfl) (.slice A1 X.length k1) (fun _ _ _ h => h) (fun W hW => exec_move (.tmp 7) rfl _ rfl) hS ?_
      go_frame
      refine reg_twoG (i := 0) (k := 6) rfl rfl rfl rfl (by kernel_rfl) ?_ ?_
      · refine opG_make (some 28) rfl _ _ (exec_emptyD rfl) ?_
        have hz := hS.size
        have hO0' := own_emptyD u0
        have hO0 := own_lower hO0' hz
        have hb := (Below.refl u0.heap.size u0).alloc (Nat.le_refl _) (.cells #[] 31)
        replace hS := hS.trans (hb.mono hz)
        refine ⟨hS, ?_⟩
        go_frame
        generalize u0.alloc (.cells #[] 31) = u1 at hO0 hS ⊢
        clear hb hz hO0'
        refine reg_oneG (i := 6) rfl rfl (by kernel_rfl) ?_
        refine opG_call (some 34) rfl rfl Tryd.func46 (by kernel_rfl) (by kernel_rfl) #[.slice A h c, .int .i64 fr, .slice A1 X.length k1] rfl (HC1.out u1 (HG.out.next hS) (HR1.out.below hS) (HI.out.below hS)) ?_
        rintro e u2 ⟨v6, rfl, hO6, hb⟩
        have hz := hS.size
        obtain ⟨A6, c6, rfl, -, -⟩ := newD_of_row hO6
        replace hO0 := own_below hO0 hb
        replace hO6 := own_lower hO6 hz
        replace hS := hS.trans (hb.mono hz)
        refine ⟨_, rfl, hS, ?_⟩
        go_frame
        clear hb hz
        refine reg_oneG (i := 7) rfl rfl (by kernel_rfl) ?_
        have hR6 := row_rd hO6
        have hz := hS.size
        refine opG_appD (some 35) rfl (.tmp 28) (.tmp 34) rfl B.heap.size _ [] rfl hO0 A6 c6 T1 rfl hR6 hz (by simp only [List.length_nil]; omega) ?_
        intro v7 u3 hO7 hb hk
        rw [List.nil_append] at hO7
        replace hS := hS.trans hb
        refine ⟨hS, ?_⟩
        go_frame
        clear hb hz hk hR6 hO0 hO6
        refine reg_oneG (i := 15) rfl rfl (by kernel_rfl) ?_
        refine opG_call (some 43) rfl rfl Tryd.func46 (by kernel_rfl) (by kernel_rfl) #[.slice (dA A l.length h) (l.length - h : Nat) (c - h : Nat), .int .i64 (fr + (h : Int)), .slice A1 X.length k1] rfl (HC2.out u3 (HG.out.next hS) (HR2.out.below hS) (HI.out.below hS)) ?_
        rintro e u4 ⟨v15, rfl, hO15, hb⟩
        have hz := hS.size
        obtain ⟨A15, c15, rfl, -, -⟩ := newD_of_row hO15
        replace hO7 := own_below hO7 hb
        replace hO15 := own_lower hO15 hz
        replace hS := hS.trans (hb.mono hz)
        refine ⟨_, rfl, hS, ?_⟩
        go_frame
        clear hb hz
        refine reg_oneG (i := 16) rfl rfl (by kernel_rfl) ?_
        have hR15 := row_rd hO15
        have hz := hS.size
        refine opG_appD (some 44) rfl (.tmp 35) (.tmp 43) rfl B.heap.size v7 T1 rfl hO7 A15 c15 T2 rfl hR15 hz (by omega) ?_
        intro v16 u5 hO16 hb _
        replace hS := hS.trans hb
        refine ⟨hS, ?_⟩
        go_frame
        clear hb hz hR15 hO7 hO15
        refine reg_valueG (i := 17) (some 6) rfl rfl rfl (by kernel_rfl) v16 (exec_assign (.tmp 44) rfl _ rfl) hS ?_
        go_frame
        refine wpAnyH_done (by kernel_rfl) ?_ _
        have HN := Lib.hid hO16
        have HF := Lib.hid hS
        clear hS hO16
        go_wp2
        go_ret
        exact ⟨v16, rfl, by rw [HX.out]; exact own_lower HN.out HBW.out.size, HBW.out.trans (HF.out.mono HBW.out.size)⟩
      · refine opG_call (some 34) rfl rfl Tryd.func46 (by kernel_rfl) (by kernel_rfl) #[.slice A h c, .int .i64 fr, .slice A1 X.length k1] rfl (HC1.out u0 (HG.out.next hS) (HR1.out.below hS) (HI.out.below hS)) ?_
        rintro e u1 ⟨v6, rfl, hO6, hb⟩
        have hz := hS.size
        obtain ⟨A6, c6, rfl, -, -⟩ := newD_of_row hO6
        replace hO6 := own_lower hO6 hz
        replace hS := hS.trans (hb.mono hz)
        refine ⟨_, rfl, hS, ?_⟩
        go_frame
        clear hb hz
        refine reg_oneG (i := 0) rfl rfl (by kernel_rfl) ?_
        refine opG_make (some 28) rfl _ _ (exec_emptyD rfl) ?_
        have hz := hS.size
        have hO0' := own_emptyD u1
        have hO0 := own_lower hO0' hz
        have hb := (Below.refl u1.heap.size u1).alloc (Nat.le_refl _) (.cells #[] 31)
        replace hO6 := own_below hO6 hb
        replace hS := hS.trans (hb.mono hz)
        refine ⟨hS, ?_⟩
        go_frame
        generalize u1.alloc (.cells #[] 31) = u2 at hO0 hS hO6 ⊢
        clear hb hz hO0'
        refine reg_oneG (i := 7) rfl rfl (by kernel_rfl) ?_
        have hR6 := row_rd hO6
        have hz := hS.size
        refine opG_appD (some 35) rfl (.tmp 28) (.tmp 34) rfl B.heap.size _ [] rfl hO0 A6 c6 T1 rfl hR6 hz (by simp only [List.length_nil]; omega) ?_
        intro v7 u3 hO7 hb hk
        rw [List.nil_append] at hO7
        replace hS := hS.trans hb
        refine ⟨hS, ?_⟩
        go_frame
        clear hb hz hk hR6 hO0 hO6
        refine reg_oneG (i := 15) rfl rfl (by kernel_rfl) ?_
        refine opG_call (some 43) rfl rfl Tryd.func46 (by kernel_rfl) (by kernel_rfl) #[.slice (dA A l.length h) (l.length - h : Nat) (c - h : Nat), .int .i64 (fr + (h : Int)), .slice A1 X.length k1] rfl (HC2.out u3 (HG.out.next hS) (HR2.out.below hS) (HI.out.below hS)) ?_
        rintro e u4 ⟨v15, rfl, hO15, hb⟩
        have hz := hS.size
        obtain ⟨A15, c15, rfl, -, -⟩ := newD_of_row hO15
        replace hO7 := own_below hO7 hb
        replace hO15 := own_lower hO15 hz
        replace hS := hS.trans (hb.mono hz)
        refine ⟨_, rfl, hS, ?_⟩
        go_frame
        clear hb hz
        refine reg_oneG (i := 16) rfl rfl (by kernel_rfl) ?_
        have hR15 := row_rd hO15
        have hz := hS.size
        refine opG_appD (some 44) rfl (.tmp 35) (.tmp 43) rfl B.heap.size v7 T1 rfl hO7 A15 c15 T2 rfl hR15 hz (by omega) ?_
        intro v16 u5 hO16 hb _
        replace hS := hS.trans hb
        refine ⟨hS, ?_⟩
        go_frame
        clear hb hz hR15 hO7 hO15
        refine reg_valueG (i := 17) (some 6) rfl rfl rfl (by kernel_rfl) v16 (exec_assign (.tmp 44) rfl _ rfl) hS ?_
        go_frame
        refine wpAnyH_done (by kernel_rfl) ?_ _
        have HN := Lib.hid hO16
        have HF := Lib.hid hS
        clear hS hO16
        go_wp2
        go_ret
        exact ⟨v16, rfl, by rw [HX.out]; exact own_lower HN.out HBW.out.size, HBW.out.trans (HF.out.mono HBW.out.size)⟩
end Go.Proofs.YtfbemmeonkceiaaDoor

/- The reference's walk. -/
namespace Go.Proofs.YtfbemmeonkceiaaDoor
open Go.RowKit Hm Wm

/-- The cells of a Walk. -/
def wkc (d : Dg) (f q : Int) (b : Bool) : List Value := dc d ++ [.int .i64 f, .int .i64 q, .bool b]
theorem wkc_len (d : Dg) (f q : Int) (b : Bool) : (wkc d f q b).length = 19 := by unfold wkc; rw [List.length_append, dc_len]; rfl
theorem wk_size : (Tryd.prog.info? 86).map (·.size) = some 19 := by kernel_rfl
theorem wk_size' (d : Dg) (f q : Int) (b : Bool) : (Tryd.prog.info? 86).map (·.size) = some (wkc d f q b).length := by rw [wkc_len]; exact wk_size
theorem wk_zero : (Tryd.prog.info? 86).map (·.zero) = some (some (.agg (wkc dz 0 0 false).toArray)) := by kernel_rfl
theorem wk_fit (d e : Dg) (f q f' q' : Int) (b b' : Bool) : (wkc d f q b).length = (wkc e f' q' b').length := by rw [wkc_len, wkc_len]
theorem wkc_one (d : Dg) (f q : Int) (b : Bool) : ∀ v ∈ wkc d f q b, v.oneCell' = true := by
  intro v hv
  rcases List.mem_append.1 hv with hv | hv
  · exact dc_one d v hv
  · simp only [List.mem_cons, List.not_mem_nil, or_false] at hv
    rcases hv with rfl | rfl | rfl <;> rfl
theorem run_wk0 (W : World) : (Instr.build 86 #[]).run Tryd.prog W = .ok (.agg (wkc dz 0 0 false).toArray) W := by kernel_rfl
theorem dg_parts (d : Dg) : ∃ b0 b1 b2 b3 b4 b5 b6 b7 b8 b9 b10 b11 b12 b13 b14 b15, d.1 = [b0, b1, b2, b3, b4, b5, b6, b7, b8, b9, b10, b11, b12, b13, b14, b15] := by
  obtain ⟨l, hl⟩ := d
  match l, hl with
  | [b0, b1, b2, b3, b4, b5, b6, b7, b8, b9, b10, b11, b12, b13, b14, b15], _ => exact ⟨b0, b1, b2, b3, b4, b5, b6, b7, b8, b9, b10, b11, b12, b13, b14, b15, rfl⟩
theorem run_wkP (d : Dg) (q : Int) (b : Bool) (W : World) : (Instr.build 86 #[(0, dv d), (2, .int .i64 q), (3, .bool b)]).run Tryd.prog W = .ok (.agg (wkc d 0 q b).toArray) W := by
  obtain ⟨b0, b1, b2, b3, b4, b5, b6, b7, b8, b9, b10, b11, b12, b13, b14, b15, h⟩ := dg_parts d
  obtain ⟨l, hl⟩ := d
  subst h
  kernel_rfl
theorem run_wkF (d : Dg) (f : Int) (b : Bool) (W : World) : (Instr.build 86 #[(0, dv d), (1, .int .i64 f), (3, .bool b)]).run Tryd.prog W = .ok (.agg (wkc d f 0 b).toArray) W := by
  obtain ⟨b0, b1, b2, b3, b4, b5, b6, b7, b8, b9, b10, b11, b12, b13, b14, b15, h⟩ := dg_parts d
  obtain ⟨l, hl⟩ := d
  subst h
  kernel_rfl
theorem run_wk4 (d : Dg) (f q : Int) (b : Bool) (W : World) : (Instr.build 86 #[(0, dv d), (1, .int .i64 f), (2, .int .i64 q), (3, .bool b)]).run Tryd.prog W = .ok (.agg (wkc d f q b).toArray) W := by
  obtain ⟨b0, b1, b2, b3, b4, b5, b6, b7, b8, b9, b10, b11, b12, b13, b14, b15, h⟩ := dg_parts d
  obtain ⟨l, hl⟩ := d
  subst h
  kernel_rfl
theorem exec_buildL {oi : Oper} {a : Act} {w : World} (ty : TypeId) (ps : Array (Nat × Operand)) (ho : oi.op = .build ty ps) (vs : List (Nat × Value)) (hv : (ps.toList.map fun p => (p.1, a.eval p.2)) = vs) (v : Value) (hl : (Instr.build ty vs.toArray).run Tryd.prog w = .ok v w) : (execOp a.eval oi).run Tryd.prog w = .ok (.value v) w := by
  have e : (ps.map fun (i, x) => (i, a.eval x)) = vs.toArray := by apply Array.ext'; rw [Array.toList_map]; exact hv
  unfold execOp
  simp only [ho, Sem.run_bind]
  rw [e, hl]
  rfl
theorem wk_field0 (g : Nat) (W : World) : (Instr.fieldAt 86 (.pointer (some ⟨g, 0, none⟩)) 0).run Tryd.prog W = .ok (.pointer (some ⟨g, 0, none⟩)) W := by kernel_rfl
theorem wk_field1 (g : Nat) (W : World) : (Instr.fieldAt 86 (.pointer (some ⟨g, 0, none⟩)) 1).run Tryd.prog W = .ok (.pointer (some ⟨g, 16, none⟩)) W := by kernel_rfl
theorem wk_field2 (g : Nat) (W : World) : (Instr.fieldAt 86 (.pointer (some ⟨g, 0, none⟩)) 2).run Tryd.prog W = .ok (.pointer (some ⟨g, 17, none⟩)) W := by kernel_rfl
theorem wk_field3 (g : Nat) (W : World) : (Instr.fieldAt 86 (.pointer (some ⟨g, 0, none⟩)) 3).run Tryd.prog W = .ok (.pointer (some ⟨g, 18, none⟩)) W := by kernel_rfl
theorem wk_range {W : World} {g : Nat} {d : Dg} {f q : Int} {b : Bool} (hb : Blk W g 86 (wkc d f q b)) : W.rangeAt g 0 (dc d) := fun j u hu => by
  rw [Nat.zero_add, hb.cell j]
  unfold wkc
  rw [List.getElem?_append_left (by rcases Nat.lt_or_ge j (dc d).length with h | h; exact h; rw [List.getElem?_eq_none h] at hu; cases hu)]
  exact hu
theorem wk_cell {W : World} {g : Nat} {d : Dg} {f q : Int} {b : Bool} (hb : Blk W g 86 (wkc d f q b)) : W.cell? ⟨g, 16, none⟩ = some (.int .i64 f) ∧ W.cell? ⟨g, 17, none⟩ = some (.int .i64 q) ∧ W.cell? ⟨g, 18, none⟩ = some (.bool b) := by
  refine ⟨?_, ?_, ?_⟩ <;> (rw [hb.cell]; unfold wkc; rw [List.getElem?_append_right (by rw [dc_len]; decide), dc_len]; rfl)
theorem run_loD2 (A : Option Addr) (n c k : Nat) (hk : k ≤ n) (hn : n ≤ c) :
    ∃ A', (∀ W, (Instr.sliceAt 22 (.slice A n c) (some (.int .i64 k)) none none).run Tryd.prog W = .ok (.slice A' (n - k : Nat) (c - k : Nat)) W) ∧ ∀ (W : World) (l : List Dg), l.length = n → RdD W A l → RdD W A' (l.drop k) := by
  by_cases hkn : k < n
  · exact ⟨dA A n k, fun W => run_loD A n c k hkn hn W, fun W l hl h => by rw [← hl]; exact h.drop k⟩
  · obtain rfl : k = n := by omega
    have hu : Tryd.prog.underlying 22 = some (.slice 31) := Tryd.underlying22
    by_cases hc : c = k
    · refine ⟨A, fun W => ?_, fun W l hl _ => by rw [List.drop_of_length_le (by omega)]; exact Rd.nil _ _⟩
      subst hc
      simp [Instr.sliceAt, Instr.slice, run_underlying hu, Instr.sliceBounds, run_sliceBound]
    · refine ⟨A.map (·.add (k * 16)), fun W => ?_, fun W l hl _ => by rw [List.drop_of_length_le (by omega)]; exact Rd.nil _ _⟩
      simp [Instr.sliceAt, Instr.slice, run_underlying hu, Instr.sliceBounds, run_sliceBound, hc]
theorem exec_loD2 {oi : Oper} {a : Act} {w : World} (x y : Operand) (ho : oi.op = .slice 22 x (some y) none none) (A A' : Option Addr) (n c k m j : Nat) (hrun : ∀ W, (Instr.sliceAt 22 (.slice A n c) (some (.int .i64 k)) none none).run Tryd.prog W = .ok (.slice A' m j) W) (hx : a.eval x = .slice A n c) (hy : a.eval y = .int .i64 k) : (execOp a.eval oi).run Tryd.prog w = .ok (.value (.slice A' m j)) w := by
  have hl := hrun w
  rw [← hx, ← hy] at hl
  simp [execOp, ho, hl]
theorem exec_loadW {oi : Oper} {a : Act} {w : World} {g o : Nat} {v : Value} (ty : TypeId) (hag : ∀ W, (isAgg ty).run Tryd.prog W = .ok false W) (x : Operand) (ho : oi.op = .load ty x) (hx : a.eval x = .pointer (some ⟨g, o, none⟩)) (h : w.cell? ⟨g, o, none⟩ = some v) : (execOp a.eval oi).run Tryd.prog w = .ok (.value v) w :=
  exec_load ty x ho _ _ hx (run_load_cell hag h)
theorem bool_flat (W : World) : (isAgg 4).run Tryd.prog W = .ok false W := by kernel_rfl

set_option maxRecDepth 1000000 in
set_option maxHeartbeats 400000 in
theorem rwalk_stop (fr : Int) (n : Nat) (ps : List Int) (A2 : Option Addr) (c2 : Nat) (w : World) (hf0 : 0 ≤ fr) (hf1 : fr + n ≤ 2 ^ 41) (hp : ps.length ≤ 1000) (hi : RdI w A2 ps) (F : Value) (A4 : Option Addr) (c4 : Nat) (hw : winF fr (fr + (n : Int)) ps = []) :
    Calls Tryd.prog 50 #[.int .i64 fr, .int .i64 n, .slice A2 ps.length c2, F, .slice A4 0 c4] w fun e w' => e = .returned (.agg (wkc dz 0 0 false).toArray) ∧ Below w.heap.size w w' := by
  have hb := (Below.refl w.heap.size w).alloc (Nat.le_refl _) (.cells (wkc dz 0 0 false).toArray 86)
  have HK := Lib.hid (Blk.new w 86 (wkc dz 0 0 false))
  have HB := Lib.hid hb
  have HWI := Lib.hid (fun W (h : RdI W A2 ps) => rwithin_row A2 c2 ps fr (fr + (n : Int)) W h hp)
  have HI := Lib.hid (hi.below hb)
  have HW := Lib.hid (show IntKind.i64.wrap (fr + (n : Int)) = fr + (n : Int) from IntWalk.i64_in _ (by omega))
  rw [hw] at HWI
  clear hb hi hw
  go_enter Tryd.func50, Tryd.ntmps50
  go_wp2_with (refine wpList_alloc_zero rfl 86 rfl (wkc dz 0 0 false) wk_zero ?_; generalize w.alloc (.cells (wkc dz 0 0 false).toArray 86) = w1 at HK HB HI  ⊢)
  try rw [HW.out]
  refine (HWI.out _ HI.out).mono ?_
  rintro e w2 ⟨v1, rfl, hO, hb1⟩
  obtain ⟨A1, k1, rfl, hI, -⟩ := newI_of_row hO
  replace HK := Lib.hid (HK.out.next hb1)
  replace HB := Lib.hid (HB.out.trans (hb1.mono HB.out.size))
  clear hO hb1 hI HWI
  go_wp2_with (first | (refine wpList_run 27 rfl rfl _ (exec_build0 _ rfl _ (run_wk0 _)) ?_) | (refine wpList_store_all rfl _ (.tmp 10) (.tmp 27) rfl w.heap.size _ (wkc dz 0 0 false) (wkc dz 0 0 false) rfl rfl HK.out (wk_fit _ _ _ _ _ _ _ _) (wk_size' _ _ _ _) (wkc_one _ _ _ _) ?_; intro w3 HB3 ho3))
  exact bodyPost_ret (results_blk rfl _ _ w.heap.size _ (wkc dz 0 0 false) _ rfl HB3.out Tryd.underlying86 rfl (wk_size' _ _ _ _)) rfl ⟨rfl, HB.out.trans (ho3.below (Nat.le_refl _))⟩

set_option maxRecDepth 1000000 in
set_option maxHeartbeats 400000 in
theorem rwalk_path (fr : Int) (n : Nat) (ps : List Int) (A2 : Option Addr) (c2 : Nat) (w : World) (hf0 : 0 ≤ fr) (hf1 : fr + n ≤ 2 ^ 41) (hp : ps.length ≤ 1000) (hi : RdI w A2 ps) (F : Value) (A4 : Option Addr) (c4 : Nat) (d : Dg) (r : List Dg) (hr4 : RdD w A4 (d :: r)) (hw : winF fr (fr + (n : Int)) ps = []) :
    Calls Tryd.prog 50 #[.int .i64 fr, .int .i64 n, .slice A2 ps.length c2, F, .slice A4 (d :: r).length c4] w fun e w' => e = .returned (.agg (wkc d 0 1 true).toArray) ∧ Below w.heap.size w w' := by
  have hb := (Below.refl w.heap.size w).alloc (Nat.le_refl _) (.cells (wkc dz 0 0 false).toArray 86)
  have HK := Lib.hid (Blk.new w 86 (wkc dz 0 0 false))
  have HB := Lib.hid hb
  have HWI := Lib.hid (fun W (h : RdI W A2 ps) => rwithin_row A2 c2 ps fr (fr + (n : Int)) W h hp)
  have HI := Lib.hid (hi.below hb)
  have HW := Lib.hid (show IntKind.i64.wrap (fr + (n : Int)) = fr + (n : Int) from IntWalk.i64_in _ (by omega))
  rw [hw] at HWI
  have HR4 := Lib.hid (hr4.below hb)
  obtain ⟨m, hm⟩ : ∃ m, (d :: r).length = m := ⟨_, rfl⟩
  have hm0 : 0 < m := by rw [← hm]; simp
  have hm1 : (m == 0) = false := by rw [beq_eq_false_iff_ne]; omega
  have hm2 : ((m : Int) == 0) = false := by rw [beq_eq_false_iff_ne]; omega
  rw [hm]
  clear hb hi hw hr4 hm
  go_enter Tryd.func50, Tryd.ntmps50
  go_wp2_with (refine wpList_alloc_zero rfl 86 rfl (wkc dz 0 0 false) wk_zero ?_; generalize w.alloc (.cells (wkc dz 0 0 false).toArray 86) = w1 at HK HB HI HR4 ⊢)
  try rw [HW.out]
  refine (HWI.out _ HI.out).mono ?_
  rintro e w2 ⟨v1, rfl, hO, hb1⟩
  obtain ⟨A1, k1, rfl, hI, -⟩ := newI_of_row hO
  replace HK := Lib.hid (HK.out.next hb1)
  replace HB := Lib.hid (HB.out.trans (hb1.mono HB.out.size))
  obtain ⟨b, off, rfl, hc⟩ := (HR4.out.below hb1).range (k := 0) (by simp)
  rw [Nat.zero_mul, Nat.add_zero] at hc
  have HC : Hid (World.rangeAt w2 b off (dc d)) := hc
  clear hO hb1 hI HWI hc HR4
  go_wp2_with (first | (refine wpList_loadD rfl (.tmp 29) rfl b off rfl d HC.out ?_) | (refine wpList_run 31 rfl rfl _ (exec_buildL _ _ rfl [(0, dv d), (2, .int .i64 1), (3, .bool true)] rfl _ (run_wkP d 1 true _)) ?_) | (refine wpList_store_all rfl _ (.tmp 10) (.tmp 31) rfl w.heap.size _ (wkc dz 0 0 false) (wkc d 0 1 true) rfl rfl HK.out (wk_fit _ _ _ _ _ _ _ _) (wk_size' _ _ _ _) (wkc_one _ _ _ _) ?_; intro w3 HB3 ho3))
  exact bodyPost_ret (results_blk rfl _ _ w.heap.size _ (wkc d 0 1 true) _ rfl HB3.out Tryd.underlying86 rfl (wk_size' _ _ _ _)) rfl ⟨rfl, HB.out.trans (ho3.below (Nat.le_refl _))⟩

set_option maxRecDepth 1000000 in
set_option maxHeartbeats 400000 in
theorem rwalk_one (fr : Int) (n : Nat) (hn : n = 1) (ps : List Int) (A2 : Option Addr) (c2 : Nat) (w : World) (hf0 : 0 ≤ fr) (hf1 : fr + n ≤ 2 ^ 41) (hp : ps.length ≤ 1000) (hi : RdI w A2 ps) (P : Value) (A3 : Option Addr) (c3 : Nat) (d : Dg) (r : List Dg) (hr3 : RdD w A3 (d :: r)) (hw : winF fr (fr + (n : Int)) ps ≠ []) :
    Calls Tryd.prog 50 #[.int .i64 fr, .int .i64 n, .slice A2 ps.length c2, .slice A3 (d :: r).length c3, P] w fun e w' => e = .returned (.agg (wkc d 1 0 true).toArray) ∧ Below w.heap.size w w' := by
  have hb := (Below.refl w.heap.size w).alloc (Nat.le_refl _) (.cells (wkc dz 0 0 false).toArray 86)
  have HK := Lib.hid (Blk.new w 86 (wkc dz 0 0 false))
  have HB := Lib.hid hb
  have HWI := Lib.hid (fun W (h : RdI W A2 ps) => rwithin_row A2 c2 ps fr (fr + (n : Int)) W h hp)
  have HI := Lib.hid (hi.below hb)
  have HW := Lib.hid (show IntKind.i64.wrap (fr + (n : Int)) = fr + (n : Int) from IntWalk.i64_in _ (by omega))
  have HR3 := Lib.hid (hr3.below hb)
  obtain ⟨X, hX⟩ : ∃ X, winF fr (fr + (n : Int)) ps = X := ⟨_, rfl⟩
  rw [hX] at HWI hw
  have hx := List.length_pos_iff.2 hw
  have dx : ((X.length : Int) == 0) = false := by rw [beq_eq_false_iff_ne]; omega
  have dx' : (X.length == 0) = false := by rw [beq_eq_false_iff_ne]; omega
  have dn1 : ((n : Int) == 1) = true := by rw [hn]; rfl
  obtain ⟨m, hm⟩ : ∃ m, (d :: r).length = m := ⟨_, rfl⟩
  have hm0 : 0 < m := by rw [← hm]; simp
  rw [hm]
  clear hb hi hw hr3 hm hX hx hn
  go_enter Tryd.func50, Tryd.ntmps50
  go_wp2_with (refine wpList_alloc_zero rfl 86 rfl (wkc dz 0 0 false) wk_zero ?_; generalize w.alloc (.cells (wkc dz 0 0 false).toArray 86) = w1 at HK HB HI HR3 ⊢)
  try rw [HW.out]
  refine (HWI.out _ HI.out).mono ?_
  rintro e w2 ⟨v1, rfl, hO, hb1⟩
  obtain ⟨A1, k1, rfl, hI, -⟩ := newI_of_row hO
  replace HK := Lib.hid (HK.out.next hb1)
  replace HB := Lib.hid (HB.out.trans (hb1.mono HB.out.size))
  obtain ⟨b, off, rfl, hc⟩ := (HR3.out.below hb1).range (k := 0) (by simp)
  rw [Nat.zero_mul, Nat.add_zero] at hc
  have HC : Hid (World.rangeAt w2 b off (dc d)) := hc
  clear hO hb1 hI HWI hc HR3
  go_wp2_with (first | (refine wpList_loadD rfl (.tmp 35) rfl b off rfl d HC.out ?_) | (refine wpList_run 37 rfl rfl _ (exec_buildL _ _ rfl [(0, dv d), (1, .int .i64 1), (3, .bool true)] rfl _ (run_wkF d 1 true _)) ?_) | (refine wpList_store_all rfl _ (.tmp 10) (.tmp 37) rfl w.heap.size _ (wkc dz 0 0 false) (wkc d 1 0 true) rfl rfl HK.out (wk_fit _ _ _ _ _ _ _ _) (wk_size' _ _ _ _) (wkc_one _ _ _ _) ?_; intro w3 HB3 ho3))
  exact bodyPost_ret (results_blk rfl _ _ w.heap.size _ (wkc d 1 0 true) _ rfl HB3.out Tryd.underlying86 rfl (wk_size' _ _ _ _)) rfl ⟨rfl, HB.out.trans (ho3.below (Nat.le_refl _))⟩

/-- What a Walk says. -/
def WkR (fr : Int) (n : Nat) (ps : List Int) (fs path : List Dg) (d : Dg) (f q : Int) (b : Bool) : Prop :=
  b = decide ((wlkD fr n ps fs 0 path).2 ≤ path.length) ∧ (b = true → ∃ a : Nat, wlkD fr n ps fs 0 path = (d, a) ∧ q = a ∧ f = ps.length)
theorem wkR_stop {fr : Int} {n : Nat} {fs : List Dg} (hn : 1 ≤ n) (d : Dg) (f q : Int) : WkR fr n [] fs [] d f q false := by
  unfold WkR
  rw [wlkD_none fr fs 0 [] hn]
  exact ⟨rfl, by simp⟩
theorem wkR_path {fr : Int} {n : Nat} {fs : List Dg} (hn : 1 ≤ n) (d : Dg) (r : List Dg) : WkR fr n [] fs (d :: r) d 0 1 true := by
  unfold WkR
  rw [wlkD_none fr fs 0 (d :: r) hn]
  exact ⟨(decide_eq_true (by simp)).symm, fun _ => ⟨1, rfl, rfl, rfl⟩⟩
theorem wkR_one {fr : Int} {ps : List Int} {path : List Dg} (d : Dg) (r : List Dg) (hp : ps ≠ []) (h1 : ps.length ≤ 1) : WkR fr 1 ps (d :: r) path d 1 0 true := by
  unfold WkR
  rw [wlkD_one fr (d :: r) 0 path hp]
  have := List.length_pos_iff.2 hp
  exact ⟨(decide_eq_true (by simp)).symm, fun _ => ⟨0, rfl, rfl, by omega⟩⟩
theorem wkR_less {fr : Int} {n : Nat} {ps : List Int} {fs path : List Dg} {d : Dg} {f q : Int} (h2 : 2 ≤ n) (hp : ps ≠ []) (h1 : WkR fr (hf n) (ps.filter (· < fr + hf n)) fs path d f q false) (e : Dg) (f' q' : Int) : WkR fr n ps fs path e f' q' false := by
  obtain ⟨hd, -⟩ := h1
  obtain ⟨⟨d1, a1⟩, hr⟩ : ∃ r, wlkD fr (hf n) (ps.filter (· < fr + hf n)) fs 0 path = r := ⟨_, rfl⟩
  have := wlkD_more fr n ps fs path h2 hp d1 a1 hr
  rw [hr] at hd
  have hd' := of_decide_eq_false hd.symm
  exact ⟨(decide_eq_false (by simp only at hd'; omega)).symm, by simp⟩
theorem wkR_both {fr : Int} {n : Nat} {ps : List Int} {fs path : List Dg} {d1 d2 : Dg} {f2 q2 : Int} {b2 : Bool} {a1 : Nat} (h2 : 2 ≤ n) (hp : ps ≠ []) (h1 : wlkD fr (hf n) (ps.filter (· < fr + hf n)) fs 0 path = (d1, a1)) (ha : a1 ≤ path.length)
    (hb : WkR (fr + hf n) (n - hf n) (ps.filter (fun p => ¬ p < fr + hf n)) (fs.drop (ps.filter (· < fr + hf n)).length) (path.drop a1) d2 f2 q2 b2) (hl : ps.length ≤ 1000) (hq : path.length ≤ 1000) :
    WkR fr n ps fs path (nodeD d1 d2) (IntKind.i64.wrap (((ps.filter (· < fr + hf n)).length : Int) + f2)) (IntKind.i64.wrap ((a1 : Int) + q2)) b2 := by
  obtain ⟨hd, ht⟩ := hb
  obtain ⟨⟨x, a2⟩, hr⟩ : ∃ r, wlkD (fr + hf n) (n - hf n) (ps.filter (fun p => ¬ p < fr + hf n)) (fs.drop (ps.filter (· < fr + hf n)).length) 0 (path.drop a1) = r := ⟨_, rfl⟩
  have hall := wlkD_halves fr n ps fs path h2 hp d1 x a1 a2 _ rfl h1 hr
  rw [hr] at hd
  simp only [List.length_drop] at hd
  unfold WkR
  rw [hall]
  refine ⟨?_, ?_⟩
  · rw [hd]
    exact decide_eq_decide.2 (by simp only; omega)
  · intro hbt
    obtain ⟨a, h3, h4, h5⟩ := ht hbt
    rw [hr] at h3
    simp only [Prod.mk.injEq] at h3
    obtain ⟨rfl, rfl⟩ := h3
    have h6 := of_decide_eq_true (hd.symm.trans hbt)
    have hc := filter_cut (fr + hf n) ps
    refine ⟨a1 + a2, rfl, ?_, ?_⟩
    · rw [h4, IntWalk.i64_in _ (by omega)]; omega
    · rw [h5, IntWalk.i64_in _ (by omega)]; omega

set_option maxRecDepth 1000000 in
set_option maxHeartbeats 400000 in
theorem rwalk_any (k : Nat) : ∀ (fr : Int) (n : Nat) (ps : List Int) (fs path : List Dg) (A2 : Option Addr) (c2 : Nat) (A3 : Option Addr) (c3 : Nat) (A4 : Option Addr) (c4 : Nat) (w : World), n ≤ k → 1 ≤ n → n ≤ 1099511627776 → 0 ≤ fr → fr + n ≤ 2 ^ 41 → ps.length ≤ 1000 → ps.Pairwise (· < ·) → (winF fr (fr + (n : Int)) ps).length ≤ fs.length → fs.length ≤ c3 → fs.length ≤ 1000 → path.length ≤ c4 → path.length ≤ 1000 → RTab w → RdI w A2 ps → RdD w A3 fs → RdD w A4 path →
    Calls Tryd.prog 50 #[.int .i64 fr, .int .i64 n, .slice A2 ps.length c2, .slice A3 fs.length c3, .slice A4 path.length c4] w fun e w' => ∃ d f q b, e = .returned (.agg (wkc d f q b).toArray) ∧ WkR fr n (winF fr (fr + (n : Int)) ps) fs path d f q b ∧ Below w.heap.size w w' := by
  induction k with
  | zero => intro fr n ps fs path A2 c2 A3 c3 A4 c4 w hk h1; omega
  | succ k ih =>
  intro fr n ps fs path A2 c2 A3 c3 A4 c4 w hk h1 hn hf0 hf1 hp hs hfl hc3 hl3 hc4 hl4 hg hi hr3 hr4
  by_cases hw : winF fr (fr + (n : Int)) ps = []
  · rw [hw]
    rcases path with _ | ⟨d, r⟩
    · refine (rwalk_stop fr n ps A2 c2 w hf0 hf1 hp hi _ A4 c4 hw).mono ?_
      rintro e w' ⟨rfl, hb⟩
      exact ⟨_, _, _, _, rfl, wkR_stop h1 _ _ _, hb⟩
    · refine (rwalk_path fr n ps A2 c2 w hf0 hf1 hp hi _ A4 c4 d r hr4 hw).mono ?_
      rintro e w' ⟨rfl, hb⟩
      exact ⟨_, _, _, _, rfl, wkR_path h1 d r, hb⟩
  by_cases hn1 : n = 1
  · have hfp : 1 ≤ fs.length := by have := List.length_pos_iff.2 hw; omega
    rcases fs with _ | ⟨d, r⟩
    · simp at hfp
    · have ho := asc_one (pair_filter hs _) (fr := fr) (show ∀ p ∈ winF fr (fr + (n : Int)) ps, fr ≤ p ∧ p < fr + 1 from fun p hp => by have := winF_mem hp; rw [hn1] at this; exact this)
      refine (rwalk_one fr n hn1 ps A2 c2 w hf0 hf1 hp hi _ A3 c3 d r hr3 hw).mono ?_
      rintro e w' ⟨rfl, hb⟩
      refine ⟨_, _, _, _, rfl, ?_, hb⟩
      rw [hn1] at hw ho ⊢
      exact wkR_one d r hw ho
  have h2 : 2 ≤ n := by omega
  have hlt := hf_lt h2
  have hpz := hf_pos n
  have hXl := winF_len fr (fr + (n : Int)) ps
  have hXs : (winF fr (fr + (n : Int)) ps).Pairwise (· < ·) := pair_filter hs _
  have hcut := filter_cut (fr + hf n) (winF fr (fr + (n : Int)) ps)
  have wlo := winF_lo fr (hf n) n ps
  have whi := winF_hi fr (hf n) n (by omega) ps
  have hb := (Below.refl w.heap.size w).alloc (Nat.le_refl _) (.cells (wkc dz 0 0 false).toArray 86)
  have HK := Lib.hid (Blk.new w 86 (wkc dz 0 0 false))
  have HB := Lib.hid hb
  have HWI := Lib.hid (fun W (h : RdI W A2 ps) => rwithin_row A2 c2 ps fr (fr + (n : Int)) W h hp)
  have HI := Lib.hid (hi.below hb)
  have HW := Lib.hid (show IntKind.i64.wrap (fr + (n : Int)) = fr + (n : Int) from IntWalk.i64_in _ (by omega))
  obtain ⟨X, hX⟩ : ∃ X, winF fr (fr + (n : Int)) ps = X := ⟨_, rfl⟩
  rw [hX] at HWI hw hXl hXs hfl hcut wlo whi
  rw [hX]
  have c1 := fun (w' : World) (A2' : Option Addr) (c2' : Nat) (hg' : RTab w') (hi' : RdI w' A2' X) (h3 : RdD w' A3 fs) (h4 : RdD w' A4 path) => ih fr (hf n) X fs path A2' c2' A3 c3 A4 c4 w' (by omega) (by omega) (by omega) hf0 (by omega) (by omega) hXs (by rw [wlo]; omega) hc3 hl3 hc4 hl4 hg' hi' h3 h4
  rw [wlo] at c1
  have HLESS := Lib.hid (fun (d : Dg) (f q : Int) (h : WkR fr (hf n) (X.filter (· < fr + hf n)) fs path d f q false) => wkR_less h2 hw h dz 0 0)
  have HBOTH := Lib.hid (fun (d1 d2 : Dg) (f2 q2 : Int) (b2 : Bool) (a1 : Nat) h1' ha hb' => wkR_both (fr := fr) (n := n) (ps := X) (fs := fs) (path := path) (d1 := d1) (d2 := d2) (f2 := f2) (q2 := q2) (b2 := b2) (a1 := a1) h2 hw h1' ha hb' (by omega) hl4)
  have c2 := fun (w' : World) (A2' : Option Addr) (c2' : Nat) (A3' : Option Addr) (A4' : Option Addr) (a1 : Nat) (ha : a1 ≤ path.length) (hg' : RTab w') (hi' : RdI w' A2' X) (h3 : RdD w' A3' (fs.drop (X.filter (· < fr + hf n)).length)) (h4 : RdD w' A4' (path.drop a1)) => ih (fr + (hf n : Int)) (n - hf n) X (fs.drop (X.filter (· < fr + hf n)).length) (path.drop a1) A2' c2' A3' (c3 - (X.filter (· < fr + hf n)).length) A4' (c4 - a1) w' (by omega) (by omega) (by omega) (by omega) (by omega) (by omega) hXs (by rw [whi, List.length_drop]; omega) (by rw [List.length_drop]; omega) (by rw [List.length_drop]; omega) (by rw [List.length_drop]; omega) (by rw [List.length_drop]; omega) hg' hi' h3 h4
  rw [whi] at c2
  simp only [List.length_drop] at c2
  have HP := Lib.hid (fun w' => split_any n w' h2 hn)
  obtain ⟨h, hh⟩ : ∃ h, hf n = h := ⟨_, rfl⟩
  rw [hh] at c1 c2 hlt hpz hcut HP HLESS HBOTH
  obtain ⟨f1, hf1'⟩ : ∃ f1, (X.filter (· < fr + (h : Int))).length = f1 := ⟨_, rfl⟩
  rw [hf1'] at c2 hcut HBOTH
  have HF1 := Lib.hid hf1'
  have hf1l : f1 ≤ fs.length := by omega
  obtain ⟨A3', hs3, hd3⟩ := run_loD2 A3 fs.length c3 f1 hf1l hc3
  have hxp := List.length_pos_iff.2 hw
  have dx : ((X.length : Int) == 0) = false := by rw [beq_eq_false_iff_ne]; omega
  have dx' : (X.length == 0) = false := by rw [beq_eq_false_iff_ne]; omega
  have dn1 : ((n : Int) == 1) = false := by rw [beq_eq_false_iff_ne]; omega
  have dn1' : (n == 1) = false := by rw [beq_eq_false_iff_ne]; omega
  have HWF := Lib.hid (show IntKind.i64.wrap (fr + (h : Int)) = fr + (h : Int) from IntWalk.i64_in _ (by omega))
  have HWS := Lib.hid (show IntKind.i64.wrap ((n : Int) - (h : Int)) = ((n - h : Nat) : Int) by rw [IntWalk.i64_in _ (by omega)]; omega)
  have HG := Lib.hid (hg.next hb)
  have HR3 := Lib.hid (hr3.below hb)
  have HR4 := Lib.hid (hr4.below hb)
  have HC1 := Lib.hid c1
  have HC2 := Lib.hid c2
  have HS3 := Lib.hid hs3
  have HD3 := Lib.hid hd3
  have HL4 := Lib.hid hc4
  clear c1 c2 hs3 hd3 hg hi hr3 hr4 ih hX hw hh hf1' hb hXl hXs hfl hcut wlo whi hp hs hc3 hl3 hc4 hl4 hxp hk h1 hn1
  go_enter Tryd.func50, Tryd.ntmps50
  go_wp2_with (refine wpList_alloc_zero rfl 86 rfl (wkc dz 0 0 false) wk_zero ?_; generalize w.alloc (.cells (wkc dz 0 0 false).toArray 86) = w1 at HK HB HI HG HR3 HR4 ⊢)
  try rw [HW.out]
  refine (HWI.out _ HI.out).mono ?_
  rintro e w2 ⟨v1, rfl, hO, hb1⟩
  obtain ⟨A1, k1, rfl, hI, -⟩ := newI_of_row hO
  replace HK := Lib.hid (HK.out.next hb1)
  replace HB := Lib.hid (HB.out.trans (hb1.mono HB.out.size))
  have HI1 := Lib.hid hI
  replace HG := Lib.hid (HG.out.next hb1)
  replace HR3 := Lib.hid (HR3.out.below hb1)
  replace HR4 := Lib.hid (HR4.out.below hb1)
  clear hO hb1 hI HWI HI
  go_wp2_with fail
  refine (HP.out _).mono ?_
  rintro e w2 ⟨rfl, rfl⟩
  go_wp2_with fail
  refine (HC1.out _ A1 k1 HG.out HI1.out HR3.out HR4.out).mono ?_
  rintro e w3 ⟨d1, g1, q1, b1, rfl, hW1, hb⟩
  have HW1 := Lib.hid hW1
  replace HK := Lib.hid (HK.out.next hb)
  replace HB := Lib.hid (HB.out.trans (hb.mono HB.out.size))
  replace HG := Lib.hid (HG.out.next hb)
  replace HI1 := Lib.hid (HI1.out.below hb)
  replace HR3 := Lib.hid (HR3.out.below hb)
  replace HR4 := Lib.hid (HR4.out.below hb)
  clear hb hW1 HC1
  cases b1
  case false =>
    have HZ := Lib.hid (HLESS.out d1 g1 q1 HW1.out)
    go_wp2_with (first | (refine wpList_var rfl rfl 86 13 rfl rfl rfl (.tmp 45) rfl (wkc dz 0 0 false) (wkc d1 g1 q1 false) wk_zero rfl rfl (wk_fit _ _ _ _ _ _ _ _) (wk_size' _ _ _ _) (wkc_one _ _ _ _) ?_; intro w4 K13 D; replace HK := Lib.hid (HK.out.next D.out); replace HB := Lib.hid (HB.out.trans (D.out.mono HB.out.size)); replace HG := Lib.hid (HG.out.next D.out); replace HI1 := Lib.hid (HI1.out.below D.out); replace HR3 := Lib.hid (HR3.out.below D.out); replace HR4 := Lib.hid (HR4.out.below D.out); have h18 := (wk_cell K13.out).2.2; clear D) | (refine wpList_run 49 rfl rfl _ (exec_build0 _ rfl _ (run_wk0 _)) ?_) | (refine wpList_store_all rfl _ (.tmp 10) (.tmp 49) rfl w.heap.size _ (wkc dz 0 0 false) (wkc dz 0 0 false) rfl rfl HK.out (wk_fit _ _ _ _ _ _ _ _) (wk_size' _ _ _ _) (wkc_one _ _ _ _) ?_; intro w3 HB3 ho3))
    exact bodyPost_ret (results_blk rfl _ _ w.heap.size _ (wkc dz 0 0 false) _ rfl HB3.out Tryd.underlying86 rfl (wk_size' _ _ _ _)) rfl ⟨_, _, _, _, rfl, HZ.out, HB.out.trans (ho3.below (Nat.le_refl _))⟩
  case true =>
    obtain ⟨hb1', hbt⟩ := HW1.out
    obtain ⟨a1, hw1, rfl, hg1⟩ := hbt rfl
    have ha1 : a1 ≤ path.length := by have := of_decide_eq_true hb1'.symm; rw [hw1] at this; exact this
    rw [HF1.out] at hg1
    subst hg1
    obtain ⟨A4', hs4, hd4⟩ := run_loD2 A4 path.length c4 a1 ha1 HL4.out
    have HS4 := Lib.hid hs4
    have HD4 := Lib.hid hd4
    have HBO := Lib.hid (fun d2 f2 q2 b2 => HBOTH.out d1 d2 f2 q2 b2 a1 hw1 ha1)
    have HA1 := Lib.hid ha1
    clear hb1' hbt hw1 ha1 hs4 hd4 HW1 HBOTH HLESS
    have HZ13 := Lib.hid HK.out.lt
    go_wp2_with (refine wpList_var rfl rfl 86 13 rfl rfl rfl (.tmp 45) rfl (wkc dz 0 0 false) (wkc d1 (f1 : Int) (a1 : Int) true) wk_zero rfl rfl (wk_fit _ _ _ _ _ _ _ _) (wk_size' _ _ _ _) (wkc_one _ _ _ _) ?_; intro w4 K13 D; replace HK := Lib.hid (HK.out.next D.out); replace HB := Lib.hid (HB.out.trans (D.out.mono HB.out.size)); replace HG := Lib.hid (HG.out.next D.out); replace HI1 := Lib.hid (HI1.out.below D.out); replace HR3 := Lib.hid (HR3.out.below D.out); replace HR4 := Lib.hid (HR4.out.below D.out); have h18 := (wk_cell K13.out).2.2; clear D)
    clear h18
    have HZ4 := Lib.hid HK.out.lt
    refine wp_region_held_drew (S := fun W => Below w4.heap.size w4 W) (by kernel_rfl) (Below.refl _ _).drew (fun hS => ?_)
    generalize w4.drew = x0 at hS ⊢
    refine reg_takeG (i := 0) (some 50) rfl rfl rfl (by kernel_rfl) (by kernel_rfl) (by kernel_rfl) (.int .i64 fr) (fun _ _ _ h => h) (fun W hW => exec_move (.tmp 0) rfl _ rfl) hS ?_
    go_frame
    refine reg_takeG (i := 1) (some 51) rfl rfl rfl (by kernel_rfl) (by kernel_rfl) (by kernel_rfl) (.int .i64 h) (fun _ _ _ h => h) (fun W hW => exec_move (.tmp 12) rfl _ rfl) hS ?_
    go_frame
    refine reg_takeG (i := 2) (some 52) rfl rfl rfl (by kernel_rfl) (by kernel_rfl) (by kernel_rfl) (.int .i64 (fr + (h : Int))) (fun _ _ _ h => h) (fun W hW => exec_addI _ (.tmp 50) (.tmp 51) _ rfl _ _ _ rfl rfl HWF.out) hS ?_
    go_frame
    refine reg_takeG (i := 3) (some 53) rfl rfl rfl (by kernel_rfl) (by kernel_rfl) (by kernel_rfl) (.int .i64 n) (fun _ _ _ h => h) (fun W hW => exec_move (.tmp 1) rfl _ rfl) hS ?_
    go_frame
    refine reg_takeG (i := 4) (some 54) rfl rfl rfl (by kernel_rfl) (by kernel_rfl) (by kernel_rfl) (.int .i64 h) (fun _ _ _ h => h) (fun W hW => exec_move (.tmp 12) rfl _ rfl) hS ?_
    go_frame
    refine reg_takeG (i := 5) (some 55) rfl rfl rfl (by kernel_rfl) (by kernel_rfl) (by kernel_rfl) (.int .i64 ((n - h : Nat) : Int)) (fun _ _ _ h => h) (fun W hW => exec_subI _ (.tmp 53) (.tmp 54) _ rfl _ _ _ rfl rfl HWS.out) hS ?_
    go_frame
    refine reg_takeG (i := 6) (some 56) rfl rfl rfl (by kernel_rfl) (by kernel_rfl) (by kernel_rfl) (.slice A1 X.length k1) (fun _ _ _ h => h) (fun W hW => exec_move (.tmp 11) rfl _ rfl) hS ?_
    go_frame
    refine reg_takeG (i := 7) (some 57) rfl rfl rfl (by kernel_rfl) (by kernel_rfl) (by kernel_rfl) (.slice A3 fs.length c3) (fun _ _ _ h => h) (fun W hW => exec_move (.tmp 3) rfl _ rfl) hS ?_
    go_frame
    refine reg_takeG (i := 8) (some 58) rfl rfl rfl (by kernel_rfl) (by kernel_rfl) (by kernel_rfl) (.pointer (some ⟨w3.heap.size, 16, none⟩)) (fun _ _ _ h => h) (fun W hW => exec_fieldAddr _ (.tmp 13) 1 rfl _ _ rfl (wk_field1 _ W)) hS ?_
    go_frame
    refine reg_takeG (i := 9) (some 59) rfl rfl rfl (by kernel_rfl) (by kernel_rfl) (by kernel_rfl) (.int .i64 (f1 : Int)) (fun _ _ _ h => h) (fun W hW => exec_loadW 3 int_flat (.tmp 58) rfl rfl (wk_cell (K13.out.next hW)).1) hS ?_
    go_frame
    refine reg_takeG (i := 10) (some 60) rfl rfl rfl (by kernel_rfl) (by kernel_rfl) (by kernel_rfl) (.slice A3' (fs.length - f1 : Nat) (c3 - f1 : Nat)) (fun _ _ _ h => h) (fun W hW => exec_loD2 (.tmp 57) (.tmp 59) rfl A3 A3' fs.length c3 f1 _ _ HS3.out rfl rfl) hS ?_
    go_frame
    refine reg_takeG (i := 11) (some 61) rfl rfl rfl (by kernel_rfl) (by kernel_rfl) (by kernel_rfl) (.slice A4 path.length c4) (fun _ _ _ h => h) (fun W hW => exec_move (.tmp 4) rfl _ rfl) hS ?_
    go_frame
    refine reg_takeG (i := 12) (some 62) rfl rfl rfl (by kernel_rfl) (by kernel_rfl) (by kernel_rfl) (.pointer (some ⟨w3.heap.size, 17, none⟩)) (fun _ _ _ h => h) (fun W hW => exec_fieldAddr _ (.tmp 13) 2 rfl _ _ rfl (wk_field2 _ W)) hS ?_
    go_frame
    refine reg_takeG (i := 13) (some 63) rfl rfl rfl (by kernel_rfl) (by kernel_rfl) (by kernel_rfl) (.int .i64 (a1 : Int)) (fun _ _ _ h => h) (fun W hW => exec_loadW 3 int_flat (.tmp 62) rfl rfl (wk_cell (K13.out.next hW)).2.1) hS ?_
    go_frame
    refine reg_takeG (i := 14) (some 64) rfl rfl rfl (by kernel_rfl) (by kernel_rfl) (by kernel_rfl) (.slice A4' (path.length - a1 : Nat) (c4 - a1 : Nat)) (fun _ _ _ h => h) (fun W hW => exec_loD2 (.tmp 61) (.tmp 63) rfl A4 A4' path.length c4 a1 _ _ HS4.out rfl rfl) hS ?_
    go_frame
    refine reg_twoG (i := 15) (k := 16) rfl rfl rfl rfl (by kernel_rfl) ?_ ?_
    · refine opG_call (some 65) rfl rfl Tryd.func50 (by kernel_rfl) (by kernel_rfl) #[.int .i64 (fr + (h : Int)), .int .i64 ((n - h : Nat) : Int), .slice A1 X.length k1, .slice A3' (fs.length - f1 : Nat) (c3 - f1 : Nat), .slice A4' (path.length - a1 : Nat) (c4 - a1 : Nat)] rfl (HC2.out x0 A1 k1 A3' A4' a1 HA1.out (HG.out.next hS) (HI1.out.below hS) (HD3.out _ _ rfl (HR3.out.below hS)) (HD4.out _ _ rfl (HR4.out.below hS))) ?_
      rintro e x1 ⟨d2, f2, q2, b2, rfl, hW2, hb⟩
      have hz := hS.size
      replace hS := hS.trans (hb.mono hz)
      refine ⟨_, rfl, hS, ?_⟩
      go_frame
      clear hb hz
      have hQ := Blk.new x1 86 (wkc dz 0 0 false)
      have hal := (Below.refl x1.heap.size x1).alloc (Nat.le_refl _) (.cells (wkc dz 0 0 false).toArray 86)
      have hS2 := hS.trans (hal.mono hS.size)
      have hz2 : w4.heap.size ≤ x1.heap.size := hS.size
      refine reg_allocG (i := 16) (some 14) rfl rfl rfl (by kernel_rfl) 86 rfl (wkc dz 0 0 false) wk_zero ⟨hS2, ?_⟩
      go_frame
      clear hal
      generalize x1.alloc (.cells (wkc dz 0 0 false).toArray 86) = x2 at hQ hS2 ⊢
      refine reg_store_all (i := 17) rfl rfl rfl (by kernel_rfl) 86 (.tmp 14) (.tmp 65) rfl x1.heap.size 86 (wkc dz 0 0 false) (wkc d2 f2 q2 b2) rfl rfl hQ (wk_fit _ _ _ _ _ _ _ _) (wk_size' _ _ _ _) (wkc_one _ _ _ _) ?_
      intro x3 hk3 ho3
      have hS3 := hS2.trans (ho3.below (B := w4.heap.size) hz2)
      refine ⟨hS3, ?_⟩
      go_frame
      refine wpAnyH_done (by kernel_rfl) ?_ _
      have K14 := Lib.hid hk3
      have HW2 := Lib.hid hW2
      replace K13 := Lib.hid (K13.out.next hS3)
      replace HK := Lib.hid (HK.out.next hS3)
      replace HG := Lib.hid (HG.out.next hS3)
      replace HB := Lib.hid (HB.out.trans (hS3.mono HB.out.size))
      have HZ14 := Lib.hid (Nat.lt_of_lt_of_le HZ4.out hz2)
      clear hk3 ho3 hS3 hS2 hS hQ hz2 hW2
      go_wp2_with fail
      refine wp_region_held_drew (S := fun W => Blk W w3.heap.size 86 (wkc d1 (f1 : Int) (a1 : Int) true) ∧ Blk W x1.heap.size 86 (wkc d2 f2 q2 b2)) (by kernel_rfl) ⟨K13.out, K14.out⟩ (fun hS => ?_)
      have hD := (Below.refl x3.heap.size x3).drew
      generalize x3.drew = y0 at hS hD ⊢
      refine reg_takeG (i := 0) (some 66) rfl rfl rfl (by kernel_rfl) (by kernel_rfl) (by kernel_rfl) (.pointer (some ⟨w3.heap.size, 0, none⟩)) (fun _ _ _ h => h) (fun W hW => exec_fieldAddr _ (.tmp 13) 0 rfl _ _ rfl (wk_field0 _ W)) hS ?_
      go_frame
      refine reg_takeG (i := 1) (some 67) rfl rfl rfl (by kernel_rfl) (by kernel_rfl) (by kernel_rfl) (dv d1) (fun _ _ _ h => h) (fun W hW => exec_loadD (.tmp 66) rfl _ _ d1 rfl (wk_range hW.1)) hS ?_
      go_frame
      refine reg_takeG (i := 2) (some 68) rfl rfl rfl (by kernel_rfl) (by kernel_rfl) (by kernel_rfl) (.pointer (some ⟨x1.heap.size, 0, none⟩)) (fun _ _ _ h => h) (fun W hW => exec_fieldAddr _ (.tmp 14) 0 rfl _ _ rfl (wk_field0 _ W)) hS ?_
      go_frame
      refine reg_takeG (i := 3) (some 69) rfl rfl rfl (by kernel_rfl) (by kernel_rfl) (by kernel_rfl) (dv d2) (fun _ _ _ h => h) (fun W hW => exec_loadD (.tmp 68) rfl _ _ d2 rfl (wk_range hW.2)) hS ?_
      go_frame
      refine reg_takeG (i := 5) (some 71) rfl rfl rfl (by kernel_rfl) (by kernel_rfl) (by kernel_rfl) (.pointer (some ⟨w3.heap.size, 16, none⟩)) (fun _ _ _ h => h) (fun W hW => exec_fieldAddr _ (.tmp 13) 1 rfl _ _ rfl (wk_field1 _ W)) hS ?_
      go_frame
      refine reg_takeG (i := 6) (some 72) rfl rfl rfl (by kernel_rfl) (by kernel_rfl) (by kernel_rfl) (.int .i64 (f1 : Int)) (fun _ _ _ h => h) (fun W hW => exec_loadW 3 int_flat (.tmp 71) rfl rfl (wk_cell hW.1).1) hS ?_
      go_frame
      refine reg_takeG (i := 7) (some 73) rfl rfl rfl (by kernel_rfl) (by kernel_rfl) (by kernel_rfl) (.pointer (some ⟨x1.heap.size, 16, none⟩)) (fun _ _ _ h => h) (fun W hW => exec_fieldAddr _ (.tmp 14) 1 rfl _ _ rfl (wk_field1 _ W)) hS ?_
      go_frame
      refine reg_takeG (i := 8) (some 74) rfl rfl rfl (by kernel_rfl) (by kernel_rfl) (by kernel_rfl) (.int .i64 f2) (fun _ _ _ h => h) (fun W hW => exec_loadW 3 int_flat (.tmp 73) rfl rfl (wk_cell hW.2).1) hS ?_
      go_frame
      refine reg_takeG (i := 9) (some 75) rfl rfl rfl (by kernel_rfl) (by kernel_rfl) (by kernel_rfl) (.int .i64 (IntKind.i64.wrap ((f1 : Int) + f2))) (fun _ _ _ h => h) (fun W hW => exec_addI _ (.tmp 72) (.tmp 74) _ rfl _ _ _ rfl rfl rfl) hS ?_
      go_frame
      refine reg_takeG (i := 10) (some 76) rfl rfl rfl (by kernel_rfl) (by kernel_rfl) (by kernel_rfl) (.pointer (some ⟨w3.heap.size, 17, none⟩)) (fun _ _ _ h => h) (fun W hW => exec_fieldAddr _ (.tmp 13) 2 rfl _ _ rfl (wk_field2 _ W)) hS ?_
      go_frame
      refine reg_takeG (i := 11) (some 77) rfl rfl rfl (by kernel_rfl) (by kernel_rfl) (by kernel_rfl) (.int .i64 (a1 : Int)) (fun _ _ _ h => h) (fun W hW => exec_loadW 3 int_flat (.tmp 76) rfl rfl (wk_cell hW.1).2.1) hS ?_
      go_frame
      refine reg_takeG (i := 12) (some 78) rfl rfl rfl (by kernel_rfl) (by kernel_rfl) (by kernel_rfl) (.pointer (some ⟨x1.heap.size, 17, none⟩)) (fun _ _ _ h => h) (fun W hW => exec_fieldAddr _ (.tmp 14) 2 rfl _ _ rfl (wk_field2 _ W)) hS ?_
      go_frame
      refine reg_takeG (i := 13) (some 79) rfl rfl rfl (by kernel_rfl) (by kernel_rfl) (by kernel_rfl) (.int .i64 q2) (fun _ _ _ h => h) (fun W hW => exec_loadW 3 int_flat (.tmp 78) rfl rfl (wk_cell hW.2).2.1) hS ?_
      go_frame
      refine reg_takeG (i := 14) (some 80) rfl rfl rfl (by kernel_rfl) (by kernel_rfl) (by kernel_rfl) (.int .i64 (IntKind.i64.wrap ((a1 : Int) + q2))) (fun _ _ _ h => h) (fun W hW => exec_addI _ (.tmp 77) (.tmp 79) _ rfl _ _ _ rfl rfl rfl) hS ?_
      go_frame
      refine reg_takeG (i := 15) (some 81) rfl rfl rfl (by kernel_rfl) (by kernel_rfl) (by kernel_rfl) (.pointer (some ⟨x1.heap.size, 18, none⟩)) (fun _ _ _ h => h) (fun W hW => exec_fieldAddr _ (.tmp 14) 3 rfl _ _ rfl (wk_field3 _ W)) hS ?_
      go_frame
      refine reg_takeG (i := 16) (some 82) rfl rfl rfl (by kernel_rfl) (by kernel_rfl) (by kernel_rfl) (.bool b2) (fun _ _ _ h => h) (fun W hW => exec_loadW 4 bool_flat (.tmp 81) rfl rfl (wk_cell hW.2).2.2) hS ?_
      go_frame
      refine reg_callG (i := 4) (some 70) rfl rfl rfl (by kernel_rfl) rfl Tryd.func20 (by kernel_rfl) (by kernel_rfl) #[dv d1, dv d2] rfl (rnode_any d1 d2 y0 (HG.out.next hD)) ?_
      rintro e y1 ⟨rfl, hb⟩
      obtain ⟨nd, hnd⟩ : ∃ d, nodeD d1 d2 = d := ⟨_, rfl⟩
      rw [hnd]
      have HN := Lib.hid hnd
      have hS1 := And.intro (hS.1.next hb) (hS.2.next hb)
      have hD1 := hD.trans (hb.mono hD.size)
      refine ⟨_, rfl, hS1, ?_⟩
      go_frame
      clear hb hnd
      refine reg_valueG (i := 17) (some 83) rfl rfl rfl (by kernel_rfl) (.agg (wkc nd (IntKind.i64.wrap ((f1 : Int) + f2)) (IntKind.i64.wrap ((a1 : Int) + q2)) b2).toArray) (exec_buildL _ _ rfl [(0, dv nd), (1, .int .i64 (IntKind.i64.wrap ((f1 : Int) + f2))), (2, .int .i64 (IntKind.i64.wrap ((a1 : Int) + q2))), (3, .bool b2)] rfl _ (run_wk4 _ _ _ _ _)) hS1 ?_
      go_frame
      refine reg_store_all (i := 18) rfl rfl rfl (by kernel_rfl) 86 (.tmp 10) (.tmp 83) rfl w.heap.size 86 (wkc dz 0 0 false) (wkc nd (IntKind.i64.wrap ((f1 : Int) + f2)) (IntKind.i64.wrap ((a1 : Int) + q2)) b2) rfl rfl (HK.out.next hD1) (wk_fit _ _ _ _ _ _ _ _) (wk_size' _ _ _ _) (wkc_one _ _ _ _) ?_
      intro y2 hk2 ho2
      have hB2 := (HB.out.trans (hD1.mono HB.out.size)).trans (ho2.below (Nat.le_refl _))
      refine ⟨⟨ho2.blk hS1.1 (by have := HZ13.out; omega), ho2.blk hS1.2 (by have := HZ14.out; omega)⟩, wpAnyH_done (by kernel_rfl) ?_ _⟩
      go_frame
      have HB3 := Lib.hid hk2
      have HF := Lib.hid hB2
      clear hk2 ho2 hB2 hS1 hS hD hD1
      go_wp2
      exact bodyPost_ret (results_blk rfl _ _ w.heap.size _ _ _ rfl HB3.out Tryd.underlying86 rfl (wk_size' _ _ _ _)) rfl ⟨nd, _, _, b2, rfl, by rw [← HN.out]; exact HBO.out d2 f2 q2 b2 HW2.out, HF.out⟩
    · refine opG_alloc (some 14) rfl 86 rfl (wkc dz 0 0 false) wk_zero ?_
      have hQ1 := Blk.new x0 86 (wkc dz 0 0 false)
      have hal := (Below.refl x0.heap.size x0).alloc (Nat.le_refl _) (.cells (wkc dz 0 0 false).toArray 86)
      have hS1 := hS.trans (hal.mono hS.size)
      have hz2 : w4.heap.size ≤ x0.heap.size := hS.size
      clear hal
      generalize x0.alloc (.cells (wkc dz 0 0 false).toArray 86) = x1 at hQ1 hS1 ⊢
      refine ⟨hS1, ?_⟩
      go_frame
      refine reg_callG (i := 15) (some 65) rfl rfl rfl (by kernel_rfl) rfl Tryd.func50 (by kernel_rfl) (by kernel_rfl) #[.int .i64 (fr + (h : Int)), .int .i64 ((n - h : Nat) : Int), .slice A1 X.length k1, .slice A3' (fs.length - f1 : Nat) (c3 - f1 : Nat), .slice A4' (path.length - a1 : Nat) (c4 - a1 : Nat)] rfl (HC2.out x1 A1 k1 A3' A4' a1 HA1.out (HG.out.next hS1) (HI1.out.below hS1) (HD3.out _ _ rfl (HR3.out.below hS1)) (HD4.out _ _ rfl (HR4.out.below hS1))) ?_
      rintro e x2 ⟨d2, f2, q2, b2, rfl, hW2, hb⟩
      have hS2 := hS1.trans (hb.mono hS1.size)
      have hQ := hQ1.next hb
      refine ⟨_, rfl, hS2, ?_⟩
      go_frame
      clear hb hS1 hQ1
      refine reg_store_all (i := 17) rfl rfl rfl (by kernel_rfl) 86 (.tmp 14) (.tmp 65) rfl x0.heap.size 86 (wkc dz 0 0 false) (wkc d2 f2 q2 b2) rfl rfl hQ (wk_fit _ _ _ _ _ _ _ _) (wk_size' _ _ _ _) (wkc_one _ _ _ _) ?_
      intro x3 hk3 ho3
      have hS3 := hS2.trans (ho3.below (B := w4.heap.size) hz2)
      refine ⟨hS3, ?_⟩
      go_frame
      refine wpAnyH_done (by kernel_rfl) ?_ _
      have K14 := Lib.hid hk3
      have HW2 := Lib.hid hW2
      replace K13 := Lib.hid (K13.out.next hS3)
      replace HK := Lib.hid (HK.out.next hS3)
      replace HG := Lib.hid (HG.out.next hS3)
      replace HB := Lib.hid (HB.out.trans (hS3.mono HB.out.size))
      have HZ14 := Lib.hid (Nat.lt_of_lt_of_le HZ4.out hz2)
      clear hk3 ho3 hS3 hS2 hS hQ hz2 hW2
      go_wp2_with fail
      refine wp_region_held_drew (S := fun W => Blk W w3.heap.size 86 (wkc d1 (f1 : Int) (a1 : Int) true) ∧ Blk W x0.heap.size 86 (wkc d2 f2 q2 b2)) (by kernel_rfl) ⟨K13.out, K14.out⟩ (fun hS => ?_)
      have hD := (Below.refl x3.heap.size x3).drew
      generalize x3.drew = y0 at hS hD ⊢
      refine reg_takeG (i := 0) (some 66) rfl rfl rfl (by kernel_rfl) (by kernel_rfl) (by kernel_rfl) (.pointer (some ⟨w3.heap.size, 0, none⟩)) (fun _ _ _ h => h) (fun W hW => exec_fieldAddr _ (.tmp 13) 0 rfl _ _ rfl (wk_field0 _ W)) hS ?_
      go_frame
      refine reg_takeG (i := 1) (some 67) rfl rfl rfl (by kernel_rfl) (by kernel_rfl) (by kernel_rfl) (dv d1) (fun _ _ _ h => h) (fun W hW => exec_loadD (.tmp 66) rfl _ _ d1 rfl (wk_range hW.1)) hS ?_
      go_frame
      refine reg_takeG (i := 2) (some 68) rfl rfl rfl (by kernel_rfl) (by kernel_rfl) (by kernel_rfl) (.pointer (some ⟨x0.heap.size, 0, none⟩)) (fun _ _ _ h => h) (fun W hW => exec_fieldAddr _ (.tmp 14) 0 rfl _ _ rfl (wk_field0 _ W)) hS ?_
      go_frame
      refine reg_takeG (i := 3) (some 69) rfl rfl rfl (by kernel_rfl) (by kernel_rfl) (by kernel_rfl) (dv d2) (fun _ _ _ h => h) (fun W hW => exec_loadD (.tmp 68) rfl _ _ d2 rfl (wk_range hW.2)) hS ?_
      go_frame
      refine reg_takeG (i := 5) (some 71) rfl rfl rfl (by kernel_rfl) (by kernel_rfl) (by kernel_rfl) (.pointer (some ⟨w3.heap.size, 16, none⟩)) (fun _ _ _ h => h) (fun W hW => exec_fieldAddr _ (.tmp 13) 1 rfl _ _ rfl (wk_field1 _ W)) hS ?_
      go_frame
      refine reg_takeG (i := 6) (some 72) rfl rfl rfl (by kernel_rfl) (by kernel_rfl) (by kernel_rfl) (.int .i64 (f1 : Int)) (fun _ _ _ h => h) (fun W hW => exec_loadW 3 int_flat (.tmp 71) rfl rfl (wk_cell hW.1).1) hS ?_
      go_frame
      refine reg_takeG (i := 7) (some 73) rfl rfl rfl (by kernel_rfl) (by kernel_rfl) (by kernel_rfl) (.pointer (some ⟨x0.heap.size, 16, none⟩)) (fun _ _ _ h => h) (fun W hW => exec_fieldAddr _ (.tmp 14) 1 rfl _ _ rfl (wk_field1 _ W)) hS ?_
      go_frame
      refine reg_takeG (i := 8) (some 74) rfl rfl rfl (by kernel_rfl) (by kernel_rfl) (by kernel_rfl) (.int .i64 f2) (fun _ _ _ h => h) (fun W hW => exec_loadW 3 int_flat (.tmp 73) rfl rfl (wk_cell hW.2).1) hS ?_
      go_frame
      refine reg_takeG (i := 9) (some 75) rfl rfl rfl (by kernel_rfl) (by kernel_rfl) (by kernel_rfl) (.int .i64 (IntKind.i64.wrap ((f1 : Int) + f2))) (fun _ _ _ h => h) (fun W hW => exec_addI _ (.tmp 72) (.tmp 74) _ rfl _ _ _ rfl rfl rfl) hS ?_
      go_frame
      refine reg_takeG (i := 10) (some 76) rfl rfl rfl (by kernel_rfl) (by kernel_rfl) (by kernel_rfl) (.pointer (some ⟨w3.heap.size, 17, none⟩)) (fun _ _ _ h => h) (fun W hW => exec_fieldAddr _ (.tmp 13) 2 rfl _ _ rfl (wk_field2 _ W)) hS ?_
      go_frame
      refine reg_takeG (i := 11) (some 77) rfl rfl rfl (by kernel_rfl) (by kernel_rfl) (by kernel_rfl) (.int .i64 (a1 : Int)) (fun _ _ _ h => h) (fun W hW => exec_loadW 3 int_flat (.tmp 76) rfl rfl (wk_cell hW.1).2.1) hS ?_
      go_frame
      refine reg_takeG (i := 12) (some 78) rfl rfl rfl (by kernel_rfl) (by kernel_rfl) (by kernel_rfl) (.pointer (some ⟨x0.heap.size, 17, none⟩)) (fun _ _ _ h => h) (fun W hW => exec_fieldAddr _ (.tmp 14) 2 rfl _ _ rfl (wk_field2 _ W)) hS ?_
      go_frame
      refine reg_takeG (i := 13) (some 79) rfl rfl rfl (by kernel_rfl) (by kernel_rfl) (by kernel_rfl) (.int .i64 q2) (fun _ _ _ h => h) (fun W hW => exec_loadW 3 int_flat (.tmp 78) rfl rfl (wk_cell hW.2).2.1) hS ?_
      go_frame
      refine reg_takeG (i := 14) (some 80) rfl rfl rfl (by kernel_rfl) (by kernel_rfl) (by kernel_rfl) (.int .i64 (IntKind.i64.wrap ((a1 : Int) + q2))) (fun _ _ _ h => h) (fun W hW => exec_addI _ (.tmp 77) (.tmp 79) _ rfl _ _ _ rfl rfl rfl) hS ?_
      go_frame
      refine reg_takeG (i := 15) (some 81) rfl rfl rfl (by kernel_rfl) (by kernel_rfl) (by kernel_rfl) (.pointer (some ⟨x0.heap.size, 18, none⟩)) (fun _ _ _ h => h) (fun W hW => exec_fieldAddr _ (.tmp 14) 3 rfl _ _ rfl (wk_field3 _ W)) hS ?_
      go_frame
      refine reg_takeG (i := 16) (some 82) rfl rfl rfl (by kernel_rfl) (by kernel_rfl) (by kernel_rfl) (.bool b2) (fun _ _ _ h => h) (fun W hW => exec_loadW 4 bool_flat (.tmp 81) rfl rfl (wk_cell hW.2).2.2) hS ?_
      go_frame
      refine reg_callG (i := 4) (some 70) rfl rfl rfl (by kernel_rfl) rfl Tryd.func20 (by kernel_rfl) (by kernel_rfl) #[dv d1, dv d2] rfl (rnode_any d1 d2 y0 (HG.out.next hD)) ?_
      rintro e y1 ⟨rfl, hb⟩
      obtain ⟨nd, hnd⟩ : ∃ d, nodeD d1 d2 = d := ⟨_, rfl⟩
      rw [hnd]
      have HN := Lib.hid hnd
      have hS1 := And.intro (hS.1.next hb) (hS.2.next hb)
      have hD1 := hD.trans (hb.mono hD.size)
      refine ⟨_, rfl, hS1, ?_⟩
      go_frame
      clear hb hnd
      refine reg_valueG (i := 17) (some 83) rfl rfl rfl (by kernel_rfl) (.agg (wkc nd (IntKind.i64.wrap ((f1 : Int) + f2)) (IntKind.i64.wrap ((a1 : Int) + q2)) b2).toArray) (exec_buildL _ _ rfl [(0, dv nd), (1, .int .i64 (IntKind.i64.wrap ((f1 : Int) + f2))), (2, .int .i64 (IntKind.i64.wrap ((a1 : Int) + q2))), (3, .bool b2)] rfl _ (run_wk4 _ _ _ _ _)) hS1 ?_
      go_frame
      refine reg_store_all (i := 18) rfl rfl rfl (by kernel_rfl) 86 (.tmp 10) (.tmp 83) rfl w.heap.size 86 (wkc dz 0 0 false) (wkc nd (IntKind.i64.wrap ((f1 : Int) + f2)) (IntKind.i64.wrap ((a1 : Int) + q2)) b2) rfl rfl (HK.out.next hD1) (wk_fit _ _ _ _ _ _ _ _) (wk_size' _ _ _ _) (wkc_one _ _ _ _) ?_
      intro y2 hk2 ho2
      have hB2 := (HB.out.trans (hD1.mono HB.out.size)).trans (ho2.below (Nat.le_refl _))
      refine ⟨⟨ho2.blk hS1.1 (by have := HZ13.out; omega), ho2.blk hS1.2 (by have := HZ14.out; omega)⟩, wpAnyH_done (by kernel_rfl) ?_ _⟩
      go_frame
      have HB3 := Lib.hid hk2
      have HF := Lib.hid hB2
      clear hk2 ho2 hB2 hS1 hS hD hD1
      go_wp2
      exact bodyPost_ret (results_blk rfl _ _ w.heap.size _ _ _ rfl HB3.out Tryd.underlying86 rfl (wk_size' _ _ _ _)) rfl ⟨nd, _, _, b2, rfl, by rw [← HN.out]; exact HBO.out d2 f2 q2 b2 HW2.out, HF.out⟩
end Go.Proofs.YtfbemmeonkceiaaDoor

/- The reference's Many, and it with the program's. -/
namespace Go.Proofs.YtfbemmeonkceiaaDoor
open Go.RowKit Hm Wm

theorem rasc_b (A : Option Addr) (c : Nat) (ps : List Int) (n : Int) (w : World) (hr : RdI w A ps) (hn : ps.length ≤ 2 ^ 41) :
    Calls Tryd.prog 45 #[.slice A ps.length c, .int .i64 n] w fun e w' => e = .returned (.bool (ascF n (-1) ps)) ∧ Below w.heap.size w w' := by
  refine (rasc_any A c ps n w hr hn).mono ?_
  rintro e w' ⟨rfl, q, rfl⟩
  exact ⟨rfl, drewN_below (Below.refl _ _) q⟩

set_option maxRecDepth 100000 in
set_option maxHeartbeats 400000 in
theorem rmanyP_bad (l : List Dg) (A : Option Addr) (c : Nat) (ps : List Int) (A2 : Option Addr) (c2 : Nat) (w : World) (hi : RdI w A2 ps) (hp : ps.length ≤ 2 ^ 41) (h : ascF l.length (-1) ps = false) :
    Calls Tryd.prog 22 #[.slice A l.length c, .slice A2 ps.length c2] w fun e w' => e = .returned (.agg (pac (.slice none 0 0) 1).toArray) ∧ Below w.heap.size w w' := by
  have hb := (Below.refl w.heap.size w).alloc (Nat.le_refl _) (.cells (pac (.slice none 0 0) 0).toArray 28)
  have HK := Lib.hid (Blk.new w 28 (pac (.slice none 0 0) 0))
  have HB := Lib.hid hb
  have HI := Lib.hid (hi.below hb)
  have HA := Lib.hid (fun W (h : RdI W A2 ps) => rasc_b A2 c2 ps l.length W h hp)
  rw [h] at HA
  clear hb hi h
  go_enter Tryd.func22, Tryd.ntmps22
  go_wp2_with (refine wpList_alloc_zero rfl 28 rfl (pac (.slice none 0 0) 0) pa_zero ?_; generalize w.alloc (.cells (pac (.slice none 0 0) 0).toArray 28) = w1 at HK HB HI ⊢)
  refine (HA.out _ HI.out).mono ?_
  rintro e w2 ⟨rfl, hb2⟩
  replace HK := Lib.hid (HK.out.next hb2)
  replace HB := Lib.hid (HB.out.trans (hb2.mono HB.out.size))
  clear hb2 HA
  go_wp2_with (first | (refine wpList_run 12 rfl rfl _ (exec_build1 _ 1 (.const (.int .i64 1)) rfl _ _ rfl (run_pa_err 1 _)) ?_) | (refine wpList_store_all rfl _ (.tmp 4) (.tmp 12) rfl w.heap.size _ (pac (.slice none 0 0) 0) (pac (.slice none 0 0) 1) rfl rfl HK.out rfl pa_size (pac_one _ _ _ _) ?_; intro w3 HB3 ho3))
  exact bodyPost_ret (results_blk rfl _ _ w.heap.size _ (pac (.slice none 0 0) 1) _ rfl HB3.out Tryd.underlying28 rfl pa_size) rfl ⟨rfl, HB.out.trans (ho3.below (Nat.le_refl _))⟩

set_option maxRecDepth 100000 in
set_option maxHeartbeats 400000 in
theorem rmanyP_none (l : List Dg) (A : Option Addr) (c : Nat) (ps : List Int) (A2 : Option Addr) (c2 : Nat) (w : World) (hi : RdI w A2 ps) (hp : ps.length ≤ 2 ^ 41) (h : ascF l.length (-1) ps = true) (h0 : l.length = 0) :
    Calls Tryd.prog 22 #[.slice A l.length c, .slice A2 ps.length c2] w fun e w' => e = .returned (.agg (pac (.slice none 0 0) 0).toArray) ∧ Below w.heap.size w w' := by
  have hb := (Below.refl w.heap.size w).alloc (Nat.le_refl _) (.cells (pac (.slice none 0 0) 0).toArray 28)
  have HK := Lib.hid (Blk.new w 28 (pac (.slice none 0 0) 0))
  have HB := Lib.hid hb
  have HI := Lib.hid (hi.below hb)
  have HA := Lib.hid (fun W (h : RdI W A2 ps) => rasc_b A2 c2 ps l.length W h hp)
  rw [h] at HA
  have d0 : ((l.length : Int) == 0) = true := by rw [h0]; rfl
  have d0' : (l.length == 0) = true := by rw [h0]; rfl
  clear hb hi h h0
  go_enter Tryd.func22, Tryd.ntmps22
  go_wp2_with (refine wpList_alloc_zero rfl 28 rfl (pac (.slice none 0 0) 0) pa_zero ?_; generalize w.alloc (.cells (pac (.slice none 0 0) 0).toArray 28) = w1 at HK HB HI ⊢)
  refine (HA.out _ HI.out).mono ?_
  rintro e w2 ⟨rfl, hb2⟩
  replace HK := Lib.hid (HK.out.next hb2)
  replace HB := Lib.hid (HB.out.trans (hb2.mono HB.out.size))
  clear hb2 HA
  go_wp2_with (first | (refine wpList_run 16 rfl rfl _ (exec_build0 _ rfl _ (run_pa_0 _)) ?_) | (refine wpList_store_all rfl _ (.tmp 4) (.tmp 16) rfl w.heap.size _ (pac (.slice none 0 0) 0) (pac (.slice none 0 0) 0) rfl rfl HK.out rfl pa_size (pac_one _ _ _ _) ?_; intro w3 HB3 ho3))
  exact bodyPost_ret (results_blk rfl _ _ w.heap.size _ (pac (.slice none 0 0) 0) _ rfl HB3.out Tryd.underlying28 rfl pa_size) rfl ⟨rfl, HB.out.trans (ho3.below (Nat.le_refl _))⟩

set_option maxRecDepth 100000 in
set_option maxHeartbeats 400000 in
theorem rmanyP_any (l : List Dg) (A : Option Addr) (c : Nat) (ps : List Int) (A2 : Option Addr) (c2 : Nat) (w : World) (hi : RdI w A2 ps) (hp : ps.length ≤ 2 ^ 41) (h : ascF l.length (-1) ps = true) (h1 : 1 ≤ l.length) (hc : l.length ≤ c) (hn : l.length ≤ 1000) (hp2 : ps.length ≤ 1000) (hg : All w) (hr : RdD w A l) :
    Calls Tryd.prog 22 #[.slice A l.length c, .slice A2 ps.length c2] w fun e w' => ∃ v, e = .returned (.agg (pac v 0).toArray) ∧ NewD w' (manyD l 0 ps) v ∧ Below w.heap.size w w' := by
  have hb := (Below.refl w.heap.size w).alloc (Nat.le_refl _) (.cells (pac (.slice none 0 0) 0).toArray 28)
  have HK := Lib.hid (Blk.new w 28 (pac (.slice none 0 0) 0))
  have HB := Lib.hid hb
  have HI := Lib.hid (hi.below hb)
  have HA := Lib.hid (fun W (h : RdI W A2 ps) => rasc_b A2 c2 ps l.length W h hp)
  rw [h] at HA
  have d0 : ((l.length : Int) == 0) = false := by rw [beq_eq_false_iff_ne]; omega
  have d0' : (l.length == 0) = false := by rw [beq_eq_false_iff_ne]; omega
  have hwin : winF 0 (0 + (l.length : Int)) ps = ps := winF_all (fun p hp => by have := (ascF_sorted _ _ _ h).1 p hp; omega)
  have hC := fun W (h1' : All W) (h2 : RdD W A l) (h3 : RdI W A2 ps) => rmany_any l.length l 0 ps A c A2 c2 W (Nat.le_refl _) h1 hc hn hp2 (by omega) (by omega) h1'.2.2 h2 h3
  rw [hwin] at hC
  have HC := Lib.hid hC
  have HG := Lib.hid (hg.next hb)
  have HR := Lib.hid (hr.below hb)
  clear hb hi h h1 hwin hC hg hr
  go_enter Tryd.func22, Tryd.ntmps22
  go_wp2_with (refine wpList_alloc_zero rfl 28 rfl (pac (.slice none 0 0) 0) pa_zero ?_; generalize w.alloc (.cells (pac (.slice none 0 0) 0).toArray 28) = w1 at HK HB HI HG HR ⊢)
  refine (HA.out _ HI.out).mono ?_
  rintro e w2 ⟨rfl, hb2⟩
  replace HK := Lib.hid (HK.out.next hb2)
  replace HB := Lib.hid (HB.out.trans (hb2.mono HB.out.size))
  replace HG := Lib.hid (HG.out.next hb2)
  replace HR := Lib.hid (HR.out.below hb2)
  replace HI := Lib.hid (HI.out.below hb2)
  clear hb2 HA
  go_wp2_with fail
  refine (HC.out _ HG.out HR.out HI.out).mono ?_
  rintro e w4 ⟨r, rfl, hO, hb4⟩
  obtain ⟨A5, c5, rfl, h5, hc5⟩ := newD_of_row hO
  have HR5 := Lib.hid h5
  have HCC := Lib.hid hc5
  replace HK := Lib.hid (HK.out.next hb4)
  replace HB := Lib.hid (HB.out.trans (hb4.mono HB.out.size))
  clear hb4 h5 hc5 hO
  go_wp2_with (first | (refine wpList_run 20 rfl rfl _ (exec_build1 _ 0 (.tmp 19) rfl (.slice A5 (manyD l 0 ps).length c5) _ rfl (run_pa _ _ _ _)) ?_) | (refine wpList_store_all rfl _ (.tmp 4) (.tmp 20) rfl w.heap.size _ (pac (.slice none 0 0) 0) (pac (.slice A5 (manyD l 0 ps).length c5) 0) rfl rfl HK.out rfl pa_size (pac_one _ _ _ _) ?_; intro w3 HB3 ho3))
  exact bodyPost_ret (results_blk rfl _ _ w.heap.size _ (pac (.slice A5 (manyD l 0 ps).length c5) 0) _ rfl HB3.out Tryd.underlying28 rfl pa_size) rfl ⟨_, rfl, ⟨A5, c5, rfl, HR5.out.pa HK.out ho3, HCC.out⟩, HB.out.trans (ho3.below (Nat.le_refl _))⟩

theorem many_both (l : List Dg) (A : Option Addr) (c : Nat) (ps : List Int) (A2 : Option Addr) (c2 : Nat) (hc : l.length ≤ c) (hn : l.length ≤ 40) (hp : ps.length ≤ 12) (hc2 : ps.length ≤ c2) : ∃ (T : List Dg) (e : Int), T.length ≤ 1000 ∧
    (∀ w, All w → RdD w A l → RdI w A2 ps → Calls Tryd.prog 21 #[.slice A l.length c, .slice A2 ps.length c2] w fun r w' => ∃ v, r = .returned (.tuple #[v, .int .i64 e]) ∧ NewD w' T v ∧ Below w.heap.size w w') ∧
    (∀ w, All w → RdD w A l → RdI w A2 ps → Calls Tryd.prog 22 #[.slice A l.length c, .slice A2 ps.length c2] w fun r w' => ∃ v, r = .returned (.agg (pac v e).toArray) ∧ NewD w' T v ∧ Below w.heap.size w w') := by
  cases h : ascF l.length (-1) ps
  · refine ⟨[], 1, by simp, fun w _ _ hi => (many_bad l A c ps A2 c2 w hi (by omega) h).mono ?_, fun w _ _ hi => (rmanyP_bad l A c ps A2 c2 w hi (by omega) h).mono ?_⟩
    · rintro r w' ⟨rfl, rfl⟩; exact ⟨_, rfl, ⟨none, 0, rfl, Rd.nil _ _, Nat.le_refl _⟩, Below.refl _ _⟩
    · rintro r w' ⟨rfl, hb⟩; exact ⟨_, rfl, ⟨none, 0, rfl, Rd.nil _ _, Nat.le_refl _⟩, hb⟩
  · have hl := manyD_len l 0 ps
    by_cases h0 : l.length = 0
    · obtain rfl : l = [] := List.eq_nil_of_length_eq_zero h0
      refine ⟨manyD [] 0 ps, 0, by omega, fun w hg hr hi => many_any [] A c ps A2 c2 w hg.1 hr hc (by omega) hi hc2 (by omega) h, fun w _ _ hi => (rmanyP_none [] A c ps A2 c2 w hi (by omega) h h0).mono ?_⟩
      rintro r w' ⟨rfl, hb⟩
      exact ⟨_, rfl, by rw [manyD_nil]; exact ⟨none, 0, rfl, Rd.nil _ _, Nat.le_refl _⟩, hb⟩
    · exact ⟨manyD l 0 ps, 0, by omega, fun w hg hr hi => many_any l A c ps A2 c2 w hg.1 hr hc (by omega) hi hc2 (by omega) h, fun w hg hr hi => rmanyP_any l A c ps A2 c2 w hi (by omega) h (by omega) hc (by omega) (by omega) hg hr⟩
end Go.Proofs.YtfbemmeonkceiaaDoor

/- The reference's CheckMany, and it with the program's. -/
namespace Go.Proofs.YtfbemmeonkceiaaDoor
open Go.RowKit Hm Wm

set_option maxRecDepth 100000 in
set_option maxHeartbeats 400000 in
theorem rcm_range (n : Int) (root : Dg) (ps : List Int) (fs : List Dg) (A2 : Option Addr) (c2 : Nat) (A3 : Option Addr) (c3 : Nat) (P : Value) (w : World) (h : n < 0 ∨ 1099511627776 < n) :
    Calls Tryd.prog 24 #[.int .i64 n, .slice A2 ps.length c2, .slice A3 fs.length c3, P, dv root] w fun e w' => e = .returned (.bool false) ∧ Below w.heap.size w w' := by
  have HB := Lib.hid ((Below.refl w.heap.size w).alloc (Nat.le_refl _) (.cells (dc root).toArray 31))
  unfold dv
  by_cases h0 : n < 0
  · have d0 : decide (n < 0) = true := decide_eq_true h0
    clear h h0
    go_enter Tryd.func24, Tryd.ntmps24
    go_wp2
    go_ret
    exact ⟨rfl, HB.out⟩
  · have d0 : decide (n < 0) = false := decide_eq_false h0
    have d1 : decide (1099511627776 < n) = true := decide_eq_true (by omega)
    clear h h0
    go_enter Tryd.func24, Tryd.ntmps24
    go_wp2
    go_ret
    exact ⟨rfl, HB.out⟩

set_option maxRecDepth 100000 in
set_option maxHeartbeats 400000 in
theorem rcm_asc (n : Nat) (root : Dg) (ps : List Int) (fs : List Dg) (A2 : Option Addr) (c2 : Nat) (A3 : Option Addr) (c3 : Nat) (P : Value) (w : World) (hn : n ≤ 1099511627776) (hi : RdI w A2 ps) (hp : ps.length ≤ 1000) (h : ascF n (-1) ps = false) :
    Calls Tryd.prog 24 #[.int .i64 n, .slice A2 ps.length c2, .slice A3 fs.length c3, P, dv root] w fun e w' => e = .returned (.bool false) ∧ Below w.heap.size w w' := by
  have HB := Lib.hid ((Below.refl w.heap.size w).alloc (Nat.le_refl _) (.cells (dc root).toArray 31))
  have HA := Lib.hid (rasc_b A2 c2 ps n _ (hi.below HB.out) (by omega))
  have d0 : decide ((n : Int) < 0) = false := decide_eq_false (by omega)
  have d1 : decide ((1099511627776 : Int) < (n : Int)) = false := decide_eq_false (by omega)
  rw [h] at HA
  unfold dv
  clear h hi
  go_enter Tryd.func24, Tryd.ntmps24
  go_wp2_with fail
  refine HA.out.mono ?_
  rintro e w2 ⟨rfl, hb2⟩
  replace HB := Lib.hid (HB.out.trans (hb2.mono HB.out.size))
  clear hb2 HA
  go_wp2
  go_ret
  exact ⟨rfl, HB.out⟩

set_option maxRecDepth 100000 in
set_option maxHeartbeats 400000 in
theorem rcm_len (n : Nat) (root : Dg) (ps : List Int) (fs : List Dg) (A2 : Option Addr) (c2 : Nat) (A3 : Option Addr) (c3 : Nat) (P : Value) (w : World) (hn : n ≤ 1099511627776) (hi : RdI w A2 ps) (hp : ps.length ≤ 1000) (h : ascF n (-1) ps = true) (hne : fs.length ≠ ps.length) :
    Calls Tryd.prog 24 #[.int .i64 n, .slice A2 ps.length c2, .slice A3 fs.length c3, P, dv root] w fun e w' => e = .returned (.bool false) ∧ Below w.heap.size w w' := by
  have HB := Lib.hid ((Below.refl w.heap.size w).alloc (Nat.le_refl _) (.cells (dc root).toArray 31))
  have HA := Lib.hid (rasc_b A2 c2 ps n _ (hi.below HB.out) (by omega))
  have d0 : decide ((n : Int) < 0) = false := decide_eq_false (by omega)
  have d1 : decide ((1099511627776 : Int) < (n : Int)) = false := decide_eq_false (by omega)
  have d3 : ((fs.length : Int) != (ps.length : Int)) = true := by rw [bne_iff_ne]; omega
  have d4 : (fs.length != ps.length) = true := by rw [bne_iff_ne]; exact hne
  rw [h] at HA
  unfold dv
  clear h hi hne
  go_enter Tryd.func24, Tryd.ntmps24
  go_wp2_with fail
  refine HA.out.mono ?_
  rintro e w2 ⟨rfl, hb2⟩
  replace HB := Lib.hid (HB.out.trans (hb2.mono HB.out.size))
  clear hb2 HA
  go_wp2
  go_ret
  exact ⟨rfl, HB.out⟩

set_option maxRecDepth 100000 in
set_option maxHeartbeats 400000 in
theorem rcm_zeroF (root : Dg) (ps : List Int) (fs : List Dg) (A2 : Option Addr) (c2 : Nat) (A3 : Option Addr) (c3 : Nat) (A4 : Option Addr) (m c4 : Nat) (hm : 1 ≤ m) (w : World) (hi : RdI w A2 ps) (hp : ps.length ≤ 1000) (h : ascF 0 (-1) ps = true) (heq : fs.length = ps.length) :
    Calls Tryd.prog 24 #[.int .i64 0, .slice A2 ps.length c2, .slice A3 fs.length c3, .slice A4 m c4, dv root] w fun e w' => e = .returned (.bool false) ∧ Below w.heap.size w w' := by
  have HB := Lib.hid ((Below.refl w.heap.size w).alloc (Nat.le_refl _) (.cells (dc root).toArray 31))
  have HA := Lib.hid (rasc_b A2 c2 ps 0 _ (hi.below HB.out) (by omega))
  have d3 : ((fs.length : Int) != (ps.length : Int)) = false := by rw [heq]; exact bne_self_eq_false _
  have d4 : (fs.length != ps.length) = false := by rw [heq]; exact bne_self_eq_false _
  have dm : ((m : Int) == 0) = false := by rw [beq_eq_false_iff_ne]; omega
  have dm' : (m == 0) = false := by rw [beq_eq_false_iff_ne]; omega
  rw [h] at HA
  unfold dv
  clear h hi heq
  go_enter Tryd.func24, Tryd.ntmps24
  go_wp2_with fail
  refine HA.out.mono ?_
  rintro e w2 ⟨rfl, hb2⟩
  replace HB := Lib.hid (HB.out.trans (hb2.mono HB.out.size))
  clear hb2 HA
  go_wp2_with fail
  go_quiet (fail)
  go_wp2
  go_ret
  exact ⟨rfl, drewN_below HB.out _⟩

set_option maxRecDepth 100000 in
set_option maxHeartbeats 400000 in
theorem rcm_zeroT (root : Dg) (ps : List Int) (fs : List Dg) (A2 : Option Addr) (c2 : Nat) (A3 : Option Addr) (c3 : Nat) (A4 : Option Addr) (c4 : Nat) (w : World) (hg : All w) (hi : RdI w A2 ps) (hp : ps.length ≤ 1000) (h : ascF 0 (-1) ps = true) (heq : fs.length = ps.length) :
    Calls Tryd.prog 24 #[.int .i64 0, .slice A2 ps.length c2, .slice A3 fs.length c3, .slice A4 0 c4, dv root] w fun e w' => e = .returned (.bool (dgEq emptyD root)) ∧ Below w.heap.size w w' := by
  have HB := Lib.hid ((Below.refl w.heap.size w).alloc (Nat.le_refl _) (.cells (dc root).toArray 31))
  have HA := Lib.hid (rasc_b A2 c2 ps 0 _ (hi.below HB.out) (by omega))
  have HK := Lib.hid (Blk.new w 31 (dc root))
  have HG := Lib.hid (hg.next HB.out)
  have d3 : ((fs.length : Int) != (ps.length : Int)) = false := by rw [heq]; exact bne_self_eq_false _
  have d4 : (fs.length != ps.length) = false := by rw [heq]; exact bne_self_eq_false _
  obtain ⟨em, hem⟩ : ∃ d, emptyD = d := ⟨_, rfl⟩
  have hE := fun W (h1 : All W) => rempty_any W h1.2.2
  rw [hem] at hE ⊢
  have HE := Lib.hid hE
  rw [h] at HA
  rw [dgEq_comm]
  unfold dv
  clear h hi heq hg hem hE
  go_enter Tryd.func24, Tryd.ntmps24
  go_wp2_with fail
  generalize (w.alloc (.cells (dc root).toArray 31)) = w1 at HB HA HK HG ⊢
  refine HA.out.mono ?_
  rintro e w2 ⟨rfl, hb2⟩
  replace HB := Lib.hid (HB.out.trans (hb2.mono HB.out.size))
  replace HK := Lib.hid (HK.out.next hb2)
  replace HG := Lib.hid (HG.out.next hb2)
  clear hb2 HA
  go_wp2_with fail
  refine wp_region_held_drew (S := fun W => Below w2.heap.size w2 W) (by kernel_rfl) (Below.refl _ _).drew (fun hS => ?_)
  generalize w2.drew = w1 at hS ⊢
  refine reg_takeG (i := 0) (some 33) rfl rfl rfl (by kernel_rfl) (by kernel_rfl) (by kernel_rfl) (.slice A4 0 c4) (fun _ _ _ h => h) (fun W hW => exec_move (.tmp 3) rfl _ rfl) hS ?_
  go_frame
  refine reg_takeG (i := 1) (some 34) rfl rfl rfl (by kernel_rfl) (by kernel_rfl) (by kernel_rfl) (.int .i64 0) (fun _ _ _ h => h) (fun W hW => exec_lenD _ (.tmp 33) rfl ds_under A4 0 c4 rfl) hS ?_
  go_frame
  refine reg_takeG (i := 2) (some 35) rfl rfl rfl (by kernel_rfl) (by kernel_rfl) (by kernel_rfl) (.bool true) (fun _ _ _ h => h) (fun W hW => exec_eqI (P := Tryd.prog) _ (.tmp 34) _ _ rfl .i64 0 0 rfl rfl) hS ?_
  go_frame
  refine reg_takeG (i := 3) (some 36) rfl rfl rfl (by kernel_rfl) (by kernel_rfl) (by kernel_rfl) (.bool true) (fun _ _ _ h => h) (fun W hW => exec_move (.tmp 35) rfl _ rfl) hS ?_
  go_frame
  refine reg_takeG (i := 4) (some 37) rfl rfl rfl (by kernel_rfl) (by kernel_rfl) (by kernel_rfl) (dv root) (fun _ _ _ h => h) (fun W hW => exec_loadB (.tmp 9) rfl rfl (HK.out.next hW)) hS ?_
  go_frame
  refine reg_callG (i := 5) (some 38) rfl rfl rfl (by kernel_rfl) rfl Tryd.func38 (by kernel_rfl) (by kernel_rfl) #[] rfl (HE.out w1 (HG.out.next hS)) ?_
  rintro e w2 ⟨rfl, hb⟩
  have hS2 := hS.trans (hb.mono hS.size)
  refine ⟨_, rfl, hS2, ?_⟩
  go_frame
  clear hb
  refine reg_valueG (i := 6) (some 39) rfl rfl rfl (by kernel_rfl) (.bool (dgEq root em)) (exec_eqD (.tmp 37) (.tmp 38) _ rfl root em rfl rfl) hS2 ?_
  go_frame
  refine reg_valueG (i := 7) (some 40) rfl rfl rfl (by kernel_rfl) (.bool (dgEq root em)) (exec_pick (.tmp 36) (.tmp 39) (.const (.bool false)) rfl _ rfl rfl) hS2 ?_
  go_frame
  refine reg_valueG (i := 8) (some 10) rfl rfl rfl (by kernel_rfl) (.bool (dgEq root em)) (exec_assign (.tmp 40) rfl _ rfl) hS2 ?_
  go_frame
  refine wpAnyH_done (by kernel_rfl) ?_ _
  have HF := Lib.hid (HB.out.trans (hS2.mono HB.out.size))
  go_wp2
  go_ret
  exact ⟨rfl, HF.out⟩

set_option maxRecDepth 100000 in
set_option maxHeartbeats 400000 in
theorem rcm_walk (n : Nat) (root : Dg) (ps : List Int) (fs : List Dg) (A2 : Option Addr) (c2 : Nat) (A3 : Option Addr) (c3 : Nat) (A4 : Option Addr) (path : List Dg) (c4 : Nat) (w : World) (hg : All w) (hi : RdI w A2 ps) (hr3 : RdD w A3 fs) (hr4 : RdD w A4 path) (hn1 : 1 ≤ n) (hn : n ≤ 1099511627776) (hp : ps.length ≤ 1000) (hc3 : fs.length ≤ c3) (hc4 : path.length ≤ c4) (hl4 : path.length ≤ 1000) (h : ascF n (-1) ps = true) (heq : fs.length = ps.length) :
    Calls Tryd.prog 24 #[.int .i64 n, .slice A2 ps.length c2, .slice A3 fs.length c3, .slice A4 path.length c4, dv root] w fun e w' => e = .returned (.bool (dgEq (wlkD 0 n ps fs 0 path).1 root && decide ((wlkD 0 n ps fs 0 path).2 = path.length))) ∧ Below w.heap.size w w' := by
  have hwin : winF 0 (0 + (n : Int)) ps = ps := winF_all (fun p hp => by have := (ascF_sorted _ _ _ h).1 p hp; omega)
  have hC := fun W (h1 : All W) (h2 : RdI W A2 ps) (h3 : RdD W A3 fs) (h4 : RdD W A4 path) => rwalk_any n 0 n ps fs path A2 c2 A3 c3 A4 c4 W (Nat.le_refl _) hn1 hn (by omega) (by omega) hp (ascF_sorted _ _ _ h).2 (by rw [hwin]; omega) hc3 (by omega) hc4 hl4 h1.2.2 h2 h3 h4
  rw [hwin] at hC
  have HC := Lib.hid hC
  have dn0 : ((n : Int) == 0) = false := by rw [beq_eq_false_iff_ne]; omega
  have dn0' : (n == 0) = false := by rw [beq_eq_false_iff_ne]; omega
  have HK := Lib.hid (Blk.new w 31 (dc root))
  have HB := Lib.hid ((Below.refl w.heap.size w).alloc (Nat.le_refl _) (.cells (dc root).toArray 31))
  have HA := Lib.hid (rasc_b A2 c2 ps n _ (hi.below HB.out) (by omega))
  have d0 : decide ((n : Int) < 0) = false := decide_eq_false (by omega)
  have d1 : decide ((1099511627776 : Int) < (n : Int)) = false := decide_eq_false (by omega)
  have d3 : ((fs.length : Int) != (ps.length : Int)) = false := by rw [heq]; exact bne_self_eq_false _
  have d4 : (fs.length != ps.length) = false := by rw [heq]; exact bne_self_eq_false _
  have HG := Lib.hid (hg.next HB.out)
  have HI := Lib.hid (hi.below HB.out)
  have HR3 := Lib.hid (hr3.below HB.out)
  have HR4 := Lib.hid (hr4.below HB.out)
  rw [h] at HA
  unfold dv
  clear h hi heq hg hr3 hr4 hwin hC hn1 hn hp hc3 hc4 hl4
  go_enter Tryd.func24, Tryd.ntmps24
  go_wp2_with fail
  generalize (w.alloc (.cells (dc root).toArray 31)) = w1 at HB HA HK HG HI HR3 HR4 ⊢
  refine HA.out.mono ?_
  rintro e w2 ⟨rfl, hb2⟩
  replace HB := Lib.hid (HB.out.trans (hb2.mono HB.out.size))
  replace HK := Lib.hid (HK.out.next hb2)
  replace HG := Lib.hid (HG.out.next hb2)
  replace HI := Lib.hid (HI.out.next hb2)
  replace HR3 := Lib.hid (HR3.out.next hb2)
  replace HR4 := Lib.hid (HR4.out.next hb2)
  clear hb2 HA
  go_wp2_with fail
  refine (HC.out _ HG.out HI.out HR3.out HR4.out).mono ?_
  rintro e w3 ⟨d, f, q, b, rfl, ⟨hb1, hbt⟩, hb3⟩
  replace HK := Lib.hid (HK.out.next hb3)
  replace HB := Lib.hid (HB.out.trans (hb3.mono HB.out.size))
  clear hb3 HC HG HI HR3 HR4
  obtain ⟨⟨d', a⟩, hr⟩ : ∃ r, wlkD 0 n ps fs 0 path = r := ⟨_, rfl⟩
  rw [hr] at hb1 hbt
  cases b
  case false =>
    have ha := of_decide_eq_false hb1.symm
    have HZ := Lib.hid (show (dgEq (wlkD 0 n ps fs 0 path).1 root && decide ((wlkD 0 n ps fs 0 path).2 = path.length)) = false by rw [hr, decide_eq_false (by simp only at ha ⊢; omega), Bool.and_false])
    clear hb1 hbt hr ha
    go_wp2_with (refine wpList_var rfl rfl 86 11 rfl rfl rfl (.tmp 45) rfl (wkc dz 0 0 false) (wkc d f q false) wk_zero rfl rfl (wk_fit _ _ _ _ _ _ _ _) (wk_size' _ _ _ _) (wkc_one _ _ _ _) ?_; intro w4 K11 D; replace HK := Lib.hid (HK.out.next D.out); replace HB := Lib.hid (HB.out.trans (D.out.mono HB.out.size)); have h18 := (wk_cell K11.out).2.2; have h17 := (wk_cell K11.out).2.1; have HRG := Lib.hid (wk_range K11.out); clear D)
    go_ret
    exact ⟨by rw [HZ.out]; rfl, HB.out⟩
  case true =>
    obtain ⟨a', h1, rfl, -⟩ := hbt rfl
    simp only [Prod.mk.injEq] at h1
    obtain ⟨rfl, rfl⟩ := h1
    by_cases hq : a = path.length
    · have dq : ((a : Int) == (path.length : Int)) = true := by rw [beq_iff_eq]; omega
      have dq' : (a == path.length) = true := by rw [beq_iff_eq]; exact hq
      have HZ := Lib.hid (show (dgEq (wlkD 0 n ps fs 0 path).1 root && decide ((wlkD 0 n ps fs 0 path).2 = path.length)) = dgEq d' root by rw [hr, decide_eq_true hq, Bool.and_true])
      clear hb1 hbt hr hq
      go_wp2_with (first | (refine wpList_var rfl rfl 86 11 rfl rfl rfl (.tmp 45) rfl (wkc dz 0 0 false) (wkc d' f (a : Int) true) wk_zero rfl rfl (wk_fit _ _ _ _ _ _ _ _) (wk_size' _ _ _ _) (wkc_one _ _ _ _) ?_; intro w4 K11 D; replace HK := Lib.hid (HK.out.next D.out); replace HB := Lib.hid (HB.out.trans (D.out.mono HB.out.size)); have h18 := (wk_cell K11.out).2.2; have h17 := (wk_cell K11.out).2.1; have HRG := Lib.hid (wk_range K11.out); clear D) | (refine wpList_loadDW rfl (.tmp 56) rfl w3.heap.size 0 d' rfl HRG.out ?_) | (refine wpList_loadB rfl (.tmp 9) rfl w.heap.size root rfl HK.out ?_) | (refine wpList_eqD rfl (.tmp 57) (.tmp 58) _ rfl d' root rfl rfl ?_))
      go_ret
      exact ⟨by rw [HZ.out]; rfl, HB.out⟩
    · have dq : ((a : Int) == (path.length : Int)) = false := by rw [beq_eq_false_iff_ne]; omega
      have dq' : (a == path.length) = false := by rw [beq_eq_false_iff_ne]; exact hq
      have HZ := Lib.hid (show (dgEq (wlkD 0 n ps fs 0 path).1 root && decide ((wlkD 0 n ps fs 0 path).2 = path.length)) = false by rw [hr, decide_eq_false hq, Bool.and_false])
      clear hb1 hbt hr hq
      go_wp2_with (refine wpList_var rfl rfl 86 11 rfl rfl rfl (.tmp 45) rfl (wkc dz 0 0 false) (wkc d' f (a : Int) true) wk_zero rfl rfl (wk_fit _ _ _ _ _ _ _ _) (wk_size' _ _ _ _) (wkc_one _ _ _ _) ?_; intro w4 K11 D; replace HK := Lib.hid (HK.out.next D.out); replace HB := Lib.hid (HB.out.trans (D.out.mono HB.out.size)); have h18 := (wk_cell K11.out).2.2; have h17 := (wk_cell K11.out).2.1; have HRG := Lib.hid (wk_range K11.out); clear D)
      go_ret
      exact ⟨by rw [HZ.out]; rfl, HB.out⟩

theorem cm_both (n : Int) (root : Dg) (ps : List Int) (fs : List Dg) (A2 : Option Addr) (c2 : Nat) (A3 : Option Addr) (c3 : Nat) (A4 : Option Addr) (path : List Dg) (c4 : Nat) (hc2 : ps.length ≤ c2) (hc3 : fs.length ≤ c3) (hc4 : path.length ≤ c4) (hp : ps.length ≤ 12) (hf : fs.length ≤ 12) (hl4 : path.length ≤ 60) : ∃ b : Bool,
    (∀ w, All w → RdI w A2 ps → RdD w A3 fs → RdD w A4 path → Calls Tryd.prog 23 #[.int .i64 n, .slice A2 ps.length c2, .slice A3 fs.length c3, .slice A4 path.length c4, dv root] w fun e w' => e = .returned (.bool b) ∧ Below w.heap.size w w') ∧
    (∀ w, All w → RdI w A2 ps → RdD w A3 fs → RdD w A4 path → Calls Tryd.prog 24 #[.int .i64 n, .slice A2 ps.length c2, .slice A3 fs.length c3, .slice A4 path.length c4, dv root] w fun e w' => e = .returned (.bool b) ∧ Below w.heap.size w w') := by
  by_cases hn : n < 0 ∨ 1099511627776 < n
  · exact ⟨false, fun w _ _ _ _ => cm_range n root ps fs A2 c2 A3 c3 _ w hn, fun w _ _ _ _ => rcm_range n root ps fs A2 c2 A3 c3 _ w hn⟩
  obtain ⟨n, rfl⟩ := Int.eq_ofNat_of_zero_le (show 0 ≤ n by omega)
  cases h : ascF n (-1) ps
  · exact ⟨false, fun w _ hi _ _ => cm_bad n root ps fs A2 c2 A3 c3 _ w (by omega) hi (by omega) (.inl h), fun w _ hi _ _ => rcm_asc n root ps fs A2 c2 A3 c3 _ w (by omega) hi (by omega) h⟩
  by_cases heq : fs.length = ps.length
  case neg => exact ⟨false, fun w _ hi _ _ => cm_bad n root ps fs A2 c2 A3 c3 _ w (by omega) hi (by omega) (.inr heq), fun w _ hi _ _ => rcm_len n root ps fs A2 c2 A3 c3 _ w (by omega) hi (by omega) h heq⟩
  refine ⟨dgEq (wlkD 0 n ps fs 0 path).1 root && decide ((wlkD 0 n ps fs 0 path).2 = path.length), fun w hg hi h3 h4 => cm_any n root ps fs A2 c2 A3 c3 A4 c4 path w hg.1 h4 (by omega) h heq hc2 (by omega) hc3 hi h3, fun w hg hi h3 h4 => ?_⟩
  by_cases h0 : n = 0
  · subst h0
    rw [wlkD_zero]
    rcases path with _ | ⟨d, r⟩
    · refine (rcm_zeroT root ps fs A2 c2 A3 c3 A4 c4 w hg hi (by omega) h heq).mono ?_
      rintro e w' ⟨rfl, hb⟩
      exact ⟨by simp, hb⟩
    · refine (rcm_zeroF root ps fs A2 c2 A3 c3 A4 (d :: r).length c4 (by simp) w hi (by omega) h heq).mono ?_
      rintro e w' ⟨rfl, hb⟩
      exact ⟨by simp, hb⟩
  · exact rcm_walk n root ps fs A2 c2 A3 c3 A4 path c4 w hg hi h3 h4 (by omega) (by omega) (by omega) hc3 hc4 (by omega) h heq
end Go.Proofs.YtfbemmeonkceiaaDoor

/- The walk of MerkleManyAsSpecified. -/
namespace Go.Proofs.YtfbemmeonkceiaaDoor
open Go.RowKit Hm Wm

theorem bool_under : Tryd.prog.underlying 4 = some .bool := by kernel_rfl
theorem exec_sameB {oi : Oper} {a : Act} {w : World} (x y : Operand) (rt : TypeId) (ho : oi.op = .binOp .eql 4 x y rt) (b : Bool) (hx : a.eval x = .bool b) (hy : a.eval y = .bool b) : (execOp a.eval oi).run Tryd.prog w = .ok (.value (.bool true)) w := by
  have h := exec_eqB (P := Tryd.prog) (w := w) 4 x y rt ho bool_under b b hx hy
  rwa [show (b == b) = true from beq_self_eq_true b] at h

set_option maxRecDepth 1000000 in
set_option maxHeartbeats 1000000 in
theorem walkMany_out (A : Option Addr) (n1 c : Nat) (A2 : Option Addr) (n2 c2 : Nat) (n : Int) (A3 : Option Addr) (n3 c3 : Nat) (A4 : Option Addr) (n4 c4 : Nat) (root : Dg) (w : World) (hg : All w) (h : 40 < n1 ∨ 12 < n2 ∨ 12 < n3 ∨ 60 < n4) :
    Calls Tryd.prog 4 #[.slice A n1 c, .slice A2 n2 c2, .int .i64 n, .slice A3 n3 c3, .slice A4 n4 c4, dv root] w fun e w' => e = .returned (.bool true) ∧ Below w.heap.size w w' := by
  have B := Lib.hid ((Below.refl w.heap.size w).alloc (Nat.le_refl _) (.cells (dc root).toArray 31))
  have HS := Lib.hid (sanity_any _ (hg.next B.out))
  unfold dv
  clear hg
  by_cases h0 : 40 < n1
  · have d0 : decide ((40 : Int) < (n1 : Int)) = true := decide_eq_true (by omega)
    clear h
    go_enter Tryd.func4, Tryd.ntmps4
    go_wp2_with fail
    refine HS.out.mono ?_
    rintro e w1 ⟨rfl, hb⟩
    have HB := Lib.hid (B.out.trans (hb.mono B.out.size))
    clear hb
    go_wp2
    go_ret
    exact ⟨rfl, HB.out⟩
  by_cases h1 : 12 < n2
  · have d0 : decide ((40 : Int) < (n1 : Int)) = false := decide_eq_false (by omega)
    have d1 : decide ((12 : Int) < (n2 : Int)) = true := decide_eq_true (by omega)
    clear h
    go_enter Tryd.func4, Tryd.ntmps4
    go_wp2_with fail
    refine HS.out.mono ?_
    rintro e w1 ⟨rfl, hb⟩
    have HB := Lib.hid (B.out.trans (hb.mono B.out.size))
    clear hb
    go_wp2
    go_ret
    exact ⟨rfl, HB.out⟩
  by_cases h2 : 12 < n3
  · have d0 : decide ((40 : Int) < (n1 : Int)) = false := decide_eq_false (by omega)
    have d1 : decide ((12 : Int) < (n2 : Int)) = false := decide_eq_false (by omega)
    have d2 : decide ((12 : Int) < (n3 : Int)) = true := decide_eq_true (by omega)
    clear h
    go_enter Tryd.func4, Tryd.ntmps4
    go_wp2_with fail
    refine HS.out.mono ?_
    rintro e w1 ⟨rfl, hb⟩
    have HB := Lib.hid (B.out.trans (hb.mono B.out.size))
    clear hb
    go_wp2
    go_ret
    exact ⟨rfl, HB.out⟩
  have d0 : decide ((40 : Int) < (n1 : Int)) = false := decide_eq_false (by omega)
  have d1 : decide ((12 : Int) < (n2 : Int)) = false := decide_eq_false (by omega)
  have d2 : decide ((12 : Int) < (n3 : Int)) = false := decide_eq_false (by omega)
  have d3 : decide ((60 : Int) < (n4 : Int)) = true := decide_eq_true (by omega)
  clear h
  go_enter Tryd.func4, Tryd.ntmps4
  go_wp2_with fail
  refine HS.out.mono ?_
  rintro e w1 ⟨rfl, hb⟩
  have HB := Lib.hid (B.out.trans (hb.mono B.out.size))
  clear hb
  go_wp2
  go_ret
  exact ⟨rfl, HB.out⟩

set_option maxRecDepth 1000000 in
set_option maxHeartbeats 1000000 in
theorem walkMany_in (A : Option Addr) (c : Nat) (l : List Dg) (A2 : Option Addr) (c2 : Nat) (ps : List Int) (n : Int) (A3 : Option Addr) (c3 : Nat) (fs : List Dg) (A4 : Option Addr) (c4 : Nat) (path : List Dg) (root : Dg) (w : World) (hg : All w) (hr : RdD w A l) (hi : RdI w A2 ps) (hr3 : RdD w A3 fs) (hr4 : RdD w A4 path) (hc : l.length ≤ c) (hc2 : ps.length ≤ c2) (hc3 : fs.length ≤ c3) (hc4 : path.length ≤ c4) (h0 : l.length ≤ 40) (h1 : ps.length ≤ 12) (h2 : fs.length ≤ 12) (h3 : path.length ≤ 60) :
    Calls Tryd.prog 4 #[.slice A l.length c, .slice A2 ps.length c2, .int .i64 n, .slice A3 fs.length c3, .slice A4 path.length c4, dv root] w fun e w' => e = .returned (.bool true) ∧ Below w.heap.size w w' := by
  obtain ⟨T1, e1, ht1, hM1, hM2⟩ := many_both l A c ps A2 c2 hc h0 h1 hc2
  obtain ⟨bb, hC1, hC2⟩ := cm_both n root ps fs A2 c2 A3 c3 A4 path c4 hc2 hc3 hc4 h1 h2 h3
  have HM1 := Lib.hid hM1
  have HM2 := Lib.hid hM2
  have HC1 := Lib.hid hC1
  have HC2 := Lib.hid hC2
  have HT1 := Lib.hid ht1
  have d0 : decide ((40 : Int) < (l.length : Int)) = false := decide_eq_false (by omega)
  have d1 : decide ((12 : Int) < (ps.length : Int)) = false := decide_eq_false (by omega)
  have d2 : decide ((12 : Int) < (fs.length : Int)) = false := decide_eq_false (by omega)
  have d3 : decide ((60 : Int) < (path.length : Int)) = false := decide_eq_false (by omega)
  have B := Lib.hid ((Below.refl w.heap.size w).alloc (Nat.le_refl _) (.cells (dc root).toArray 31))
  have K11 := Lib.hid (Blk.new w 31 (dc root))
  have GL := Lib.hid (hg.next B.out)
  have R := Lib.hid (hr.next B.out)
  have RI := Lib.hid (hi.next B.out)
  have R3 := Lib.hid (hr3.next B.out)
  have R4 := Lib.hid (hr4.next B.out)
  clear hM1 hM2 hC1 hC2 ht1 hg hr hi hr3 hr4 hc hc2 hc3 hc4 h0 h1 h2 h3
  unfold dv
  go_enter Tryd.func4, Tryd.ntmps4
  go_wp2_with fail
  generalize (w.alloc (.cells (dc root).toArray 31)) = v0 at B K11 GL R RI R3 R4 ⊢
  refine (HM1.out _ GL.out R.out RI.out).mono ?_
  rintro e v1 ⟨r, rfl, ⟨A13, c13, rfl, h5, -⟩, hb⟩
  replace GL := Lib.hid (GL.out.next hb)
  replace R := Lib.hid (R.out.next hb)
  replace RI := Lib.hid (RI.out.next hb)
  replace R3 := Lib.hid (R3.out.next hb)
  replace R4 := Lib.hid (R4.out.next hb)
  replace K11 := Lib.hid (K11.out.next hb)
  replace B := Lib.hid (B.out.trans (hb.mono B.out.size))
  have R13 := Lib.hid h5
  clear hb h5
  go_wp2_with fail
  refine (HM2.out _ GL.out R.out RI.out).mono ?_
  rintro e v2 ⟨r, rfl, ⟨A15, c15, rfl, h5, -⟩, hb⟩
  replace GL := Lib.hid (GL.out.next hb)
  replace R := Lib.hid (R.out.next hb)
  replace RI := Lib.hid (RI.out.next hb)
  replace R3 := Lib.hid (R3.out.next hb)
  replace R4 := Lib.hid (R4.out.next hb)
  replace K11 := Lib.hid (K11.out.next hb)
  replace R13 := Lib.hid (R13.out.next hb)
  replace B := Lib.hid (B.out.trans (hb.mono B.out.size))
  have R15 := Lib.hid h5
  clear hb h5
  go_wp2_with (refine wpList_var rfl rfl 28 15 rfl rfl rfl (.tmp 43) rfl (pac (.slice none 0 0) 0) (pac (.slice A15 T1.length c15) e1) pa_zero rfl rfl rfl pa_size (pac_one _ _ _ _) ?_; intro x3 K15 D; replace GL := Lib.hid (GL.out.next D.out); replace R := Lib.hid (R.out.next D.out); replace RI := Lib.hid (RI.out.next D.out); replace R3 := Lib.hid (R3.out.next D.out); replace R4 := Lib.hid (R4.out.next D.out); replace K11 := Lib.hid (K11.out.next D.out); replace R13 := Lib.hid (R13.out.next D.out); replace R15 := Lib.hid (R15.out.next D.out); replace B := Lib.hid (B.out.trans (D.out.mono B.out.size)); clear D)
  refine wp_region_held_drew (S := fun W => Below x3.heap.size x3 W) (by kernel_rfl) (Below.refl _ _).drew (fun hS => ?_)
  generalize x3.drew = w1 at hS ⊢
  refine reg_callG (i := 0) (some 44) rfl rfl rfl (by kernel_rfl) rfl Tryd.func9 (by kernel_rfl) (by kernel_rfl) #[] rfl (sanity_any w1 (GL.out.next hS)) ?_
  rintro e w2 ⟨rfl, hb⟩
  have hS2 := hS.trans (hb.mono hS.size)
  refine ⟨_, rfl, hS2, ?_⟩
  go_frame
  clear hb
  refine reg_valueG (i := 1) (some 45) rfl rfl rfl (by kernel_rfl) (.bool true) (exec_move (.tmp 44) rfl _ rfl) hS2 ?_
  go_frame
  refine reg_takeG (i := 2) (some 46) rfl rfl rfl (by kernel_rfl) (by kernel_rfl) (by kernel_rfl) (.slice A13 T1.length c13) (fun _ _ _ h => h) (fun W hW => exec_move (.tmp 13) rfl _ rfl) hS2 ?_
  go_frame
  refine reg_takeG (i := 3) (some 47) rfl rfl rfl (by kernel_rfl) (by kernel_rfl) (by kernel_rfl) (.pointer (some ⟨v2.heap.size, 0, none⟩)) (fun _ _ _ h => h) (fun W hW => exec_fieldAddr _ (.tmp 15) 0 rfl _ _ rfl (pa_field0 _ W)) hS2 ?_
  go_frame
  refine reg_takeG (i := 4) (some 48) rfl rfl rfl (by kernel_rfl) (by kernel_rfl) (by kernel_rfl) (.slice A15 T1.length c15) (fun _ _ _ h => h) (fun W hW => exec_load 22 (.tmp 47) rfl _ _ rfl (run_load_cell ds_flat ((K15.out.next hW).cell 0))) hS2 ?_
  go_frame
  refine reg_callG (i := 5) (some 49) rfl rfl rfl (by kernel_rfl) rfl Tryd.func17 (by kernel_rfl) (by kernel_rfl) #[.slice A13 T1.length c13, .slice A15 T1.length c15] rfl (same_yes A13 A15 c13 c15 T1 w2 (R13.out.next hS2) (R15.out.next hS2) HT1.out) ?_
  rintro e w3 ⟨rfl, hb⟩
  have hS3 := hS2.trans (hb.mono hS2.size)
  refine ⟨_, rfl, hS3, ?_⟩
  go_frame
  clear hb
  refine reg_valueG (i := 6) (some 50) rfl rfl rfl (by kernel_rfl) (.bool true) (exec_pick (.tmp 45) (.tmp 49) (.const (.bool false)) rfl _ rfl rfl) hS3 ?_
  go_frame
  refine reg_valueG (i := 7) (some 51) rfl rfl rfl (by kernel_rfl) (.bool true) (exec_move (.tmp 50) rfl _ rfl) hS3 ?_
  go_frame
  refine reg_takeG (i := 8) (some 52) rfl rfl rfl (by kernel_rfl) (by kernel_rfl) (by kernel_rfl) (.int .i64 e1) (fun _ _ _ h => h) (fun W hW => exec_move (.tmp 14) rfl _ rfl) hS3 ?_
  go_frame
  refine reg_takeG (i := 9) (some 53) rfl rfl rfl (by kernel_rfl) (by kernel_rfl) (by kernel_rfl) (.pointer (some ⟨v2.heap.size, 1, none⟩)) (fun _ _ _ h => h) (fun W hW => exec_fieldAddr _ (.tmp 15) 1 rfl _ _ rfl (pa_field1 _ W)) hS3 ?_
  go_frame
  refine reg_takeG (i := 10) (some 54) rfl rfl rfl (by kernel_rfl) (by kernel_rfl) (by kernel_rfl) (.int .i64 e1) (fun _ _ _ h => h) (fun W hW => exec_load 24 (.tmp 53) rfl _ _ rfl (run_load_cell errno_flat ((K15.out.next hW).cell 1))) hS3 ?_
  go_frame
  refine reg_valueG (i := 11) (some 55) rfl rfl rfl (by kernel_rfl) (.bool true) (exec_eqErr _ (.tmp 52) (.tmp 54) _ rfl e1 rfl rfl) hS3 ?_
  go_frame
  refine reg_valueG (i := 12) (some 56) rfl rfl rfl (by kernel_rfl) (.bool true) (exec_pick (.tmp 51) (.tmp 55) (.const (.bool false)) rfl _ rfl rfl) hS3 ?_
  go_frame
  refine reg_valueG (i := 13) (some 57) rfl rfl rfl (by kernel_rfl) (.bool true) (exec_move (.tmp 56) rfl _ rfl) hS3 ?_
  go_frame
  refine reg_takeG (i := 14) (some 58) rfl rfl rfl (by kernel_rfl) (by kernel_rfl) (by kernel_rfl) (.int .i64 n) (fun _ _ _ h => h) (fun W hW => exec_move (.tmp 2) rfl _ rfl) hS3 ?_
  go_frame
  refine reg_takeG (i := 15) (some 59) rfl rfl rfl (by kernel_rfl) (by kernel_rfl) (by kernel_rfl) (.slice A2 ps.length c2) (fun _ _ _ h => h) (fun W hW => exec_move (.tmp 1) rfl _ rfl) hS3 ?_
  go_frame
  refine reg_takeG (i := 16) (some 60) rfl rfl rfl (by kernel_rfl) (by kernel_rfl) (by kernel_rfl) (.slice A3 fs.length c3) (fun _ _ _ h => h) (fun W hW => exec_move (.tmp 3) rfl _ rfl) hS3 ?_
  go_frame
  refine reg_takeG (i := 17) (some 61) rfl rfl rfl (by kernel_rfl) (by kernel_rfl) (by kernel_rfl) (.slice A4 path.length c4) (fun _ _ _ h => h) (fun W hW => exec_move (.tmp 4) rfl _ rfl) hS3 ?_
  go_frame
  refine reg_takeG (i := 18) (some 62) rfl rfl rfl (by kernel_rfl) (by kernel_rfl) (by kernel_rfl) (dv root) (fun _ _ _ h => h) (fun W hW => exec_loadB (.tmp 11) rfl rfl (K11.out.next hW)) hS3 ?_
  go_frame
  refine reg_takeG (i := 20) (some 64) rfl rfl rfl (by kernel_rfl) (by kernel_rfl) (by kernel_rfl) (.int .i64 n) (fun _ _ _ h => h) (fun W hW => exec_move (.tmp 2) rfl _ rfl) hS3 ?_
  go_frame
  refine reg_takeG (i := 21) (some 65) rfl rfl rfl (by kernel_rfl) (by kernel_rfl) (by kernel_rfl) (.slice A2 ps.length c2) (fun _ _ _ h => h) (fun W hW => exec_move (.tmp 1) rfl _ rfl) hS3 ?_
  go_frame
  refine reg_takeG (i := 22) (some 66) rfl rfl rfl (by kernel_rfl) (by kernel_rfl) (by kernel_rfl) (.slice A3 fs.length c3) (fun _ _ _ h => h) (fun W hW => exec_move (.tmp 3) rfl _ rfl) hS3 ?_
  go_frame
  refine reg_takeG (i := 23) (some 67) rfl rfl rfl (by kernel_rfl) (by kernel_rfl) (by kernel_rfl) (.slice A4 path.length c4) (fun _ _ _ h => h) (fun W hW => exec_move (.tmp 4) rfl _ rfl) hS3 ?_
  go_frame
  refine reg_takeG (i := 24) (some 68) rfl rfl rfl (by kernel_rfl) (by kernel_rfl) (by kernel_rfl) (dv root) (fun _ _ _ h => h) (fun W hW => exec_loadB (.tmp 11) rfl rfl (K11.out.next hW)) hS3 ?_
  go_frame
  refine reg_callG (i := 19) (some 63) rfl rfl rfl (by kernel_rfl) rfl Tryd.func23 (by kernel_rfl) (by kernel_rfl) #[.int .i64 n, .slice A2 ps.length c2, .slice A3 fs.length c3, .slice A4 path.length c4, dv root] rfl (HC1.out w3 (GL.out.next hS3) (RI.out.next hS3) (R3.out.next hS3) (R4.out.next hS3)) ?_
  rintro e w4 ⟨rfl, hb⟩
  have hS4 := hS3.trans (hb.mono hS3.size)
  refine ⟨_, rfl, hS4, ?_⟩
  go_frame
  clear hb
  refine reg_callG (i := 25) (some 69) rfl rfl rfl (by kernel_rfl) rfl Tryd.func24 (by kernel_rfl) (by kernel_rfl) #[.int .i64 n, .slice A2 ps.length c2, .slice A3 fs.length c3, .slice A4 path.length c4, dv root] rfl (HC2.out w4 (GL.out.next hS4) (RI.out.next hS4) (R3.out.next hS4) (R4.out.next hS4)) ?_
  rintro e w5 ⟨rfl, hb⟩
  have hS5 := hS4.trans (hb.mono hS4.size)
  refine ⟨_, rfl, hS5, ?_⟩
  go_frame
  clear hb
  refine reg_valueG (i := 26) (some 70) rfl rfl rfl (by kernel_rfl) (.bool true) (exec_sameB (.tmp 63) (.tmp 69) _ rfl bb rfl rfl) hS5 ?_
  go_frame
  refine reg_valueG (i := 27) (some 71) rfl rfl rfl (by kernel_rfl) (.bool true) (exec_pick (.tmp 57) (.tmp 70) (.const (.bool false)) rfl _ rfl rfl) hS5 ?_
  go_frame
  refine reg_valueG (i := 28) (some 12) rfl rfl rfl (by kernel_rfl) (.bool true) (exec_assign (.tmp 71) rfl _ rfl) hS5 ?_
  go_frame
  refine wpAnyH_done (by kernel_rfl) ?_ _
  replace GL := Lib.hid (GL.out.next hS5)
  replace B := Lib.hid (B.out.trans (hS5.mono B.out.size))
  go_wp2
  go_ret
  exact ⟨rfl, B.out⟩

theorem walkMany (A : Option Addr) (c : Nat) (l : List Dg) (A2 : Option Addr) (c2 : Nat) (ps : List Int) (n : Int) (A3 : Option Addr) (c3 : Nat) (fs : List Dg) (A4 : Option Addr) (c4 : Nat) (path : List Dg) (root : Dg) (w : World) (hg : All w) (hr : RdD w A l) (hi : RdI w A2 ps) (hr3 : RdD w A3 fs) (hr4 : RdD w A4 path) (hc : l.length ≤ c) (hc2 : ps.length ≤ c2) (hc3 : fs.length ≤ c3) (hc4 : path.length ≤ c4) :
    Calls Tryd.prog 4 #[.slice A l.length c, .slice A2 ps.length c2, .int .i64 n, .slice A3 fs.length c3, .slice A4 path.length c4, dv root] w fun e w' => e = .returned (.bool true) ∧ Below w.heap.size w w' := by
  by_cases h : 40 < l.length ∨ 12 < ps.length ∨ 12 < fs.length ∨ 60 < path.length
  · exact walkMany_out A l.length c A2 ps.length c2 n A3 fs.length c3 A4 path.length c4 root w hg h
  · exact walkMany_in A c l A2 c2 ps n A3 c3 fs A4 c4 path root w hg hr hi hr3 hr4 hc hc2 hc3 hc4 (by omega) (by omega) (by omega) (by omega)
end Go.Proofs.YtfbemmeonkceiaaDoor
