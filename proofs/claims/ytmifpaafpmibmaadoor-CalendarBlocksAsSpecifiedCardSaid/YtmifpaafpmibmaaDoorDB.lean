/- The reference: where blocks begin. -/
import Derived.Test.YtmifpaafpmibmaaDoorCV
namespace Go.Proofs.YtmifpaafpmibmaaDoor
open Go.RowKit Hm Wm Cm

/-- Does a block of a level begin (or the last one end) here. -/
def stB (L t : Nat) : Bool := t == M || fl L t == t
theorem stB_iff {L t : Nat} (h : t ≤ M) : stB L t = true ↔ Bd L t := by
  unfold stB
  rw [Bool.or_eq_true, beq_iff_eq, beq_iff_eq]
  constructor
  · rintro (e | e)
    · subst e; exact bd_end L
    · rcases Nat.lt_or_ge t M with h1 | h1
      · have := fl_bd (L := L) h1; rwa [e] at this
      · obtain rfl : t = M := by omega
        exact bd_end L
  · intro hb
    rcases Nat.lt_or_ge t M with h1 | h1
    · exact .inr (fl_of h1 hb)
    · exact .inl (by omega)
theorem stB_off {L t : Nat} (hL : 2 ≤ L) (h : t < M) (h2 : t % 96 ≠ 0) : stB L t = false := by
  rw [Bool.eq_false_iff]
  intro e
  have hb := (stB_iff (Nat.le_of_lt h)).1 e
  have := (bd_mono (K := 2) hb hL).2
  exact h2 this
theorem stB_three {t : Nat} (h : t < M) (h2 : t % 96 = 0) : stB 3 t = decide (t / 96 - ms (mo (t / 96)) = 0) := by
  have hM : M = 1402560 := rfl
  have hle := mo_le (t / 96)
  unfold stB
  rw [show (t == M) = false by rw [beq_eq_false_iff_ne]; omega, Bool.false_or, show fl 3 t = 96 * ms (mo (t / 96)) from rfl, Bool.eq_iff_iff, beq_iff_eq, decide_eq_true_iff]
  constructor <;> intro <;> omega
theorem stB_four {t : Nat} (h : t < M) (h2 : t % 96 = 0) : stB 4 t = (decide (t / 96 - ms (mo (t / 96)) = 0) && decide (mo (t / 96) % 12 = 0)) := by
  have hM : M = 1402560 := rfl
  have hle := mo_le (t / 96)
  unfold stB
  rw [show (t == M) = false by rw [beq_eq_false_iff_ne]; omega, Bool.false_or, show fl 4 t = 96 * ms (12 * (mo (t / 96) / 12)) from rfl, Bool.eq_iff_iff, beq_iff_eq, Bool.and_eq_true, decide_eq_true_iff, decide_eq_true_iff]
  constructor
  · intro e
    have h3 : mo (t / 96) % 12 = 0 := by
      rcases Nat.eq_zero_or_pos (mo (t / 96) % 12) with h | h
      · exact h
      · have := ms_lt (show 12 * (mo (t / 96) / 12) < mo (t / 96) by omega); omega
    rw [show 12 * (mo (t / 96) / 12) = mo (t / 96) by omega] at e
    omega
  · rintro ⟨e, e2⟩
    rw [show 12 * (mo (t / 96) / 12) = mo (t / 96) by omega]
    omega
set_option maxRecDepth 100000 in
set_option maxHeartbeats 400000 in
theorem st_zero (t : Nat) (w : World) : Calls Tryd.prog 23 #[.int .i64 0, .int .i64 t] w fun e w' => e = .returned (.bool true) ∧ Below w.heap.size w w' := by
  go_enter Tryd.func23, Tryd.ntmps23
  go_wp2
  go_ret
  exact ⟨rfl, Below.refl _ _⟩
set_option maxRecDepth 100000 in
set_option maxHeartbeats 400000 in
theorem st_end (l : Int) (w : World) : Calls Tryd.prog 23 #[.int .i64 l, .int .i64 1402560] w fun e w' => e = .returned (.bool true) ∧ Below w.heap.size w w' := by
  cases hl : (l == 0)
  · go_enter Tryd.func23, Tryd.ntmps23
    go_wp2
    go_ret
    exact ⟨rfl, Below.refl _ _⟩
  · go_enter Tryd.func23, Tryd.ntmps23
    go_wp2
    go_ret
    exact ⟨rfl, Below.refl _ _⟩
set_option maxRecDepth 100000 in
set_option maxHeartbeats 400000 in
theorem st_one (t : Nat) (w : World) (ht : t < 1402560) : Calls Tryd.prog 23 #[.int .i64 1, .int .i64 t] w fun e w' => e = .returned (.bool (t % 4 == 0)) ∧ Below w.heap.size w w' := by
  have c0 : ((t : Int) == 1402560) = false := by rw [beq_eq_false_iff_ne]; omega
  have c1 : (t == 1402560) = false := by rw [beq_eq_false_iff_ne]; omega
  go_enter Tryd.func23, Tryd.ntmps23
  go_wp2
  go_ret
  exact ⟨congrArg (fun b => Ending.returned (Value.bool b)) (by rw [Bool.eq_iff_iff, beq_iff_eq, beq_iff_eq]; omega), Below.refl _ _⟩
set_option maxRecDepth 100000 in
set_option maxHeartbeats 400000 in
theorem st_off (l : Int) (t : Nat) (w : World) (ht : t < 1402560) (hl : 2 ≤ l) (h : t % 96 ≠ 0) : Calls Tryd.prog 23 #[.int .i64 l, .int .i64 t] w fun e w' => e = .returned (.bool false) ∧ Below w.heap.size w w' := by
  have c0 : ((t : Int) == 1402560) = false := by rw [beq_eq_false_iff_ne]; omega
  have c1 : (t == 1402560) = false := by rw [beq_eq_false_iff_ne]; omega
  have c2 : (l == 0) = false := by rw [beq_eq_false_iff_ne]; omega
  have c3 : (l == 1) = false := by rw [beq_eq_false_iff_ne]; omega
  have c4 : ((t : Int) % 96 == 0) = false := by rw [beq_eq_false_iff_ne]; omega
  have c5 : ¬ (t : Int) % 96 = 0 := by omega
  go_enter Tryd.func23, Tryd.ntmps23
  go_wp2
  go_ret
  exact ⟨rfl, Below.refl _ _⟩
set_option maxRecDepth 100000 in
set_option maxHeartbeats 400000 in
theorem st_two (t : Nat) (w : World) (ht : t < 1402560) (D Y m x : Nat) (hD : t = 96 * D) (hY : mo D / 12 = Y) (hm' : mo D % 12 = m) (hx : D - ms (mo D) = x) : Calls Tryd.prog 23 #[.int .i64 2, .int .i64 t] w fun e w' => e = .returned (.bool true) ∧ Below w.heap.size w w' := by
  have c0 : ((t : Int) == 1402560) = false := by rw [beq_eq_false_iff_ne]; omega
  have c1 : (t == 1402560) = false := by rw [beq_eq_false_iff_ne]; omega
  have c4 : ((t : Int) % 96 == 0) = true := by rw [beq_iff_eq]; omega
  have c5 : (t : Int) % 96 = 0 := by omega
  have hq : (t : Int) / 96 = (D : Int) := by omega
  have FD := Lib.hid (fun W => rdate_yes D W (by omega))
  rw [hY, hm', hx] at FD
  have HQ := Lib.hid hq
  have HW := Lib.hid (Below.refl w.heap.size w)
  clear hY hm' hx hq hD
  go_enter Tryd.func23, Tryd.ntmps23
  go_wp2_with fail
  rw [HQ.out]
  refine (FD.out _).mono ?_
  rintro e w1 ⟨rfl, hb⟩
  replace HW := Lib.hid (HW.out.trans (hb.mono HW.out.size))
  clear hb
  go_wp2_with (first | (refine wpList_var rfl rfl 66 5 rfl rfl rfl (.tmp 22) rfl (d4 0 0 0 0) (d4 (2000 + (Y : Int)) ((m : Int) + 1) ((x : Int) + 1) 0) dt_zero rfl rfl rfl dt_size (dt_one _ _ _ _) ?_; intro w2 HX HB; replace HW := Lib.hid (HW.out.trans (HB.out.mono HW.out.size)); clear HB) | (refine wpList_dst 29 rfl ?_; refine wpList_runG 29 rfl rfl _ (exec_fieldAddr 66 (.tmp 5) 2 rfl _ _ rfl (dt_f2 _ _)) ?_; go_frame) | (refine wpList_dst 30 rfl ?_; refine wpList_runG 30 rfl rfl _ (exec_loadI (.tmp 29) rfl (.int .i64 ((x : Int) + 1)) rfl (HX.out.cell 2)) ?_; go_frame) | (refine wpList_dst 38 rfl ?_; refine wpList_runG 38 rfl rfl _ (exec_fieldAddr 66 (.tmp 5) 2 rfl _ _ rfl (dt_f2 _ _)) ?_; go_frame) | (refine wpList_dst 39 rfl ?_; refine wpList_runG 39 rfl rfl _ (exec_loadI (.tmp 38) rfl (.int .i64 ((x : Int) + 1)) rfl (HX.out.cell 2)) ?_; go_frame) | (refine wpList_dst 43 rfl ?_; refine wpList_runG 43 rfl rfl _ (exec_fieldAddr 66 (.tmp 5) 1 rfl _ _ rfl (dt_f1 _ _)) ?_; go_frame) | (refine wpList_dst 44 rfl ?_; refine wpList_runG 44 rfl rfl _ (exec_loadI (.tmp 43) rfl (.int .i64 ((m : Int) + 1)) rfl (HX.out.cell 1)) ?_; go_frame))
  go_ret
  exact ⟨rfl, HW.out⟩
set_option maxRecDepth 100000 in
set_option maxHeartbeats 400000 in
theorem st_three_y (t : Nat) (w : World) (ht : t < 1402560) (D Y m x : Nat) (hD : t = 96 * D) (hY : mo D / 12 = Y) (hm' : mo D % 12 = m) (hx : D - ms (mo D) = x) (hxx : x = 0): Calls Tryd.prog 23 #[.int .i64 3, .int .i64 t] w fun e w' => e = .returned (.bool true) ∧ Below w.heap.size w w' := by
  have c0 : ((t : Int) == 1402560) = false := by rw [beq_eq_false_iff_ne]; omega
  have c1 : (t == 1402560) = false := by rw [beq_eq_false_iff_ne]; omega
  have c4 : ((t : Int) % 96 == 0) = true := by rw [beq_iff_eq]; omega
  have c5 : (t : Int) % 96 = 0 := by omega
  have hq : (t : Int) / 96 = (D : Int) := by omega
  have FD := Lib.hid (fun W => rdate_yes D W (by omega))
  rw [hY, hm', hx] at FD
  have HQ := Lib.hid hq
  have HW := Lib.hid (Below.refl w.heap.size w)
  subst hxx
  clear hY hm' hx hq hD
  go_enter Tryd.func23, Tryd.ntmps23
  go_wp2_with fail
  rw [HQ.out]
  refine (FD.out _).mono ?_
  rintro e w1 ⟨rfl, hb⟩
  replace HW := Lib.hid (HW.out.trans (hb.mono HW.out.size))
  clear hb
  go_wp2_with (first | (refine wpList_var rfl rfl 66 5 rfl rfl rfl (.tmp 22) rfl (d4 0 0 0 0) (d4 (2000 + (Y : Int)) ((m : Int) + 1) (((0 : Nat) : Int) + 1) 0) dt_zero rfl rfl rfl dt_size (dt_one _ _ _ _) ?_; intro w2 HX HB; replace HW := Lib.hid (HW.out.trans (HB.out.mono HW.out.size)); clear HB) | (refine wpList_dst 29 rfl ?_; refine wpList_runG 29 rfl rfl _ (exec_fieldAddr 66 (.tmp 5) 2 rfl _ _ rfl (dt_f2 _ _)) ?_; go_frame) | (refine wpList_dst 30 rfl ?_; refine wpList_runG 30 rfl rfl _ (exec_loadI (.tmp 29) rfl (.int .i64 (((0 : Nat) : Int) + 1)) rfl (HX.out.cell 2)) ?_; go_frame) | (refine wpList_dst 38 rfl ?_; refine wpList_runG 38 rfl rfl _ (exec_fieldAddr 66 (.tmp 5) 2 rfl _ _ rfl (dt_f2 _ _)) ?_; go_frame) | (refine wpList_dst 39 rfl ?_; refine wpList_runG 39 rfl rfl _ (exec_loadI (.tmp 38) rfl (.int .i64 (((0 : Nat) : Int) + 1)) rfl (HX.out.cell 2)) ?_; go_frame) | (refine wpList_dst 43 rfl ?_; refine wpList_runG 43 rfl rfl _ (exec_fieldAddr 66 (.tmp 5) 1 rfl _ _ rfl (dt_f1 _ _)) ?_; go_frame) | (refine wpList_dst 44 rfl ?_; refine wpList_runG 44 rfl rfl _ (exec_loadI (.tmp 43) rfl (.int .i64 ((m : Int) + 1)) rfl (HX.out.cell 1)) ?_; go_frame))
  go_ret
  exact ⟨rfl, HW.out⟩
set_option maxRecDepth 100000 in
set_option maxHeartbeats 400000 in
theorem st_three_n (t : Nat) (w : World) (ht : t < 1402560) (D Y m x : Nat) (hD : t = 96 * D) (hY : mo D / 12 = Y) (hm' : mo D % 12 = m) (hx : D - ms (mo D) = x) (hxx : x ≠ 0): Calls Tryd.prog 23 #[.int .i64 3, .int .i64 t] w fun e w' => e = .returned (.bool false) ∧ Below w.heap.size w w' := by
  have c0 : ((t : Int) == 1402560) = false := by rw [beq_eq_false_iff_ne]; omega
  have c1 : (t == 1402560) = false := by rw [beq_eq_false_iff_ne]; omega
  have c4 : ((t : Int) % 96 == 0) = true := by rw [beq_iff_eq]; omega
  have c5 : (t : Int) % 96 = 0 := by omega
  have hq : (t : Int) / 96 = (D : Int) := by omega
  have FD := Lib.hid (fun W => rdate_yes D W (by omega))
  rw [hY, hm', hx] at FD
  have HQ := Lib.hid hq
  have HW := Lib.hid (Below.refl w.heap.size w)
  have c6 : ((x : Int) + 1 == 1) = false := by rw [beq_eq_false_iff_ne]; omega
  clear hY hm' hx hq hD
  go_enter Tryd.func23, Tryd.ntmps23
  go_wp2_with fail
  rw [HQ.out]
  refine (FD.out _).mono ?_
  rintro e w1 ⟨rfl, hb⟩
  replace HW := Lib.hid (HW.out.trans (hb.mono HW.out.size))
  clear hb
  go_wp2_with (first | (refine wpList_var rfl rfl 66 5 rfl rfl rfl (.tmp 22) rfl (d4 0 0 0 0) (d4 (2000 + (Y : Int)) ((m : Int) + 1) ((x : Int) + 1) 0) dt_zero rfl rfl rfl dt_size (dt_one _ _ _ _) ?_; intro w2 HX HB; replace HW := Lib.hid (HW.out.trans (HB.out.mono HW.out.size)); clear HB) | (refine wpList_dst 29 rfl ?_; refine wpList_runG 29 rfl rfl _ (exec_fieldAddr 66 (.tmp 5) 2 rfl _ _ rfl (dt_f2 _ _)) ?_; go_frame) | (refine wpList_dst 30 rfl ?_; refine wpList_runG 30 rfl rfl _ (exec_loadI (.tmp 29) rfl (.int .i64 ((x : Int) + 1)) rfl (HX.out.cell 2)) ?_; go_frame) | (refine wpList_dst 38 rfl ?_; refine wpList_runG 38 rfl rfl _ (exec_fieldAddr 66 (.tmp 5) 2 rfl _ _ rfl (dt_f2 _ _)) ?_; go_frame) | (refine wpList_dst 39 rfl ?_; refine wpList_runG 39 rfl rfl _ (exec_loadI (.tmp 38) rfl (.int .i64 ((x : Int) + 1)) rfl (HX.out.cell 2)) ?_; go_frame) | (refine wpList_dst 43 rfl ?_; refine wpList_runG 43 rfl rfl _ (exec_fieldAddr 66 (.tmp 5) 1 rfl _ _ rfl (dt_f1 _ _)) ?_; go_frame) | (refine wpList_dst 44 rfl ?_; refine wpList_runG 44 rfl rfl _ (exec_loadI (.tmp 43) rfl (.int .i64 ((m : Int) + 1)) rfl (HX.out.cell 1)) ?_; go_frame))
  go_ret
  exact ⟨rfl, HW.out⟩
set_option maxRecDepth 100000 in
set_option maxHeartbeats 400000 in
theorem st_four_n (t : Nat) (w : World) (ht : t < 1402560) (D Y m x : Nat) (hD : t = 96 * D) (hY : mo D / 12 = Y) (hm' : mo D % 12 = m) (hx : D - ms (mo D) = x) (hxx : x ≠ 0): Calls Tryd.prog 23 #[.int .i64 4, .int .i64 t] w fun e w' => e = .returned (.bool false) ∧ Below w.heap.size w w' := by
  have c0 : ((t : Int) == 1402560) = false := by rw [beq_eq_false_iff_ne]; omega
  have c1 : (t == 1402560) = false := by rw [beq_eq_false_iff_ne]; omega
  have c4 : ((t : Int) % 96 == 0) = true := by rw [beq_iff_eq]; omega
  have c5 : (t : Int) % 96 = 0 := by omega
  have hq : (t : Int) / 96 = (D : Int) := by omega
  have FD := Lib.hid (fun W => rdate_yes D W (by omega))
  rw [hY, hm', hx] at FD
  have HQ := Lib.hid hq
  have HW := Lib.hid (Below.refl w.heap.size w)
  have c6 : ((x : Int) + 1 == 1) = false := by rw [beq_eq_false_iff_ne]; omega
  clear hY hm' hx hq hD
  go_enter Tryd.func23, Tryd.ntmps23
  go_wp2_with fail
  rw [HQ.out]
  refine (FD.out _).mono ?_
  rintro e w1 ⟨rfl, hb⟩
  replace HW := Lib.hid (HW.out.trans (hb.mono HW.out.size))
  clear hb
  go_wp2_with (first | (refine wpList_var rfl rfl 66 5 rfl rfl rfl (.tmp 22) rfl (d4 0 0 0 0) (d4 (2000 + (Y : Int)) ((m : Int) + 1) ((x : Int) + 1) 0) dt_zero rfl rfl rfl dt_size (dt_one _ _ _ _) ?_; intro w2 HX HB; replace HW := Lib.hid (HW.out.trans (HB.out.mono HW.out.size)); clear HB) | (refine wpList_dst 29 rfl ?_; refine wpList_runG 29 rfl rfl _ (exec_fieldAddr 66 (.tmp 5) 2 rfl _ _ rfl (dt_f2 _ _)) ?_; go_frame) | (refine wpList_dst 30 rfl ?_; refine wpList_runG 30 rfl rfl _ (exec_loadI (.tmp 29) rfl (.int .i64 ((x : Int) + 1)) rfl (HX.out.cell 2)) ?_; go_frame) | (refine wpList_dst 38 rfl ?_; refine wpList_runG 38 rfl rfl _ (exec_fieldAddr 66 (.tmp 5) 2 rfl _ _ rfl (dt_f2 _ _)) ?_; go_frame) | (refine wpList_dst 39 rfl ?_; refine wpList_runG 39 rfl rfl _ (exec_loadI (.tmp 38) rfl (.int .i64 ((x : Int) + 1)) rfl (HX.out.cell 2)) ?_; go_frame) | (refine wpList_dst 43 rfl ?_; refine wpList_runG 43 rfl rfl _ (exec_fieldAddr 66 (.tmp 5) 1 rfl _ _ rfl (dt_f1 _ _)) ?_; go_frame) | (refine wpList_dst 44 rfl ?_; refine wpList_runG 44 rfl rfl _ (exec_loadI (.tmp 43) rfl (.int .i64 ((m : Int) + 1)) rfl (HX.out.cell 1)) ?_; go_frame))
  go_ret
  exact ⟨rfl, HW.out⟩
set_option maxRecDepth 100000 in
set_option maxHeartbeats 400000 in
theorem st_four_y (t : Nat) (w : World) (ht : t < 1402560) (D Y m x : Nat) (hD : t = 96 * D) (hY : mo D / 12 = Y) (hm' : mo D % 12 = m) (hx : D - ms (mo D) = x) (hxx : x = 0) (hm : m = 0): Calls Tryd.prog 23 #[.int .i64 4, .int .i64 t] w fun e w' => e = .returned (.bool true) ∧ Below w.heap.size w w' := by
  have c0 : ((t : Int) == 1402560) = false := by rw [beq_eq_false_iff_ne]; omega
  have c1 : (t == 1402560) = false := by rw [beq_eq_false_iff_ne]; omega
  have c4 : ((t : Int) % 96 == 0) = true := by rw [beq_iff_eq]; omega
  have c5 : (t : Int) % 96 = 0 := by omega
  have hq : (t : Int) / 96 = (D : Int) := by omega
  have FD := Lib.hid (fun W => rdate_yes D W (by omega))
  rw [hY, hm', hx] at FD
  have HQ := Lib.hid hq
  have HW := Lib.hid (Below.refl w.heap.size w)
  subst hxx
  subst hm
  clear hY hm' hx hq hD
  go_enter Tryd.func23, Tryd.ntmps23
  go_wp2_with fail
  rw [HQ.out]
  refine (FD.out _).mono ?_
  rintro e w1 ⟨rfl, hb⟩
  replace HW := Lib.hid (HW.out.trans (hb.mono HW.out.size))
  clear hb
  go_wp2_with (first | (refine wpList_var rfl rfl 66 5 rfl rfl rfl (.tmp 22) rfl (d4 0 0 0 0) (d4 (2000 + (Y : Int)) (((0 : Nat) : Int) + 1) (((0 : Nat) : Int) + 1) 0) dt_zero rfl rfl rfl dt_size (dt_one _ _ _ _) ?_; intro w2 HX HB; replace HW := Lib.hid (HW.out.trans (HB.out.mono HW.out.size)); clear HB) | (refine wpList_dst 29 rfl ?_; refine wpList_runG 29 rfl rfl _ (exec_fieldAddr 66 (.tmp 5) 2 rfl _ _ rfl (dt_f2 _ _)) ?_; go_frame) | (refine wpList_dst 30 rfl ?_; refine wpList_runG 30 rfl rfl _ (exec_loadI (.tmp 29) rfl (.int .i64 (((0 : Nat) : Int) + 1)) rfl (HX.out.cell 2)) ?_; go_frame) | (refine wpList_dst 38 rfl ?_; refine wpList_runG 38 rfl rfl _ (exec_fieldAddr 66 (.tmp 5) 2 rfl _ _ rfl (dt_f2 _ _)) ?_; go_frame) | (refine wpList_dst 39 rfl ?_; refine wpList_runG 39 rfl rfl _ (exec_loadI (.tmp 38) rfl (.int .i64 (((0 : Nat) : Int) + 1)) rfl (HX.out.cell 2)) ?_; go_frame) | (refine wpList_dst 43 rfl ?_; refine wpList_runG 43 rfl rfl _ (exec_fieldAddr 66 (.tmp 5) 1 rfl _ _ rfl (dt_f1 _ _)) ?_; go_frame) | (refine wpList_dst 44 rfl ?_; refine wpList_runG 44 rfl rfl _ (exec_loadI (.tmp 43) rfl (.int .i64 (((0 : Nat) : Int) + 1)) rfl (HX.out.cell 1)) ?_; go_frame))
  go_ret
  exact ⟨rfl, HW.out⟩
set_option maxRecDepth 100000 in
set_option maxHeartbeats 400000 in
theorem st_four_m (t : Nat) (w : World) (ht : t < 1402560) (D Y m x : Nat) (hD : t = 96 * D) (hY : mo D / 12 = Y) (hm' : mo D % 12 = m) (hx : D - ms (mo D) = x) (hxx : x = 0) (hm : m ≠ 0): Calls Tryd.prog 23 #[.int .i64 4, .int .i64 t] w fun e w' => e = .returned (.bool false) ∧ Below w.heap.size w w' := by
  have c0 : ((t : Int) == 1402560) = false := by rw [beq_eq_false_iff_ne]; omega
  have c1 : (t == 1402560) = false := by rw [beq_eq_false_iff_ne]; omega
  have c4 : ((t : Int) % 96 == 0) = true := by rw [beq_iff_eq]; omega
  have c5 : (t : Int) % 96 = 0 := by omega
  have hq : (t : Int) / 96 = (D : Int) := by omega
  have FD := Lib.hid (fun W => rdate_yes D W (by omega))
  rw [hY, hm', hx] at FD
  have HQ := Lib.hid hq
  have HW := Lib.hid (Below.refl w.heap.size w)
  subst hxx
  have c7 : ((m : Int) + 1 == 1) = false := by rw [beq_eq_false_iff_ne]; omega
  clear hY hm' hx hq hD
  go_enter Tryd.func23, Tryd.ntmps23
  go_wp2_with fail
  rw [HQ.out]
  refine (FD.out _).mono ?_
  rintro e w1 ⟨rfl, hb⟩
  replace HW := Lib.hid (HW.out.trans (hb.mono HW.out.size))
  clear hb
  go_wp2_with (first | (refine wpList_var rfl rfl 66 5 rfl rfl rfl (.tmp 22) rfl (d4 0 0 0 0) (d4 (2000 + (Y : Int)) ((m : Int) + 1) (((0 : Nat) : Int) + 1) 0) dt_zero rfl rfl rfl dt_size (dt_one _ _ _ _) ?_; intro w2 HX HB; replace HW := Lib.hid (HW.out.trans (HB.out.mono HW.out.size)); clear HB) | (refine wpList_dst 29 rfl ?_; refine wpList_runG 29 rfl rfl _ (exec_fieldAddr 66 (.tmp 5) 2 rfl _ _ rfl (dt_f2 _ _)) ?_; go_frame) | (refine wpList_dst 30 rfl ?_; refine wpList_runG 30 rfl rfl _ (exec_loadI (.tmp 29) rfl (.int .i64 (((0 : Nat) : Int) + 1)) rfl (HX.out.cell 2)) ?_; go_frame) | (refine wpList_dst 38 rfl ?_; refine wpList_runG 38 rfl rfl _ (exec_fieldAddr 66 (.tmp 5) 2 rfl _ _ rfl (dt_f2 _ _)) ?_; go_frame) | (refine wpList_dst 39 rfl ?_; refine wpList_runG 39 rfl rfl _ (exec_loadI (.tmp 38) rfl (.int .i64 (((0 : Nat) : Int) + 1)) rfl (HX.out.cell 2)) ?_; go_frame) | (refine wpList_dst 43 rfl ?_; refine wpList_runG 43 rfl rfl _ (exec_fieldAddr 66 (.tmp 5) 1 rfl _ _ rfl (dt_f1 _ _)) ?_; go_frame) | (refine wpList_dst 44 rfl ?_; refine wpList_runG 44 rfl rfl _ (exec_loadI (.tmp 43) rfl (.int .i64 ((m : Int) + 1)) rfl (HX.out.cell 1)) ?_; go_frame))
  go_ret
  exact ⟨rfl, HW.out⟩
theorem rstart_any (L t : Nat) (w : World) (hL : L ≤ 4) (ht : t ≤ M) : Calls Tryd.prog 23 #[.int .i64 L, .int .i64 t] w fun e w' => e = .returned (.bool (stB L t)) ∧ Below w.heap.size w w' := by
  have hM : M = 1402560 := rfl
  rcases Nat.lt_or_ge t M with h | h
  · have hlt : t < 1402560 := by omega
    have hne : (t == M) = false := by rw [beq_eq_false_iff_ne]; omega
    rcases Nat.lt_or_ge L 2 with h2 | h2
    · rcases Nat.eq_zero_or_pos L with rfl | hp
      · rw [show stB 0 t = true by unfold stB; rw [show fl 0 t = t from rfl, beq_self_eq_true, Bool.or_true]]
        exact st_zero t w
      · obtain rfl : L = 1 := by omega
        rw [show stB 1 t = (t % 4 == 0) by unfold stB; rw [hne, Bool.false_or, show fl 1 t = t - t % 4 from rfl, Bool.eq_iff_iff, beq_iff_eq, beq_iff_eq]; omega]
        exact st_one t w hlt
    · by_cases h96 : t % 96 = 0
      · have hD : t = 96 * (t / 96) := by omega
        rcases Nat.lt_or_ge L 3 with h3 | h3
        · obtain rfl : L = 2 := by omega
          rw [show stB 2 t = true by unfold stB; rw [hne, Bool.false_or, show fl 2 t = t - t % 96 from rfl, beq_iff_eq]; omega]
          exact st_two t w hlt _ _ _ _ hD rfl rfl rfl
        · rcases Nat.lt_or_ge L 4 with h4 | h4
          · obtain rfl : L = 3 := by omega
            rw [stB_three h h96]
            by_cases hx : t / 96 - ms (mo (t / 96)) = 0
            · rw [decide_eq_true hx]; exact st_three_y t w hlt _ _ _ _ hD rfl rfl rfl hx
            · rw [decide_eq_false hx]; exact st_three_n t w hlt _ _ _ _ hD rfl rfl rfl hx
          · obtain rfl : L = 4 := by omega
            rw [stB_four h h96]
            by_cases hx : t / 96 - ms (mo (t / 96)) = 0
            · rw [decide_eq_true hx, Bool.true_and]
              by_cases hm : mo (t / 96) % 12 = 0
              · rw [decide_eq_true hm]; exact st_four_y t w hlt _ _ _ _ hD rfl rfl rfl hx hm
              · rw [decide_eq_false hm]; exact st_four_m t w hlt _ _ _ _ hD rfl rfl rfl hx hm
            · rw [decide_eq_false hx, Bool.false_and]; exact st_four_n t w hlt _ _ _ _ hD rfl rfl rfl hx
      · rw [stB_off h2 h h96]
        exact st_off L t w hlt (by omega) h96
  · obtain rfl : t = M := by omega
    rw [show stB L M = true by unfold stB; rw [beq_self_eq_true, Bool.true_or]]
    exact st_end L w
end Go.Proofs.YtmifpaafpmibmaaDoor
