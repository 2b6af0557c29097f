/- The reference's inclusion and consistency. -/
import Derived.Test.YtfbemmeonkceiaaDoorKRr2
namespace Go.Proofs.YtfbemmeonkceiaaDoor
open Go.RowKit Hm Wm

set_option maxRecDepth 1000000 in
set_option maxHeartbeats 4000000 in
theorem rincl_any (k : Nat) : ∀ (l : List Dg) (i : Nat) (A : Option Addr) (c : Nat) (w : World), l.length ≤ k → i < l.length → l.length ≤ c → l.length ≤ 1000 → RTab w → RdD w A l →
    Calls Tryd.prog 35 #[.slice A l.length c, .int .i64 i] w fun e w' => ∃ v, e = .returned v ∧ NewD w' (inclD l i) v ∧ Below w.heap.size w w' := by
  induction k with
  | zero => intro l i A c w hk hi; omega
  | succ k ih =>
  intro l i A c w hk hi hc hn hg hr
  by_cases h1 : l.length = 1
  · have d1 : ((l.length : Int) == 1) = true := by rw [h1]; rfl
    have HX := Lib.hid (inclD_one (l := l) i (by omega))
    clear h1 hr hg ih
    go_enter Tryd.func35, Tryd.ntmps35
    go_wp2
    go_ret
    exact ⟨_, rfl, by rw [HX.out]; exact ⟨none, 0, rfl, Rd.nil _ _, Nat.le_refl _⟩, Below.refl _ _⟩
  · have d1 : ((l.length : Int) == 1) = false := by rw [beq_eq_false_iff_ne]; omega
    have d1' : (l.length == 1) = false := by rw [beq_eq_false_iff_ne]; omega
    have h2 : 2 ≤ l.length := by omega
    have hlt := hf_lt h2
    have hp := hf_pos l.length
    have e1 : (l.take (hf l.length)).length = hf l.length := by rw [List.length_take]; omega
    have e2 : (l.drop (hf l.length)).length = l.length - hf l.length := List.length_drop
    by_cases hlo : i < hf l.length
    · have hx := inclD_lo h2 hlo
      have c1 := fun (w' : World) (hg' : RTab w') (hr' : RdD w' A (l.take (hf l.length))) => ih (l.take (hf l.length)) i A c w' (by omega) (by omega) (by omega) (by omega) hg' hr'
      have c2 := fun (w' : World) (hg' : RTab w') (hr' : RdD w' (dA A l.length (hf l.length)) (l.drop (hf l.length))) => rroot_any l.length (l.drop (hf l.length)) (dA A l.length (hf l.length)) (c - hf l.length) w' (by omega) (by omega) (by omega) hg' hr'
      have hrl := inclD_len (l.take (hf l.length)) i
      rw [e1] at c1 hrl
      rw [e2] at c2
      have HP := Lib.hid (fun w' => split_any l.length w' h2 (by omega))
      have r1 := hr.take (hf l.length)
      have r2 := hr.drop (hf l.length)
      obtain ⟨h, hh⟩ : ∃ h, hf l.length = h := ⟨_, rfl⟩
      have HR1 := Lib.hid r1
      have HR2 := Lib.hid r2
      have HG := Lib.hid hg
      rw [hh] at c1 c2 hlt hp hlo hx hrl HR1 HR2 HP
      obtain ⟨RL, hRL⟩ : ∃ RL, inclD (l.take h) i = RL := ⟨_, rfl⟩
      obtain ⟨RT, hRT⟩ : ∃ RT, rootD (l.drop h) = RT := ⟨_, rfl⟩
      rw [hRL] at c1 hx hrl
      rw [hRT] at c2 hx
      have HC1 := Lib.hid c1
      have HCR := Lib.hid c2
      have HX := Lib.hid hx
      have HRL := Lib.hid (show RL.length ≤ 100000 by omega)
      have d2 : decide ((i : Int) < (h : Int)) = true := decide_eq_true (by omega)
      clear c1 c2 r1 r2 hr hg ih hx hRL hRT hrl e1 e2 hh
      go_enter Tryd.func35, Tryd.ntmps35
      go_wp2_with fail
      refine (HP.out _).mono ?_
      rintro e w ⟨rfl, rfl⟩
      go_wp2_with fail
      refine wp_region_held_drew (S := fun _ => True) (by kernel_rfl) trivial (fun _ => ?_)
      have hD := (Below.refl w.heap.size w).drew
      generalize w.drew = w4 at hD ⊢
      refine reg_takeG (i := 0) (some 15) rfl rfl rfl (by kernel_rfl) (by kernel_rfl) (by kernel_rfl) (.slice A l.length c) (fun _ _ _ h => h) (fun W hW => exec_move (.tmp 0) rfl _ rfl) trivial ?_
      go_frame
      refine reg_takeG (i := 1) (some 16) rfl rfl rfl (by kernel_rfl) (by kernel_rfl) (by kernel_rfl) (.int .i64 h) (fun _ _ _ h => h) (fun W hW => exec_move (.tmp 5) rfl _ rfl) trivial ?_
      go_frame
      refine reg_takeG (i := 2) (some 17) rfl rfl rfl (by kernel_rfl) (by kernel_rfl) (by kernel_rfl) (.slice A h c) (fun _ _ _ h => h) (fun W hW => exec_hiD (.tmp 15) (.tmp 16) rfl A l.length c h (by omega) hc rfl rfl) trivial ?_
      go_frame
      refine reg_takeG (i := 3) (some 18) rfl rfl rfl (by kernel_rfl) (by kernel_rfl) (by kernel_rfl) (.int .i64 i) (fun _ _ _ h => h) (fun W hW => exec_move (.tmp 1) rfl _ rfl) trivial ?_
      go_frame
      refine reg_takeG (i := 5) (some 20) rfl rfl rfl (by kernel_rfl) (by kernel_rfl) (by kernel_rfl) (.slice A l.length c) (fun _ _ _ h => h) (fun W hW => exec_move (.tmp 0) rfl _ rfl) trivial ?_
      go_frame
      refine reg_takeG (i := 6) (some 21) rfl rfl rfl (by kernel_rfl) (by kernel_rfl) (by kernel_rfl) (.int .i64 h) (fun _ _ _ h => h) (fun W hW => exec_move (.tmp 5) rfl _ rfl) trivial ?_
      go_frame
      refine reg_takeG (i := 7) (some 22) rfl rfl rfl (by kernel_rfl) (by kernel_rfl) (by kernel_rfl) (.slice (dA A l.length h) (l.length - h : Nat) (c - h : Nat)) (fun _ _ _ h => h) (fun W hW => exec_loD (.tmp 20) (.tmp 21) rfl A l.length c h hlt hc rfl rfl) trivial ?_
      go_frame
      refine reg_callG (i := 4) (some 19) rfl rfl rfl (by kernel_rfl) rfl Tryd.func35 (by kernel_rfl) (by kernel_rfl) #[.slice A h c, .int .i64 i] rfl (HC1.out w4 (HG.out.next hD) (HR1.out.below hD)) ?_
      rintro e w5 ⟨v, rfl, ⟨A5, c5, rfl, h5, -⟩, hb5⟩
      have hD5 := hD.trans (hb5.mono hD.size)
      refine ⟨_, rfl, trivial, ?_⟩
      go_frame
      refine reg_callG (i := 8) (some 23) rfl rfl rfl (by kernel_rfl) rfl Tryd.func16 (by kernel_rfl) (by kernel_rfl) #[.slice (dA A l.length h) (l.length - h : Nat) (c - h : Nat)] rfl (HCR.out w5 (HG.out.next hD5) (HR2.out.below hD5)) ?_
      rintro e w6 ⟨rfl, hb6⟩
      have hD6 := hD5.trans (hb6.mono hD5.size)
      refine ⟨_, rfl, trivial, ?_⟩
      go_frame
      refine reg_callG (i := 9) (some 24) rfl rfl rfl (by kernel_rfl) rfl Tryd.func62 (by kernel_rfl) (by kernel_rfl) #[.slice A5 RL.length c5, dv RT] rfl (rwith_any A5 c5 RL RT w6 (h5.below hb6) HRL.out) ?_
      rintro e w7 ⟨v7, rfl, h7, hb7⟩
      have hD7 := hD6.trans (hb7.mono hD6.size)
      refine ⟨_, rfl, trivial, ?_⟩
      go_frame
      refine reg_valueG (i := 10) (some 4) rfl rfl rfl (by kernel_rfl) v7 (exec_assign (.tmp 24) rfl _ rfl) trivial ?_
      go_frame
      refine wpAnyH_done (by kernel_rfl) ?_ _
      have HN := Lib.hid h7
      have HF := Lib.hid hD7
      clear hD hb5 hD5 h5 hb6 hD6 hb7 hD7 h7
      go_wp2
      go_ret
      exact ⟨v7, rfl, by rw [HX.out]; exact HN.out, HF.out⟩
    · have hx := inclD_hi h2 (i := i) (by omega)
      have c1 := fun (w' : World) (hg' : RTab w') (hr' : RdD w' (dA A l.length (hf l.length)) (l.drop (hf l.length))) => ih (l.drop (hf l.length)) (i - hf l.length) (dA A l.length (hf l.length)) (c - hf l.length) w' (by omega) (by omega) (by omega) (by omega) hg' hr'
      have c2 := fun (w' : World) (hg' : RTab w') (hr' : RdD w' A (l.take (hf l.length))) => rroot_any l.length (l.take (hf l.length)) A c w' (by omega) (by omega) (by omega) hg' hr'
      have hrl := inclD_len (l.drop (hf l.length)) (i - hf l.length)
      rw [e2] at c1 hrl
      rw [e1] at c2
      have HP := Lib.hid (fun w' => split_any l.length w' h2 (by omega))
      have r1 := hr.take (hf l.length)
      have r2 := hr.drop (hf l.length)
      obtain ⟨h, hh⟩ : ∃ h, hf l.length = h := ⟨_, rfl⟩
      have HR1 := Lib.hid r1
      have HR2 := Lib.hid r2
      have HG := Lib.hid hg
      rw [hh] at c1 c2 hlt hp hlo hx hrl HR1 HR2 HP
      obtain ⟨RL, hRL⟩ : ∃ RL, inclD (l.drop h) (i - h) = RL := ⟨_, rfl⟩
      obtain ⟨RT, hRT⟩ : ∃ RT, rootD (l.take h) = RT := ⟨_, rfl⟩
      rw [hRL] at c1 hx hrl
      rw [hRT] at c2 hx
      have HC1 := Lib.hid c1
      have HCR := Lib.hid c2
      have HX := Lib.hid hx
      have HRL := Lib.hid (show RL.length ≤ 100000 by omega)
      have d2 : decide ((i : Int) < (h : Int)) = false := decide_eq_false (by omega)
      have HSB := Lib.hid (show IntKind.i64.wrap ((i : Int) - (h : Int)) = ((i - h : Nat) : Int) by rw [IntWalk.i64_in _ (by omega)]; omega)
      clear c1 c2 r1 r2 hr hg ih hx hRL hRT hrl e1 e2 hh
      go_enter Tryd.func35, Tryd.ntmps35
      go_wp2_with fail
      refine (HP.out _).mono ?_
      rintro e w ⟨rfl, rfl⟩
      go_wp2_with fail
      refine wp_region_held_drew (S := fun _ => True) (by kernel_rfl) trivial (fun _ => ?_)
      have hD := (Below.refl w.heap.size w).drew
      generalize w.drew = w4 at hD ⊢
      refine reg_takeG (i := 0) (some 25) rfl rfl rfl (by kernel_rfl) (by kernel_rfl) (by kernel_rfl) (.slice A l.length c) (fun _ _ _ h => h) (fun W hW => exec_move (.tmp 0) rfl _ rfl) trivial ?_
      go_frame
      refine reg_takeG (i := 1) (some 26) rfl rfl rfl (by kernel_rfl) (by kernel_rfl) (by kernel_rfl) (.int .i64 h) (fun _ _ _ h => h) (fun W hW => exec_move (.tmp 5) rfl _ rfl) trivial ?_
      go_frame
      refine reg_takeG (i := 2) (some 27) rfl rfl rfl (by kernel_rfl) (by kernel_rfl) (by kernel_rfl) (.slice (dA A l.length h) (l.length - h : Nat) (c - h : Nat)) (fun _ _ _ h => h) (fun W hW => exec_loD (.tmp 25) (.tmp 26) rfl A l.length c h hlt hc rfl rfl) trivial ?_
      go_frame
      refine reg_takeG (i := 3) (some 28) rfl rfl rfl (by kernel_rfl) (by kernel_rfl) (by kernel_rfl) (.int .i64 i) (fun _ _ _ h => h) (fun W hW => exec_move (.tmp 1) rfl _ rfl) trivial ?_
      go_frame
      refine reg_takeG (i := 4) (some 29) rfl rfl rfl (by kernel_rfl) (by kernel_rfl) (by kernel_rfl) (.int .i64 h) (fun _ _ _ h => h) (fun W hW => exec_move (.tmp 5) rfl _ rfl) trivial ?_
      go_frame
      refine reg_takeG (i := 5) (some 30) rfl rfl rfl (by kernel_rfl) (by kernel_rfl) (by kernel_rfl) (.int .i64 ((i - h : Nat) : Int)) (fun _ _ _ h => h) (fun W hW => exec_subI _ (.tmp 28) (.tmp 29) _ rfl _ _ _ rfl rfl HSB.out) trivial ?_
      go_frame
      refine reg_takeG (i := 7) (some 32) rfl rfl rfl (by kernel_rfl) (by kernel_rfl) (by kernel_rfl) (.slice A l.length c) (fun _ _ _ h => h) (fun W hW => exec_move (.tmp 0) rfl _ rfl) trivial ?_
      go_frame
      refine reg_takeG (i := 8) (some 33) rfl rfl rfl (by kernel_rfl) (by kernel_rfl) (by kernel_rfl) (.int .i64 h) (fun _ _ _ h => h) (fun W hW => exec_move (.tmp 5) rfl _ rfl) trivial ?_
      go_frame
      refine reg_takeG (i := 9) (some 34) rfl rfl rfl (by kernel_rfl) (by kernel_rfl) (by kernel_rfl) (.slice A h c) (fun _ _ _ h => h) (fun W hW => exec_hiD (.tmp 32) (.tmp 33) rfl A l.length c h (by omega) hc rfl rfl) trivial ?_
      go_frame
      refine reg_callG (i := 6) (some 31) rfl rfl rfl (by kernel_rfl) rfl Tryd.func35 (by kernel_rfl) (by kernel_rfl) #[.slice (dA A l.length h) (l.length - h : Nat) (c - h : Nat), .int .i64 ((i - h : Nat) : Int)] rfl (HC1.out w4 (HG.out.next hD) (HR2.out.below hD)) ?_
      rintro e w5 ⟨v, rfl, ⟨A5, c5, rfl, h5, -⟩, hb5⟩
      have hD5 := hD.trans (hb5.mono hD.size)
      refine ⟨_, rfl, trivial, ?_⟩
      go_frame
      refine reg_callG (i := 10) (some 35) rfl rfl rfl (by kernel_rfl) rfl Tryd.func16 (by kernel_rfl) (by kernel_rfl) #[.slice A h c] rfl (HCR.out w5 (HG.out.next hD5) (HR1.out.below hD5)) ?_
      rintro e w6 ⟨rfl, hb6⟩
      have hD6 := hD5.trans (hb6.mono hD5.size)
      refine ⟨_, rfl, trivial, ?_⟩
      go_frame
      refine reg_callG (i := 11) (some 36) rfl rfl rfl (by kernel_rfl) rfl Tryd.func62 (by kernel_rfl) (by kernel_rfl) #[.slice A5 RL.length c5, dv RT] rfl (rwith_any A5 c5 RL RT w6 (h5.below hb6) HRL.out) ?_
      rintro e w7 ⟨v7, rfl, h7, hb7⟩
      have hD7 := hD6.trans (hb7.mono hD6.size)
      refine ⟨_, rfl, trivial, ?_⟩
      go_frame
      refine reg_valueG (i := 12) (some 4) rfl rfl rfl (by kernel_rfl) v7 (exec_assign (.tmp 36) rfl _ rfl) trivial ?_
      go_frame
      refine wpAnyH_done (by kernel_rfl) ?_ _
      have HN := Lib.hid h7
      have HF := Lib.hid hD7
      clear hD hb5 hD5 h5 hb6 hD6 hb7 hD7 h7
      go_wp2
      go_ret
      exact ⟨v7, rfl, by rw [HX.out]; exact HN.out, HF.out⟩

set_option maxRecDepth 1000000 in
set_option maxHeartbeats 4000000 in
theorem rcons_any (k : Nat) : ∀ (l : List Dg) (m : Nat) (mark : Bool) (A : Option Addr) (c : Nat) (w : World), l.length ≤ k → 1 ≤ m → m ≤ l.length → l.length ≤ c → l.length ≤ 1000 → RTab w → RdD w A l →
    Calls Tryd.prog 36 #[.slice A l.length c, .int .i64 m, .bool mark] w fun e w' => ∃ v, e = .returned v ∧ NewD w' (consD l m mark) v ∧ Below w.heap.size w w' := by
  induction k with
  | zero => intro l m mark A c w hk h1 h2; omega
  | succ k ih =>
  intro l m mark A c w hk hm1 hm hc hn hg hr
  by_cases h1 : m = l.length
  · subst h1
    have d1 : ((l.length : Int) == (l.length : Int)) = true := by simp
    cases mark
    case true =>
      have HX := Lib.hid (consD_all (l := l))
      clear hr hg ih
      go_enter Tryd.func36, Tryd.ntmps36
      go_wp2
      go_ret
      exact ⟨_, rfl, by rw [HX.out]; exact ⟨none, 0, rfl, Rd.nil _ _, Nat.le_refl _⟩, Below.refl _ _⟩
    case false =>
      have HX := Lib.hid (consD_all' (l := l))
      have HC := Lib.hid (rroot_any l.length l A c w (Nat.le_refl _) hc (by omega) hg hr)
      clear hr hg ih
      go_enter Tryd.func36, Tryd.ntmps36
      go_wp2_with fail
      refine HC.out.mono ?_
      rintro e w2 ⟨rfl, hb⟩
      have HB := Lib.hid hb
      obtain ⟨d, hd⟩ : ∃ d, rootD l = d := ⟨_, rfl⟩
      rw [hd]
      have HD := Lib.hid hd
      clear hb hd HC
      go_wp2_with (refine wpList_buildD rfl 1 _ rfl [d] rfl (by simp) (by simp) rfl ?_; intro A4 w4 h4 hb4; have HR4 := Lib.hid h4; have HB4 := Lib.hid (HB.out.trans (hb4.mono HB.out.size)); clear h4 hb4)
      go_ret
      exact ⟨_, rfl, by rw [HX.out, HD.out]; exact ⟨A4, 1, rfl, HR4.out, Nat.le_refl _⟩, HB4.out⟩
  · have d1 : ((m : Int) == (l.length : Int)) = false := by rw [beq_eq_false_iff_ne]; omega
    have d1' : (m == l.length) = false := by rw [beq_eq_false_iff_ne]; omega
    have h2 : 2 ≤ l.length := by omega
    have hlt := hf_lt h2
    have hp := hf_pos l.length
    have e1 : (l.take (hf l.length)).length = hf l.length := by rw [List.length_take]; omega
    have e2 : (l.drop (hf l.length)).length = l.length - hf l.length := List.length_drop
    by_cases hlo : m ≤ hf l.length
    · have hx := consD_lo mark h2 h1 hlo
      have c1 := fun (w' : World) (hg' : RTab w') (hr' : RdD w' A (l.take (hf l.length))) => ih (l.take (hf l.length)) m mark A c w' (by omega) hm1 (by omega) (by omega) (by omega) hg' hr'
      have c2 := fun (w' : World) (hg' : RTab w') (hr' : RdD w' (dA A l.length (hf l.length)) (l.drop (hf l.length))) => rroot_any l.length (l.drop (hf l.length)) (dA A l.length (hf l.length)) (c - hf l.length) w' (by omega) (by omega) (by omega) hg' hr'
      have hrl := consD_len (l.take (hf l.length)) m mark hm1 (by omega)
      rw [e1] at c1 hrl
      rw [e2] at c2
      have HP := Lib.hid (fun w' => split_any l.length w' h2 (by omega))
      have r1 := hr.take (hf l.length)
      have r2 := hr.drop (hf l.length)
      obtain ⟨h, hh⟩ : ∃ h, hf l.length = h := ⟨_, rfl⟩
      have HR1 := Lib.hid r1
      have HR2 := Lib.hid r2
      have HG := Lib.hid hg
      rw [hh] at c1 c2 hlt hp hlo hx hrl HR1 HR2 HP
      obtain ⟨RL, hRL⟩ : ∃ RL, consD (l.take h) m mark = RL := ⟨_, rfl⟩
      obtain ⟨RT, hRT⟩ : ∃ RT, rootD (l.drop h) = RT := ⟨_, rfl⟩
      rw [hRL] at c1 hx hrl
      rw [hRT] at c2 hx
      have HC1 := Lib.hid c1
      have HCR := Lib.hid c2
      have HX := Lib.hid hx
      have HRL := Lib.hid (show RL.length ≤ 100000 by omega)
      have d2 : decide ((m : Int) ≤ (h : Int)) = true := decide_eq_true (by omega)
      clear c1 c2 r1 r2 hr hg ih hx hRL hRT hrl e1 e2 hh
      go_enter Tryd.func36, Tryd.ntmps36
      go_wp2_with fail
      refine (HP.out _).mono ?_
      rintro e w ⟨rfl, rfl⟩
      go_wp2_with fail
      refine wp_region_held_drew (S := fun _ => True) (by kernel_rfl) trivial (fun _ => ?_)
      have hD := (Below.refl w.heap.size w).drew
      generalize w.drew = w4 at hD ⊢
      refine reg_takeG (i := 0) (some 22) rfl rfl rfl (by kernel_rfl) (by kernel_rfl) (by kernel_rfl) (.slice A l.length c) (fun _ _ _ h => h) (fun W hW => exec_move (.tmp 0) rfl _ rfl) trivial ?_
      go_frame
      refine reg_takeG (i := 1) (some 23) rfl rfl rfl (by kernel_rfl) (by kernel_rfl) (by kernel_rfl) (.int .i64 h) (fun _ _ _ h => h) (fun W hW => exec_move (.tmp 7) rfl _ rfl) trivial ?_
      go_frame
      refine reg_takeG (i := 2) (some 24) rfl rfl rfl (by kernel_rfl) (by kernel_rfl) (by kernel_rfl) (.slice A h c) (fun _ _ _ h => h) (fun W hW => exec_hiD (.tmp 22) (.tmp 23) rfl A l.length c h (by omega) hc rfl rfl) trivial ?_
      go_frame
      refine reg_takeG (i := 3) (some 25) rfl rfl rfl (by kernel_rfl) (by kernel_rfl) (by kernel_rfl) (.int .i64 m) (fun _ _ _ h => h) (fun W hW => exec_move (.tmp 1) rfl _ rfl) trivial ?_
      go_frame
      refine reg_takeG (i := 4) (some 26) rfl rfl rfl (by kernel_rfl) (by kernel_rfl) (by kernel_rfl) (.bool mark) (fun _ _ _ h => h) (fun W hW => exec_move (.tmp 2) rfl _ rfl) trivial ?_
      go_frame
      refine reg_takeG (i := 6) (some 28) rfl rfl rfl (by kernel_rfl) (by kernel_rfl) (by kernel_rfl) (.slice A l.length c) (fun _ _ _ h => h) (fun W hW => exec_move (.tmp 0) rfl _ rfl) trivial ?_
      go_frame
      refine reg_takeG (i := 7) (some 29) rfl rfl rfl (by kernel_rfl) (by kernel_rfl) (by kernel_rfl) (.int .i64 h) (fun _ _ _ h => h) (fun W hW => exec_move (.tmp 7) rfl _ rfl) trivial ?_
      go_frame
      refine reg_takeG (i := 8) (some 30) rfl rfl rfl (by kernel_rfl) (by kernel_rfl) (by kernel_rfl) (.slice (dA A l.length h) (l.length - h : Nat) (c - h : Nat)) (fun _ _ _ h => h) (fun W hW => exec_loD (.tmp 28) (.tmp 29) rfl A l.length c h hlt hc rfl rfl) trivial ?_
      go_frame
      refine reg_callG (i := 5) (some 27) rfl rfl rfl (by kernel_rfl) rfl Tryd.func36 (by kernel_rfl) (by kernel_rfl) #[.slice A h c, .int .i64 m, .bool mark] rfl (HC1.out w4 (HG.out.next hD) (HR1.out.below hD)) ?_
      rintro e w5 ⟨v, rfl, ⟨A5, c5, rfl, h5, -⟩, hb5⟩
      have hD5 := hD.trans (hb5.mono hD.size)
      refine ⟨_, rfl, trivial, ?_⟩
      go_frame
      refine reg_callG (i := 9) (some 31) rfl rfl rfl (by kernel_rfl) rfl Tryd.func16 (by kernel_rfl) (by kernel_rfl) #[.slice (dA A l.length h) (l.length - h : Nat) (c - h : Nat)] rfl (HCR.out w5 (HG.out.next hD5) (HR2.out.below hD5)) ?_
      rintro e w6 ⟨rfl, hb6⟩
      have hD6 := hD5.trans (hb6.mono hD5.size)
      refine ⟨_, rfl, trivial, ?_⟩
      go_frame
      refine reg_callG (i := 10) (some 32) rfl rfl rfl (by kernel_rfl) rfl Tryd.func62 (by kernel_rfl) (by kernel_rfl) #[.slice A5 RL.length c5, dv RT] rfl (rwith_any A5 c5 RL RT w6 (h5.below hb6) HRL.out) ?_
      rintro e w7 ⟨v7, rfl, h7, hb7⟩
      have hD7 := hD6.trans (hb7.mono hD6.size)
      refine ⟨_, rfl, trivial, ?_⟩
      go_frame
      refine reg_valueG (i := 11) (some 6) rfl rfl rfl (by kernel_rfl) v7 (exec_assign (.tmp 32) rfl _ rfl) trivial ?_
      go_frame
      refine wpAnyH_done (by kernel_rfl) ?_ _
      have HN := Lib.hid h7
      have HF := Lib.hid hD7
      clear hD hb5 hD5 h5 hb6 hD6 hb7 hD7 h7
      go_wp2
      go_ret
      exact ⟨v7, rfl, by rw [HX.out]; exact HN.out, HF.out⟩
    · have hx := consD_hi mark h2 h1 (by omega)
      have c1 := fun (w' : World) (hg' : RTab w') (hr' : RdD w' (dA A l.length (hf l.length)) (l.drop (hf l.length))) => ih (l.drop (hf l.length)) (m - hf l.length) false (dA A l.length (hf l.length)) (c - hf l.length) w' (by omega) (by omega) (by omega) (by omega) (by omega) hg' hr'
      have c2 := fun (w' : World) (hg' : RTab w') (hr' : RdD w' A (l.take (hf l.length))) => rroot_any l.length (l.take (hf l.length)) A c w' (by omega) (by omega) (by omega) hg' hr'
      have hrl := consD_len (l.drop (hf l.length)) (m - hf l.length) false (by omega) (by omega)
      rw [e2] at c1 hrl
      rw [e1] at c2
      have HP := Lib.hid (fun w' => split_any l.length w' h2 (by omega))
      have r1 := hr.take (hf l.length)
      have r2 := hr.drop (hf l.length)
      obtain ⟨h, hh⟩ : ∃ h, hf l.length = h := ⟨_, rfl⟩
      have HR1 := Lib.hid r1
      have HR2 := Lib.hid r2
      have HG := Lib.hid hg
      rw [hh] at c1 c2 hlt hp hlo hx hrl HR1 HR2 HP
      obtain ⟨RL, hRL⟩ : ∃ RL, consD (l.drop h) (m - h) false = RL := ⟨_, rfl⟩
      obtain ⟨RT, hRT⟩ : ∃ RT, rootD (l.take h) = RT := ⟨_, rfl⟩
      rw [hRL] at c1 hx hrl
      rw [hRT] at c2 hx
      have HC1 := Lib.hid c1
      have HCR := Lib.hid c2
      have HX := Lib.hid hx
      have HRL := Lib.hid (show RL.length ≤ 100000 by omega)
      have d2 : decide ((m : Int) ≤ (h : Int)) = false := decide_eq_false (by omega)
      have HSB := Lib.hid (show IntKind.i64.wrap ((m : Int) - (h : Int)) = ((m - h : Nat) : Int) by rw [IntWalk.i64_in _ (by omega)]; omega)
      clear c1 c2 r1 r2 hr hg ih hx hRL hRT hrl e1 e2 hh
      go_enter Tryd.func36, Tryd.ntmps36
      go_wp2_with fail
      refine (HP.out _).mono ?_
      rintro e w ⟨rfl, rfl⟩
      go_wp2_with fail
      refine wp_region_held_drew (S := fun _ => True) (by kernel_rfl) trivial (fun _ => ?_)
      have hD := (Below.refl w.heap.size w).drew
      generalize w.drew = w4 at hD ⊢
      refine reg_takeG (i := 0) (some 33) rfl rfl rfl (by kernel_rfl) (by kernel_rfl) (by kernel_rfl) (.slice A l.length c) (fun _ _ _ h => h) (fun W hW => exec_move (.tmp 0) rfl _ rfl) trivial ?_
      go_frame
      refine reg_takeG (i := 1) (some 34) rfl rfl rfl (by kernel_rfl) (by kernel_rfl) (by kernel_rfl) (.int .i64 h) (fun _ _ _ h => h) (fun W hW => exec_move (.tmp 7) rfl _ rfl) trivial ?_
      go_frame
      refine reg_takeG (i := 2) (some 35) rfl rfl rfl (by kernel_rfl) (by kernel_rfl) (by kernel_rfl) (.slice (dA A l.length h) (l.length - h : Nat) (c - h : Nat)) (fun _ _ _ h => h) (fun W hW => exec_loD (.tmp 33) (.tmp 34) rfl A l.length c h hlt hc rfl rfl) trivial ?_
      go_frame
      refine reg_takeG (i := 3) (some 36) rfl rfl rfl (by kernel_rfl) (by kernel_rfl) (by kernel_rfl) (.int .i64 m) (fun _ _ _ h => h) (fun W hW => exec_move (.tmp 1) rfl _ rfl) trivial ?_
      go_frame
      refine reg_takeG (i := 4) (some 37) rfl rfl rfl (by kernel_rfl) (by kernel_rfl) (by kernel_rfl) (.int .i64 h) (fun _ _ _ h => h) (fun W hW => exec_move (.tmp 7) rfl _ rfl) trivial ?_
      go_frame
      refine reg_takeG (i := 5) (some 38) rfl rfl rfl (by kernel_rfl) (by kernel_rfl) (by kernel_rfl) (.int .i64 ((m - h : Nat) : Int)) (fun _ _ _ h => h) (fun W hW => exec_subI _ (.tmp 36) (.tmp 37) _ rfl _ _ _ rfl rfl HSB.out) trivial ?_
      go_frame
      refine reg_takeG (i := 7) (some 40) rfl rfl rfl (by kernel_rfl) (by kernel_rfl) (by kernel_rfl) (.slice A l.length c) (fun _ _ _ h => h) (fun W hW => exec_move (.tmp 0) rfl _ rfl) trivial ?_
      go_frame
      refine reg_takeG (i := 8) (some 41) rfl rfl rfl (by kernel_rfl) (by kernel_rfl) (by kernel_rfl) (.int .i64 h) (fun _ _ _ h => h) (fun W hW => exec_move (.tmp 7) rfl _ rfl) trivial ?_
      go_frame
      refine reg_takeG (i := 9) (some 42) rfl rfl rfl (by kernel_rfl) (by kernel_rfl) (by kernel_rfl) (.slice A h c) (fun _ _ _ h => h) (fun W hW => exec_hiD (.tmp 40) (.tmp 41) rfl A l.length c h (by omega) hc rfl rfl) trivial ?_
      go_frame
      refine reg_callG (i := 6) (some 39) rfl rfl rfl (by kernel_rfl) rfl Tryd.func36 (by kernel_rfl) (by kernel_rfl) #[.slice (dA A l.length h) (l.length - h : Nat) (c - h : Nat), .int .i64 ((m - h : Nat) : Int), .bool false] rfl (HC1.out w4 (HG.out.next hD) (HR2.out.below hD)) ?_
      rintro e w5 ⟨v, rfl, ⟨A5, c5, rfl, h5, -⟩, hb5⟩
      have hD5 := hD.trans (hb5.mono hD.size)
      refine ⟨_, rfl, trivial, ?_⟩
      go_frame
      refine reg_callG (i := 10) (some 43) rfl rfl rfl (by kernel_rfl) rfl Tryd.func16 (by kernel_rfl) (by kernel_rfl) #[.slice A h c] rfl (HCR.out w5 (HG.out.next hD5) (HR1.out.below hD5)) ?_
      rintro e w6 ⟨rfl, hb6⟩
      have hD6 := hD5.trans (hb6.mono hD5.size)
      refine ⟨_, rfl, trivial, ?_⟩
      go_frame
      refine reg_callG (i := 11) (some 44) rfl rfl rfl (by kernel_rfl) rfl Tryd.func62 (by kernel_rfl) (by kernel_rfl) #[.slice A5 RL.length c5, dv RT] rfl (rwith_any A5 c5 RL RT w6 (h5.below hb6) HRL.out) ?_
      rintro e w7 ⟨v7, rfl, h7, hb7⟩
      have hD7 := hD6.trans (hb7.mono hD6.size)
      refine ⟨_, rfl, trivial, ?_⟩
      go_frame
      refine reg_valueG (i := 12) (some 6) rfl rfl rfl (by kernel_rfl) v7 (exec_assign (.tmp 44) rfl _ rfl) trivial ?_
      go_frame
      refine wpAnyH_done (by kernel_rfl) ?_ _
      have HN := Lib.hid h7
      have HF := Lib.hid hD7
      clear hD hb5 hD5 h5 hb6 hD6 hb7 hD7 h7
      go_wp2
      go_ret
      exact ⟨v7, rfl, by rw [HX.out]; exact HN.out, HF.out⟩
end Go.Proofs.YtfbemmeonkceiaaDoor
