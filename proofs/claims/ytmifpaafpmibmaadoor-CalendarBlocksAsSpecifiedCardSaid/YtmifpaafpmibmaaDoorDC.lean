/- The reference's Block. -/
import Derived.Test.YtmifpaafpmibmaaDoorDB
import Derived.Test.YtmifpaafpmibmaaDoorCM
namespace Go.Proofs.YtmifpaafpmibmaaDoor
open Go.RowKit Hm Wm Cm

def bdV (l f t e : Int) : Value := .agg #[.int .i64 l, .int .i64 f, .int .i64 t, .int .i64 e]
theorem bd_size : (Tryd.prog.info? 29).map (·.size) = some 4 := by kernel_rfl
theorem bd_zero' : (Tryd.prog.info? 29).map (·.zero) = some (some (.agg (d4 0 0 0 0).toArray)) := by kernel_rfl
theorem bd_b1 (W : World) : (Instr.build 29 #[(1, .int .i64 3)]).run Tryd.prog W = .ok (.agg (d4 0 0 0 3).toArray) W := by kernel_rfl
theorem bd_b0 (l f t : Int) (W : World) : (Instr.build 29 #[(0, .agg #[.int .i64 l, .int .i64 f, .int .i64 t])]).run Tryd.prog W = .ok (.agg (d4 l f t 0).toArray) W := by kernel_rfl
theorem bd_under : Tryd.prog.underlying 29 = some (.struct (Tryd.prog.fieldsOf 29)) := by kernel_rfl
theorem run_steps (w : World) : (Instr.buildSlice 50 5 #[(0, .int .i64 1), (1, .int .i64 4), (2, .int .i64 96), (3, .int .i64 96), (4, .int .i64 96)]).run Tryd.prog w = .ok (.slice (some ⟨w.heap.size, 0, none⟩) 5 5) (w.alloc (.cells #[.int .i64 1, .int .i64 4, .int .i64 96, .int .i64 96, .int .i64 96] 3)) := by kernel_rfl
theorem at_step0 (b : Nat) (W : World) : (Instr.indexAt 50 (.slice (some ⟨b, 0, none⟩) 5 5) (.int .i64 0)).run Tryd.prog W = .ok (.pointer (some ⟨b, 0, none⟩)) W := by kernel_rfl
theorem at_step1 (b : Nat) (W : World) : (Instr.indexAt 50 (.slice (some ⟨b, 0, none⟩) 5 5) (.int .i64 1)).run Tryd.prog W = .ok (.pointer (some ⟨b, 1, none⟩)) W := by kernel_rfl
theorem at_step2 (b : Nat) (W : World) : (Instr.indexAt 50 (.slice (some ⟨b, 0, none⟩) 5 5) (.int .i64 2)).run Tryd.prog W = .ok (.pointer (some ⟨b, 2, none⟩)) W := by kernel_rfl
theorem at_step3 (b : Nat) (W : World) : (Instr.indexAt 50 (.slice (some ⟨b, 0, none⟩) 5 5) (.int .i64 3)).run Tryd.prog W = .ok (.pointer (some ⟨b, 3, none⟩)) W := by kernel_rfl
theorem at_step4 (b : Nat) (W : World) : (Instr.indexAt 50 (.slice (some ⟨b, 0, none⟩) 5 5) (.int .i64 4)).run Tryd.prog W = .ok (.pointer (some ⟨b, 4, none⟩)) W := by kernel_rfl
set_option maxRecDepth 100000 in
set_option maxHeartbeats 600000 in
theorem rblock_no (l t : Int) (w : World) (h : l < 0 ∨ 4 < l ∨ t < 0 ∨ 1402560 ≤ t) : Calls Tryd.prog 6 #[.int .i64 l, .int .i64 t] w fun e w' => e = .returned (bdV 0 0 0 3) ∧ Below w.heap.size w w' := by
  have HZ := Lib.hid (Blk.new w 29 (d4 0 0 0 0))
  have HW := Lib.hid ((Below.refl w.heap.size w).alloc (Nat.le_refl _) (.cells (d4 0 0 0 0).toArray 29))
  by_cases hl0 : l < 0
  · clear h
    go_enter Tryd.func6, Tryd.ntmps6
    go_wp2_with (first | (refine wpList_dst 24 rfl ?_; refine wpList_run 24 rfl rfl _ (exec_build1 29 1 (.const (.int .i64 3)) rfl (.int .i64 3) _ rfl (bd_b1 _)) ?_; go_frame) | (refine wpList_store_all rfl 29 (.tmp 4) (.tmp 24) rfl w.heap.size _ (d4 0 0 0 0) (d4 0 0 0 3) rfl rfl HZ.out rfl bd_size (dt_one _ _ _ _) ?_; intro w9 HK9 ho9; have HO9 := Lib.hid ho9; clear ho9))
    exact bodyPost_ret (results_blk rfl _ _ w.heap.size _ (d4 0 0 0 3) _ rfl HK9.out bd_under rfl bd_size) rfl ⟨rfl, HW.out.trans (HO9.out.below (Nat.le_refl _))⟩
  by_cases h4l : 4 < l
  · clear h
    go_enter Tryd.func6, Tryd.ntmps6
    go_wp2_with (first | (refine wpList_dst 24 rfl ?_; refine wpList_run 24 rfl rfl _ (exec_build1 29 1 (.const (.int .i64 3)) rfl (.int .i64 3) _ rfl (bd_b1 _)) ?_; go_frame) | (refine wpList_store_all rfl 29 (.tmp 4) (.tmp 24) rfl w.heap.size _ (d4 0 0 0 0) (d4 0 0 0 3) rfl rfl HZ.out rfl bd_size (dt_one _ _ _ _) ?_; intro w9 HK9 ho9; have HO9 := Lib.hid ho9; clear ho9))
    exact bodyPost_ret (results_blk rfl _ _ w.heap.size _ (d4 0 0 0 3) _ rfl HK9.out bd_under rfl bd_size) rfl ⟨rfl, HW.out.trans (HO9.out.below (Nat.le_refl _))⟩
  by_cases ht0 : t < 0
  · clear h
    go_enter Tryd.func6, Tryd.ntmps6
    go_wp2_with (first | (refine wpList_dst 24 rfl ?_; refine wpList_run 24 rfl rfl _ (exec_build1 29 1 (.const (.int .i64 3)) rfl (.int .i64 3) _ rfl (bd_b1 _)) ?_; go_frame) | (refine wpList_store_all rfl 29 (.tmp 4) (.tmp 24) rfl w.heap.size _ (d4 0 0 0 0) (d4 0 0 0 3) rfl rfl HZ.out rfl bd_size (dt_one _ _ _ _) ?_; intro w9 HK9 ho9; have HO9 := Lib.hid ho9; clear ho9))
    exact bodyPost_ret (results_blk rfl _ _ w.heap.size _ (d4 0 0 0 3) _ rfl HK9.out bd_under rfl bd_size) rfl ⟨rfl, HW.out.trans (HO9.out.below (Nat.le_refl _))⟩
  have h9 : 1402560 ≤ t := by omega
  clear h
  go_enter Tryd.func6, Tryd.ntmps6
  go_wp2_with (first | (refine wpList_dst 24 rfl ?_; refine wpList_run 24 rfl rfl _ (exec_build1 29 1 (.const (.int .i64 3)) rfl (.int .i64 3) _ rfl (bd_b1 _)) ?_; go_frame) | (refine wpList_store_all rfl 29 (.tmp 4) (.tmp 24) rfl w.heap.size _ (d4 0 0 0 0) (d4 0 0 0 3) rfl rfl HZ.out rfl bd_size (dt_one _ _ _ _) ?_; intro w9 HK9 ho9; have HO9 := Lib.hid ho9; clear ho9))
  exact bodyPost_ret (results_blk rfl _ _ w.heap.size _ (d4 0 0 0 3) _ rfl HK9.out bd_under rfl bd_size) rfl ⟨rfl, HW.out.trans (HO9.out.below (Nat.le_refl _))⟩
set_option maxRecDepth 100000 in
set_option maxHeartbeats 600000 in
theorem rblock_0 (t : Nat) (w : World) (ht : t < M) : Calls Tryd.prog 6 #[.int .i64 0, .int .i64 t] w fun e w' => e = .returned (bdV 0 (fl 0 t : Nat) (nx 0 t : Nat) 0) ∧ Below w.heap.size w w' := by
  have HZ := Lib.hid (Blk.new w 29 (d4 0 0 0 0))
  have HW := Lib.hid ((Below.refl w.heap.size w).alloc (Nat.le_refl _) (.cells (d4 0 0 0 0).toArray 29))
  have hM : M = 1402560 := rfl
  have ht0 : ¬ (t : Int) < 0 := by omega
  have ht1 : ¬ (1402560 : Int) ≤ (t : Int) := by omega
  have ht2 : decide ((1402560 : Int) ≤ (t : Int)) = false := decide_eq_false (by omega)
  have ht3 : decide (1402560 ≤ t) = false := decide_eq_false (by omega)
  have hin := blk_in (L := 0) ht
  have hbF := fl_bd (L := 0) ht
  have hbX := nx_bd (L := 0) ht
  have hf96 : fl 0 t % 1 = 0 := Nat.mod_one _
  have hx96 : nx 0 t % 1 = 0 := Nat.mod_one _
  have hd1 : ∀ s, stB 0 s = true → fl 0 t ≤ s → s ≤ t → s = fl 0 t := fun s h1 h2 h3 => by
    have := bd_out ht ((stB_iff (by omega)).1 h1)
    omega
  have hd2 : ∀ s, stB 0 s = true → fl 0 t < s → s ≤ nx 0 t → s = nx 0 t := fun s h1 h2 h3 => by
    have := bd_out ht ((stB_iff (by omega)).1 h1)
    omega
  have hF2 := (stB_iff hbF.1).2 hbF
  have hX2 := (stB_iff hbX.1).2 hbX
  obtain ⟨F, hF⟩ : ∃ F, fl 0 t = F := ⟨_, rfl⟩
  obtain ⟨X, hX⟩ : ∃ X, nx 0 t = X := ⟨_, rfl⟩
  rw [hF] at hin hbF hf96 hd1 hd2 hF2 ⊢
  rw [hX] at hin hbX hx96 hd2 hX2 ⊢
  clear hbF hbX hF hX
  have HD1 := Lib.hid hd1
  have HD2 := Lib.hid hd2
  have HF2 := Lib.hid hF2
  have HX2 := Lib.hid hX2
  obtain ⟨S, hS⟩ : ∃ S, S = t := ⟨_, rfl⟩
  have HS : Hid ((t : Int) = (S : Int)) := Lib.hid (by omega)
  have hS1 : F ≤ S ∧ S ≤ t ∧ S % 1 = 0 := by omega
  have FS := Lib.hid (fun (s : Nat) (W : World) (hs : s ≤ M) => rstart_any 0 s W (by omega) hs)
  obtain ⟨i1, i2, i3⟩ := hin
  replace HZ := Lib.hid (HZ.out.alloc (.cells #[.int .i64 1, .int .i64 4, .int .i64 96, .int .i64 96, .int .i64 96] 3))
  replace HW := Lib.hid (HW.out.alloc (by simp) (.cells #[.int .i64 1, .int .i64 4, .int .i64 96, .int .i64 96, .int .i64 96] 3))
  clear hd1 hd2 hF2 hX2 hS
  go_enter Tryd.func6, Tryd.ntmps6
  go_wp2_with fail
  rw [show (t : Int) = (S : Int) from HS.out]
  refine (FS.out S _ (by omega)).mono ?_
  rintro e w1 ⟨rfl, hb⟩
  replace HZ := Lib.hid (HZ.out.next hb)
  replace HW := Lib.hid (HW.out.trans (hb.mono HW.out.size))
  clear hb
  go_wp2_with fail
  try go_frame
  go_loopw [5, 7] (fun fv bv wr => ∃ s : Nat, fv = .int .i64 s ∧ bv = .bool (stB 0 s) ∧ F ≤ s ∧ s ≤ t ∧ s % 1 = 0 ∧ Hid (Blk wr w.heap.size 29 (d4 0 0 0 0)) ∧ Hid (Below w.heap.size w wr)) (fun fv _ _ => (intOf fv).toNat)
  case atStart => exact ⟨S, rfl, rfl, hS1.1, hS1.2.1, hS1.2.2, HZ, HW⟩
  case round =>
    clear HZ HW hS1 HS
    obtain ⟨s, rfl, rfl, hs1, hs2, hs3, HZ, HW⟩ := hrel
    cases hst : stB 0 s
    · have hne : s ≠ F := fun e => by rw [e, HF2.out] at hst; cases hst
      obtain ⟨r, rfl⟩ : ∃ r, s = r + 1 := ⟨s - 1, by omega⟩
      have HR : Hid (((r + 1 : Nat) : Int) - 1 = (r : Int)) := Lib.hid (by omega)
      have HR' : Hid ((r : Int) + 1 - 1 = (r : Int)) := Lib.hid (by omega)
      clear hst
      go_wp2_with fail
      try rw [HR.out]
      try rw [HR'.out]
      refine (FS.out r _ (by omega)).mono ?_
      rintro e w1 ⟨rfl, hb⟩
      replace HZ := Lib.hid (HZ.out.next hb)
      replace HW := Lib.hid (HW.out.trans (hb.mono HW.out.size))
      clear hb
      go_wp2_with fail
      go_roundw
      case rel => exact ⟨r, rfl, rfl, by omega, by omega, by omega, HZ, HW⟩
      case measure => simp [intOf] <;> omega
    · obtain rfl := HD1.out s hst hs1 hs2
      have HE : Hid ((s : Int) + 1 = ((s + 1 : Nat) : Int)) := Lib.hid (by omega)
      have hle : s + 1 ≤ X := by omega
      clear hst HD1 HF2
      go_wp2_with fail
      try rw [HE.out]
      refine (FS.out (s + 1) _ (by omega)).mono ?_
      rintro e w1 ⟨rfl, hb⟩
      replace HZ := Lib.hid (HZ.out.next hb)
      replace HW := Lib.hid (HW.out.trans (hb.mono HW.out.size))
      clear hb
      go_wp2_with fail
      try go_frame
      obtain ⟨wo, rfl⟩ : ∃ wo : World, wo = wr := ⟨_, rfl⟩
      go_loopw [8, 9] (fun tv bv wr => ∃ z : Nat, tv = .int .i64 z ∧ bv = .bool (stB 0 z) ∧ s < z ∧ z ≤ X ∧ z % 1 = 0 ∧ Hid (Blk wr w.heap.size 29 (d4 0 0 0 0)) ∧ Hid (Below w.heap.size w wr)) (fun tv _ _ => X - (intOf tv).toNat)
      case atStart => exact ⟨s + 1, by go_num, rfl, by omega, hle, by omega, HZ, HW⟩
      case round =>
        clear HZ HW hle HE
        obtain ⟨z, rfl, rfl, hz1, hz2, hz3, HZ, HW⟩ := hrel
        cases hst : stB 0 z
        · have hne : z ≠ X := fun e => by rw [e, HX2.out] at hst; cases hst
          have HE : Hid ((z : Int) + 1 = ((z + 1 : Nat) : Int)) := Lib.hid (by omega)
          have hle : z + 1 ≤ X := by omega
          clear hst
          go_wp2_with fail
          try rw [HE.out]
          refine (FS.out (z + 1) _ (by omega)).mono ?_
          rintro e w1 ⟨rfl, hb⟩
          replace HZ := Lib.hid (HZ.out.next hb)
          replace HW := Lib.hid (HW.out.trans (hb.mono HW.out.size))
          clear hb
          go_wp2_with fail
          go_roundw
          case rel => exact ⟨z + 1, by go_num, rfl, by omega, hle, by omega, HZ, HW⟩
          case measure => simp [intOf] <;> omega
        · obtain rfl := HD2.out z hst hz1 hz2
          clear hst HD2 HX2
          go_wp2_with (first | (refine wpList_dst 70 rfl ?_; refine wpList_run 70 rfl rfl _ (exec_build3 23 (.tmp 67) (.tmp 68) (.tmp 69) rfl (.int .i64 0) (.int .i64 (s : Int)) (.int .i64 (z : Int)) _ rfl rfl rfl (bn_build _ _ _ _)) ?_; go_frame) | (refine wpList_dst 71 rfl ?_; refine wpList_run 71 rfl rfl _ (exec_build1 29 0 (.tmp 70) rfl (.agg #[.int .i64 0, .int .i64 (s : Int), .int .i64 (z : Int)]) _ rfl (bd_b0 _ _ _ _)) ?_; go_frame) | (refine wpList_store_all rfl 29 (.tmp 4) (.tmp 71) rfl w.heap.size _ (d4 0 0 0 0) (d4 0 (s : Int) (z : Int) 0) rfl rfl HZ.out rfl bd_size (dt_one _ _ _ _) ?_; intro w9 HK9 ho9; have HO9 := Lib.hid ho9; clear ho9))
          exact bodyPost_ret (results_blk rfl _ _ w.heap.size _ (d4 0 (s : Int) (z : Int) 0) _ rfl HK9.out bd_under rfl bd_size) rfl ⟨rfl, HW.out.trans (HO9.out.below (Nat.le_refl _))⟩
set_option maxRecDepth 100000 in
set_option maxHeartbeats 600000 in
theorem rblock_1 (t : Nat) (w : World) (ht : t < M) : Calls Tryd.prog 6 #[.int .i64 1, .int .i64 t] w fun e w' => e = .returned (bdV 1 (fl 1 t : Nat) (nx 1 t : Nat) 0) ∧ Below w.heap.size w w' := by
  have HZ := Lib.hid (Blk.new w 29 (d4 0 0 0 0))
  have HW := Lib.hid ((Below.refl w.heap.size w).alloc (Nat.le_refl _) (.cells (d4 0 0 0 0).toArray 29))
  have hM : M = 1402560 := rfl
  have ht0 : ¬ (t : Int) < 0 := by omega
  have ht1 : ¬ (1402560 : Int) ≤ (t : Int) := by omega
  have ht2 : decide ((1402560 : Int) ≤ (t : Int)) = false := decide_eq_false (by omega)
  have ht3 : decide (1402560 ≤ t) = false := decide_eq_false (by omega)
  have hin := blk_in (L := 1) ht
  have hbF := fl_bd (L := 1) ht
  have hbX := nx_bd (L := 1) ht
  have hf96 : fl 1 t % 4 = 0 := hbF.2
  have hx96 : nx 1 t % 4 = 0 := hbX.2
  have hd1 : ∀ s, stB 1 s = true → fl 1 t ≤ s → s ≤ t → s = fl 1 t := fun s h1 h2 h3 => by
    have := bd_out ht ((stB_iff (by omega)).1 h1)
    omega
  have hd2 : ∀ s, stB 1 s = true → fl 1 t < s → s ≤ nx 1 t → s = nx 1 t := fun s h1 h2 h3 => by
    have := bd_out ht ((stB_iff (by omega)).1 h1)
    omega
  have hF2 := (stB_iff hbF.1).2 hbF
  have hX2 := (stB_iff hbX.1).2 hbX
  obtain ⟨F, hF⟩ : ∃ F, fl 1 t = F := ⟨_, rfl⟩
  obtain ⟨X, hX⟩ : ∃ X, nx 1 t = X := ⟨_, rfl⟩
  rw [hF] at hin hbF hf96 hd1 hd2 hF2 ⊢
  rw [hX] at hin hbX hx96 hd2 hX2 ⊢
  clear hbF hbX hF hX
  have HD1 := Lib.hid hd1
  have HD2 := Lib.hid hd2
  have HF2 := Lib.hid hF2
  have HX2 := Lib.hid hX2
  obtain ⟨S, hS⟩ : ∃ S, S = t - t % 4 := ⟨_, rfl⟩
  have HS : Hid ((t : Int) - (t : Int) % 4 = (S : Int)) := Lib.hid (by omega)
  have hS1 : F ≤ S ∧ S ≤ t ∧ S % 4 = 0 := by omega
  have FS := Lib.hid (fun (s : Nat) (W : World) (hs : s ≤ M) => rstart_any 1 s W (by omega) hs)
  obtain ⟨i1, i2, i3⟩ := hin
  replace HZ := Lib.hid (HZ.out.alloc (.cells #[.int .i64 1, .int .i64 4, .int .i64 96, .int .i64 96, .int .i64 96] 3))
  replace HW := Lib.hid (HW.out.alloc (by simp) (.cells #[.int .i64 1, .int .i64 4, .int .i64 96, .int .i64 96, .int .i64 96] 3))
  clear hd1 hd2 hF2 hX2 hS
  go_enter Tryd.func6, Tryd.ntmps6
  go_wp2_with fail
  rw [HS.out]
  refine (FS.out S _ (by omega)).mono ?_
  rintro e w1 ⟨rfl, hb⟩
  replace HZ := Lib.hid (HZ.out.next hb)
  replace HW := Lib.hid (HW.out.trans (hb.mono HW.out.size))
  clear hb
  go_wp2_with fail
  try go_frame
  go_loopw [5, 7] (fun fv bv wr => ∃ s : Nat, fv = .int .i64 s ∧ bv = .bool (stB 1 s) ∧ F ≤ s ∧ s ≤ t ∧ s % 4 = 0 ∧ Hid (Blk wr w.heap.size 29 (d4 0 0 0 0)) ∧ Hid (Below w.heap.size w wr)) (fun fv _ _ => (intOf fv).toNat)
  case atStart => exact ⟨S, rfl, rfl, hS1.1, hS1.2.1, hS1.2.2, HZ, HW⟩
  case round =>
    clear HZ HW hS1 HS
    obtain ⟨s, rfl, rfl, hs1, hs2, hs3, HZ, HW⟩ := hrel
    cases hst : stB 1 s
    · have hne : s ≠ F := fun e => by rw [e, HF2.out] at hst; cases hst
      obtain ⟨r, rfl⟩ : ∃ r, s = r + 4 := ⟨s - 4, by omega⟩
      have HR : Hid (((r + 4 : Nat) : Int) - 4 = (r : Int)) := Lib.hid (by omega)
      have HR' : Hid ((r : Int) + 4 - 4 = (r : Int)) := Lib.hid (by omega)
      clear hst
      go_wp2_with fail
      try rw [HR.out]
      try rw [HR'.out]
      refine (FS.out r _ (by omega)).mono ?_
      rintro e w1 ⟨rfl, hb⟩
      replace HZ := Lib.hid (HZ.out.next hb)
      replace HW := Lib.hid (HW.out.trans (hb.mono HW.out.size))
      clear hb
      go_wp2_with fail
      go_roundw
      case rel => exact ⟨r, rfl, rfl, by omega, by omega, by omega, HZ, HW⟩
      case measure => simp [intOf] <;> omega
    · obtain rfl := HD1.out s hst hs1 hs2
      have HE : Hid ((s : Int) + 4 = ((s + 4 : Nat) : Int)) := Lib.hid (by omega)
      have hle : s + 4 ≤ X := by omega
      clear hst HD1 HF2
      go_wp2_with fail
      try rw [HE.out]
      refine (FS.out (s + 4) _ (by omega)).mono ?_
      rintro e w1 ⟨rfl, hb⟩
      replace HZ := Lib.hid (HZ.out.next hb)
      replace HW := Lib.hid (HW.out.trans (hb.mono HW.out.size))
      clear hb
      go_wp2_with fail
      try go_frame
      obtain ⟨wo, rfl⟩ : ∃ wo : World, wo = wr := ⟨_, rfl⟩
      go_loopw [8, 9] (fun tv bv wr => ∃ z : Nat, tv = .int .i64 z ∧ bv = .bool (stB 1 z) ∧ s < z ∧ z ≤ X ∧ z % 4 = 0 ∧ Hid (Blk wr w.heap.size 29 (d4 0 0 0 0)) ∧ Hid (Below w.heap.size w wr)) (fun tv _ _ => X - (intOf tv).toNat)
      case atStart => exact ⟨s + 4, by go_num, rfl, by omega, hle, by omega, HZ, HW⟩
      case round =>
        clear HZ HW hle HE
        obtain ⟨z, rfl, rfl, hz1, hz2, hz3, HZ, HW⟩ := hrel
        cases hst : stB 1 z
        · have hne : z ≠ X := fun e => by rw [e, HX2.out] at hst; cases hst
          have HE : Hid ((z : Int) + 4 = ((z + 4 : Nat) : Int)) := Lib.hid (by omega)
          have hle : z + 4 ≤ X := by omega
          clear hst
          go_wp2_with fail
          try rw [HE.out]
          refine (FS.out (z + 4) _ (by omega)).mono ?_
          rintro e w1 ⟨rfl, hb⟩
          replace HZ := Lib.hid (HZ.out.next hb)
          replace HW := Lib.hid (HW.out.trans (hb.mono HW.out.size))
          clear hb
          go_wp2_with fail
          go_roundw
          case rel => exact ⟨z + 4, by go_num, rfl, by omega, hle, by omega, HZ, HW⟩
          case measure => simp [intOf] <;> omega
        · obtain rfl := HD2.out z hst hz1 hz2
          clear hst HD2 HX2
          go_wp2_with (first | (refine wpList_dst 70 rfl ?_; refine wpList_run 70 rfl rfl _ (exec_build3 23 (.tmp 67) (.tmp 68) (.tmp 69) rfl (.int .i64 1) (.int .i64 (s : Int)) (.int .i64 (z : Int)) _ rfl rfl rfl (bn_build _ _ _ _)) ?_; go_frame) | (refine wpList_dst 71 rfl ?_; refine wpList_run 71 rfl rfl _ (exec_build1 29 0 (.tmp 70) rfl (.agg #[.int .i64 1, .int .i64 (s : Int), .int .i64 (z : Int)]) _ rfl (bd_b0 _ _ _ _)) ?_; go_frame) | (refine wpList_store_all rfl 29 (.tmp 4) (.tmp 71) rfl w.heap.size _ (d4 0 0 0 0) (d4 1 (s : Int) (z : Int) 0) rfl rfl HZ.out rfl bd_size (dt_one _ _ _ _) ?_; intro w9 HK9 ho9; have HO9 := Lib.hid ho9; clear ho9))
          exact bodyPost_ret (results_blk rfl _ _ w.heap.size _ (d4 1 (s : Int) (z : Int) 0) _ rfl HK9.out bd_under rfl bd_size) rfl ⟨rfl, HW.out.trans (HO9.out.below (Nat.le_refl _))⟩
set_option maxRecDepth 100000 in
set_option maxHeartbeats 600000 in
theorem rblock_2 (t : Nat) (w : World) (ht : t < M) : Calls Tryd.prog 6 #[.int .i64 2, .int .i64 t] w fun e w' => e = .returned (bdV 2 (fl 2 t : Nat) (nx 2 t : Nat) 0) ∧ Below w.heap.size w w' := by
  have HZ := Lib.hid (Blk.new w 29 (d4 0 0 0 0))
  have HW := Lib.hid ((Below.refl w.heap.size w).alloc (Nat.le_refl _) (.cells (d4 0 0 0 0).toArray 29))
  have hM : M = 1402560 := rfl
  have ht0 : ¬ (t : Int) < 0 := by omega
  have ht1 : ¬ (1402560 : Int) ≤ (t : Int) := by omega
  have ht2 : decide ((1402560 : Int) ≤ (t : Int)) = false := decide_eq_false (by omega)
  have ht3 : decide (1402560 ≤ t) = false := decide_eq_false (by omega)
  have hin := blk_in (L := 2) ht
  have hbF := fl_bd (L := 2) ht
  have hbX := nx_bd (L := 2) ht
  have hf96 : fl 2 t % 96 = 0 := (bd_mono (K := 2) hbF (by omega)).2
  have hx96 : nx 2 t % 96 = 0 := (bd_mono (K := 2) hbX (by omega)).2
  have hd1 : ∀ s, stB 2 s = true → fl 2 t ≤ s → s ≤ t → s = fl 2 t := fun s h1 h2 h3 => by
    have := bd_out ht ((stB_iff (by omega)).1 h1)
    omega
  have hd2 : ∀ s, stB 2 s = true → fl 2 t < s → s ≤ nx 2 t → s = nx 2 t := fun s h1 h2 h3 => by
    have := bd_out ht ((stB_iff (by omega)).1 h1)
    omega
  have hF2 := (stB_iff hbF.1).2 hbF
  have hX2 := (stB_iff hbX.1).2 hbX
  obtain ⟨F, hF⟩ : ∃ F, fl 2 t = F := ⟨_, rfl⟩
  obtain ⟨X, hX⟩ : ∃ X, nx 2 t = X := ⟨_, rfl⟩
  rw [hF] at hin hbF hf96 hd1 hd2 hF2 ⊢
  rw [hX] at hin hbX hx96 hd2 hX2 ⊢
  clear hbF hbX hF hX
  have HD1 := Lib.hid hd1
  have HD2 := Lib.hid hd2
  have HF2 := Lib.hid hF2
  have HX2 := Lib.hid hX2
  obtain ⟨S, hS⟩ : ∃ S, S = t - t % 4 - (t - t % 4) % 96 := ⟨_, rfl⟩
  have HS : Hid ((t : Int) - (t : Int) % 4 - ((t : Int) - (t : Int) % 4) % 96 = (S : Int)) := Lib.hid (by omega)
  have hS1 : F ≤ S ∧ S ≤ t ∧ S % 96 = 0 := by omega
  have FS := Lib.hid (fun (s : Nat) (W : World) (hs : s ≤ M) => rstart_any 2 s W (by omega) hs)
  obtain ⟨i1, i2, i3⟩ := hin
  replace HZ := Lib.hid (HZ.out.alloc (.cells #[.int .i64 1, .int .i64 4, .int .i64 96, .int .i64 96, .int .i64 96] 3))
  replace HW := Lib.hid (HW.out.alloc (by simp) (.cells #[.int .i64 1, .int .i64 4, .int .i64 96, .int .i64 96, .int .i64 96] 3))
  clear hd1 hd2 hF2 hX2 hS
  go_enter Tryd.func6, Tryd.ntmps6
  go_wp2_with fail
  rw [HS.out]
  refine (FS.out S _ (by omega)).mono ?_
  rintro e w1 ⟨rfl, hb⟩
  replace HZ := Lib.hid (HZ.out.next hb)
  replace HW := Lib.hid (HW.out.trans (hb.mono HW.out.size))
  clear hb
  go_wp2_with fail
  try go_frame
  go_loopw [5, 7] (fun fv bv wr => ∃ s : Nat, fv = .int .i64 s ∧ bv = .bool (stB 2 s) ∧ F ≤ s ∧ s ≤ t ∧ s % 96 = 0 ∧ Hid (Blk wr w.heap.size 29 (d4 0 0 0 0)) ∧ Hid (Below w.heap.size w wr)) (fun fv _ _ => (intOf fv).toNat)
  case atStart => exact ⟨S, rfl, rfl, hS1.1, hS1.2.1, hS1.2.2, HZ, HW⟩
  case round =>
    clear HZ HW hS1 HS
    obtain ⟨s, rfl, rfl, hs1, hs2, hs3, HZ, HW⟩ := hrel
    cases hst : stB 2 s
    · have hne : s ≠ F := fun e => by rw [e, HF2.out] at hst; cases hst
      obtain ⟨r, rfl⟩ : ∃ r, s = r + 96 := ⟨s - 96, by omega⟩
      have HR : Hid (((r + 96 : Nat) : Int) - 96 = (r : Int)) := Lib.hid (by omega)
      have HR' : Hid ((r : Int) + 96 - 96 = (r : Int)) := Lib.hid (by omega)
      clear hst
      go_wp2_with fail
      try rw [HR.out]
      try rw [HR'.out]
      refine (FS.out r _ (by omega)).mono ?_
      rintro e w1 ⟨rfl, hb⟩
      replace HZ := Lib.hid (HZ.out.next hb)
      replace HW := Lib.hid (HW.out.trans (hb.mono HW.out.size))
      clear hb
      go_wp2_with fail
      go_roundw
      case rel => exact ⟨r, rfl, rfl, by omega, by omega, by omega, HZ, HW⟩
      case measure => simp [intOf] <;> omega
    · obtain rfl := HD1.out s hst hs1 hs2
      have HE : Hid ((s : Int) + 96 = ((s + 96 : Nat) : Int)) := Lib.hid (by omega)
      have hle : s + 96 ≤ X := by omega
      clear hst HD1 HF2
      go_wp2_with fail
      try rw [HE.out]
      refine (FS.out (s + 96) _ (by omega)).mono ?_
      rintro e w1 ⟨rfl, hb⟩
      replace HZ := Lib.hid (HZ.out.next hb)
      replace HW := Lib.hid (HW.out.trans (hb.mono HW.out.size))
      clear hb
      go_wp2_with fail
      try go_frame
      obtain ⟨wo, rfl⟩ : ∃ wo : World, wo = wr := ⟨_, rfl⟩
      go_loopw [8, 9] (fun tv bv wr => ∃ z : Nat, tv = .int .i64 z ∧ bv = .bool (stB 2 z) ∧ s < z ∧ z ≤ X ∧ z % 96 = 0 ∧ Hid (Blk wr w.heap.size 29 (d4 0 0 0 0)) ∧ Hid (Below w.heap.size w wr)) (fun tv _ _ => X - (intOf tv).toNat)
      case atStart => exact ⟨s + 96, by go_num, rfl, by omega, hle, by omega, HZ, HW⟩
      case round =>
        clear HZ HW hle HE
        obtain ⟨z, rfl, rfl, hz1, hz2, hz3, HZ, HW⟩ := hrel
        cases hst : stB 2 z
        · have hne : z ≠ X := fun e => by rw [e, HX2.out] at hst; cases hst
          have HE : Hid ((z : Int) + 96 = ((z + 96 : Nat) : Int)) := Lib.hid (by omega)
          have hle : z + 96 ≤ X := by omega
          clear hst
          go_wp2_with fail
          try rw [HE.out]
          refine (FS.out (z + 96) _ (by omega)).mono ?_
          rintro e w1 ⟨rfl, hb⟩
          replace HZ := Lib.hid (HZ.out.next hb)
          replace HW := Lib.hid (HW.out.trans (hb.mono HW.out.size))
          clear hb
          go_wp2_with fail
          go_roundw
          case rel => exact ⟨z + 96, by go_num, rfl, by omega, hle, by omega, HZ, HW⟩
          case measure => simp [intOf] <;> omega
        · obtain rfl := HD2.out z hst hz1 hz2
          clear hst HD2 HX2
          go_wp2_with (first | (refine wpList_dst 70 rfl ?_; refine wpList_run 70 rfl rfl _ (exec_build3 23 (.tmp 67) (.tmp 68) (.tmp 69) rfl (.int .i64 2) (.int .i64 (s : Int)) (.int .i64 (z : Int)) _ rfl rfl rfl (bn_build _ _ _ _)) ?_; go_frame) | (refine wpList_dst 71 rfl ?_; refine wpList_run 71 rfl rfl _ (exec_build1 29 0 (.tmp 70) rfl (.agg #[.int .i64 2, .int .i64 (s : Int), .int .i64 (z : Int)]) _ rfl (bd_b0 _ _ _ _)) ?_; go_frame) | (refine wpList_store_all rfl 29 (.tmp 4) (.tmp 71) rfl w.heap.size _ (d4 0 0 0 0) (d4 2 (s : Int) (z : Int) 0) rfl rfl HZ.out rfl bd_size (dt_one _ _ _ _) ?_; intro w9 HK9 ho9; have HO9 := Lib.hid ho9; clear ho9))
          exact bodyPost_ret (results_blk rfl _ _ w.heap.size _ (d4 2 (s : Int) (z : Int) 0) _ rfl HK9.out bd_under rfl bd_size) rfl ⟨rfl, HW.out.trans (HO9.out.below (Nat.le_refl _))⟩
set_option maxRecDepth 100000 in
set_option maxHeartbeats 600000 in
theorem rblock_3 (t : Nat) (w : World) (ht : t < M) : Calls Tryd.prog 6 #[.int .i64 3, .int .i64 t] w fun e w' => e = .returned (bdV 3 (fl 3 t : Nat) (nx 3 t : Nat) 0) ∧ Below w.heap.size w w' := by
  have HZ := Lib.hid (Blk.new w 29 (d4 0 0 0 0))
  have HW := Lib.hid ((Below.refl w.heap.size w).alloc (Nat.le_refl _) (.cells (d4 0 0 0 0).toArray 29))
  have hM : M = 1402560 := rfl
  have ht0 : ¬ (t : Int) < 0 := by omega
  have ht1 : ¬ (1402560 : Int) ≤ (t : Int) := by omega
  have ht2 : decide ((1402560 : Int) ≤ (t : Int)) = false := decide_eq_false (by omega)
  have ht3 : decide (1402560 ≤ t) = false := decide_eq_false (by omega)
  have hin := blk_in (L := 3) ht
  have hbF := fl_bd (L := 3) ht
  have hbX := nx_bd (L := 3) ht
  have hf96 : fl 3 t % 96 = 0 := (bd_mono (K := 2) hbF (by omega)).2
  have hx96 : nx 3 t % 96 = 0 := (bd_mono (K := 2) hbX (by omega)).2
  have hd1 : ∀ s, stB 3 s = true → fl 3 t ≤ s → s ≤ t → s = fl 3 t := fun s h1 h2 h3 => by
    have := bd_out ht ((stB_iff (by omega)).1 h1)
    omega
  have hd2 : ∀ s, stB 3 s = true → fl 3 t < s → s ≤ nx 3 t → s = nx 3 t := fun s h1 h2 h3 => by
    have := bd_out ht ((stB_iff (by omega)).1 h1)
    omega
  have hF2 := (stB_iff hbF.1).2 hbF
  have hX2 := (stB_iff hbX.1).2 hbX
  obtain ⟨F, hF⟩ : ∃ F, fl 3 t = F := ⟨_, rfl⟩
  obtain ⟨X, hX⟩ : ∃ X, nx 3 t = X := ⟨_, rfl⟩
  rw [hF] at hin hbF hf96 hd1 hd2 hF2 ⊢
  rw [hX] at hin hbX hx96 hd2 hX2 ⊢
  clear hbF hbX hF hX
  have HD1 := Lib.hid hd1
  have HD2 := Lib.hid hd2
  have HF2 := Lib.hid hF2
  have HX2 := Lib.hid hX2
  obtain ⟨S, hS⟩ : ∃ S, S = t - t % 4 - (t - t % 4) % 96 := ⟨_, rfl⟩
  have HS : Hid ((t : Int) - (t : Int) % 4 - ((t : Int) - (t : Int) % 4) % 96 = (S : Int)) := Lib.hid (by omega)
  have hS1 : F ≤ S ∧ S ≤ t ∧ S % 96 = 0 := by omega
  have FS := Lib.hid (fun (s : Nat) (W : World) (hs : s ≤ M) => rstart_any 3 s W (by omega) hs)
  obtain ⟨i1, i2, i3⟩ := hin
  replace HZ := Lib.hid (HZ.out.alloc (.cells #[.int .i64 1, .int .i64 4, .int .i64 96, .int .i64 96, .int .i64 96] 3))
  replace HW := Lib.hid (HW.out.alloc (by simp) (.cells #[.int .i64 1, .int .i64 4, .int .i64 96, .int .i64 96, .int .i64 96] 3))
  clear hd1 hd2 hF2 hX2 hS
  go_enter Tryd.func6, Tryd.ntmps6
  go_wp2_with fail
  rw [HS.out]
  refine (FS.out S _ (by omega)).mono ?_
  rintro e w1 ⟨rfl, hb⟩
  replace HZ := Lib.hid (HZ.out.next hb)
  replace HW := Lib.hid (HW.out.trans (hb.mono HW.out.size))
  clear hb
  go_wp2_with fail
  try go_frame
  go_loopw [5, 7] (fun fv bv wr => ∃ s : Nat, fv = .int .i64 s ∧ bv = .bool (stB 3 s) ∧ F ≤ s ∧ s ≤ t ∧ s % 96 = 0 ∧ Hid (Blk wr w.heap.size 29 (d4 0 0 0 0)) ∧ Hid (Below w.heap.size w wr)) (fun fv _ _ => (intOf fv).toNat)
  case atStart => exact ⟨S, rfl, rfl, hS1.1, hS1.2.1, hS1.2.2, HZ, HW⟩
  case round =>
    clear HZ HW hS1 HS
    obtain ⟨s, rfl, rfl, hs1, hs2, hs3, HZ, HW⟩ := hrel
    cases hst : stB 3 s
    · have hne : s ≠ F := fun e => by rw [e, HF2.out] at hst; cases hst
      obtain ⟨r, rfl⟩ : ∃ r, s = r + 96 := ⟨s - 96, by omega⟩
      have HR : Hid (((r + 96 : Nat) : Int) - 96 = (r : Int)) := Lib.hid (by omega)
      have HR' : Hid ((r : Int) + 96 - 96 = (r : Int)) := Lib.hid (by omega)
      clear hst
      go_wp2_with fail
      try rw [HR.out]
      try rw [HR'.out]
      refine (FS.out r _ (by omega)).mono ?_
      rintro e w1 ⟨rfl, hb⟩
      replace HZ := Lib.hid (HZ.out.next hb)
      replace HW := Lib.hid (HW.out.trans (hb.mono HW.out.size))
      clear hb
      go_wp2_with fail
      go_roundw
      case rel => exact ⟨r, rfl, rfl, by omega, by omega, by omega, HZ, HW⟩
      case measure => simp [intOf] <;> omega
    · obtain rfl := HD1.out s hst hs1 hs2
      have HE : Hid ((s : Int) + 96 = ((s + 96 : Nat) : Int)) := Lib.hid (by omega)
      have hle : s + 96 ≤ X := by omega
      clear hst HD1 HF2
      go_wp2_with fail
      try rw [HE.out]
      refine (FS.out (s + 96) _ (by omega)).mono ?_
      rintro e w1 ⟨rfl, hb⟩
      replace HZ := Lib.hid (HZ.out.next hb)
      replace HW := Lib.hid (HW.out.trans (hb.mono HW.out.size))
      clear hb
      go_wp2_with fail
      try go_frame
      obtain ⟨wo, rfl⟩ : ∃ wo : World, wo = wr := ⟨_, rfl⟩
      go_loopw [8, 9] (fun tv bv wr => ∃ z : Nat, tv = .int .i64 z ∧ bv = .bool (stB 3 z) ∧ s < z ∧ z ≤ X ∧ z % 96 = 0 ∧ Hid (Blk wr w.heap.size 29 (d4 0 0 0 0)) ∧ Hid (Below w.heap.size w wr)) (fun tv _ _ => X - (intOf tv).toNat)
      case atStart => exact ⟨s + 96, by go_num, rfl, by omega, hle, by omega, HZ, HW⟩
      case round =>
        clear HZ HW hle HE
        obtain ⟨z, rfl, rfl, hz1, hz2, hz3, HZ, HW⟩ := hrel
        cases hst : stB 3 z
        · have hne : z ≠ X := fun e => by rw [e, HX2.out] at hst; cases hst
          have HE : Hid ((z : Int) + 96 = ((z + 96 : Nat) : Int)) := Lib.hid (by omega)
          have hle : z + 96 ≤ X := by omega
          clear hst
          go_wp2_with fail
          try rw [HE.out]
          refine (FS.out (z + 96) _ (by omega)).mono ?_
          rintro e w1 ⟨rfl, hb⟩
          replace HZ := Lib.hid (HZ.out.next hb)
          replace HW := Lib.hid (HW.out.trans (hb.mono HW.out.size))
          clear hb
          go_wp2_with fail
          go_roundw
          case rel => exact ⟨z + 96, by go_num, rfl, by omega, hle, by omega, HZ, HW⟩
          case measure => simp [intOf] <;> omega
        · obtain rfl := HD2.out z hst hz1 hz2
          clear hst HD2 HX2
          go_wp2_with (first | (refine wpList_dst 70 rfl ?_; refine wpList_run 70 rfl rfl _ (exec_build3 23 (.tmp 67) (.tmp 68) (.tmp 69) rfl (.int .i64 3) (.int .i64 (s : Int)) (.int .i64 (z : Int)) _ rfl rfl rfl (bn_build _ _ _ _)) ?_; go_frame) | (refine wpList_dst 71 rfl ?_; refine wpList_run 71 rfl rfl _ (exec_build1 29 0 (.tmp 70) rfl (.agg #[.int .i64 3, .int .i64 (s : Int), .int .i64 (z : Int)]) _ rfl (bd_b0 _ _ _ _)) ?_; go_frame) | (refine wpList_store_all rfl 29 (.tmp 4) (.tmp 71) rfl w.heap.size _ (d4 0 0 0 0) (d4 3 (s : Int) (z : Int) 0) rfl rfl HZ.out rfl bd_size (dt_one _ _ _ _) ?_; intro w9 HK9 ho9; have HO9 := Lib.hid ho9; clear ho9))
          exact bodyPost_ret (results_blk rfl _ _ w.heap.size _ (d4 3 (s : Int) (z : Int) 0) _ rfl HK9.out bd_under rfl bd_size) rfl ⟨rfl, HW.out.trans (HO9.out.below (Nat.le_refl _))⟩
set_option maxRecDepth 100000 in
set_option maxHeartbeats 600000 in
theorem rblock_4 (t : Nat) (w : World) (ht : t < M) : Calls Tryd.prog 6 #[.int .i64 4, .int .i64 t] w fun e w' => e = .returned (bdV 4 (fl 4 t : Nat) (nx 4 t : Nat) 0) ∧ Below w.heap.size w w' := by
  have HZ := Lib.hid (Blk.new w 29 (d4 0 0 0 0))
  have HW := Lib.hid ((Below.refl w.heap.size w).alloc (Nat.le_refl _) (.cells (d4 0 0 0 0).toArray 29))
  have hM : M = 1402560 := rfl
  have ht0 : ¬ (t : Int) < 0 := by omega
  have ht1 : ¬ (1402560 : Int) ≤ (t : Int) := by omega
  have ht2 : decide ((1402560 : Int) ≤ (t : Int)) = false := decide_eq_false (by omega)
  have ht3 : decide (1402560 ≤ t) = false := decide_eq_false (by omega)
  have hin := blk_in (L := 4) ht
  have hbF := fl_bd (L := 4) ht
  have hbX := nx_bd (L := 4) ht
  have hf96 : fl 4 t % 96 = 0 := (bd_mono (K := 2) hbF (by omega)).2
  have hx96 : nx 4 t % 96 = 0 := (bd_mono (K := 2) hbX (by omega)).2
  have hd1 : ∀ s, stB 4 s = true → fl 4 t ≤ s → s ≤ t → s = fl 4 t := fun s h1 h2 h3 => by
    have := bd_out ht ((stB_iff (by omega)).1 h1)
    omega
  have hd2 : ∀ s, stB 4 s = true → fl 4 t < s → s ≤ nx 4 t → s = nx 4 t := fun s h1 h2 h3 => by
    have := bd_out ht ((stB_iff (by omega)).1 h1)
    omega
  have hF2 := (stB_iff hbF.1).2 hbF
  have hX2 := (stB_iff hbX.1).2 hbX
  obtain ⟨F, hF⟩ : ∃ F, fl 4 t = F := ⟨_, rfl⟩
  obtain ⟨X, hX⟩ : ∃ X, nx 4 t = X := ⟨_, rfl⟩
  rw [hF] at hin hbF hf96 hd1 hd2 hF2 ⊢
  rw [hX] at hin hbX hx96 hd2 hX2 ⊢
  clear hbF hbX hF hX
  have HD1 := Lib.hid hd1
  have HD2 := Lib.hid hd2
  have HF2 := Lib.hid hF2
  have HX2 := Lib.hid hX2
  obtain ⟨S, hS⟩ : ∃ S, S = t - t % 4 - (t - t % 4) % 96 := ⟨_, rfl⟩
  have HS : Hid ((t : Int) - (t : Int) % 4 - ((t : Int) - (t : Int) % 4) % 96 = (S : Int)) := Lib.hid (by omega)
  have hS1 : F ≤ S ∧ S ≤ t ∧ S % 96 = 0 := by omega
  have FS := Lib.hid (fun (s : Nat) (W : World) (hs : s ≤ M) => rstart_any 4 s W (by omega) hs)
  obtain ⟨i1, i2, i3⟩ := hin
  replace HZ := Lib.hid (HZ.out.alloc (.cells #[.int .i64 1, .int .i64 4, .int .i64 96, .int .i64 96, .int .i64 96] 3))
  replace HW := Lib.hid (HW.out.alloc (by simp) (.cells #[.int .i64 1, .int .i64 4, .int .i64 96, .int .i64 96, .int .i64 96] 3))
  clear hd1 hd2 hF2 hX2 hS
  go_enter Tryd.func6, Tryd.ntmps6
  go_wp2_with fail
  rw [HS.out]
  refine (FS.out S _ (by omega)).mono ?_
  rintro e w1 ⟨rfl, hb⟩
  replace HZ := Lib.hid (HZ.out.next hb)
  replace HW := Lib.hid (HW.out.trans (hb.mono HW.out.size))
  clear hb
  go_wp2_with fail
  try go_frame
  go_loopw [5, 7] (fun fv bv wr => ∃ s : Nat, fv = .int .i64 s ∧ bv = .bool (stB 4 s) ∧ F ≤ s ∧ s ≤ t ∧ s % 96 = 0 ∧ Hid (Blk wr w.heap.size 29 (d4 0 0 0 0)) ∧ Hid (Below w.heap.size w wr)) (fun fv _ _ => (intOf fv).toNat)
  case atStart => exact ⟨S, rfl, rfl, hS1.1, hS1.2.1, hS1.2.2, HZ, HW⟩
  case round =>
    clear HZ HW hS1 HS
    obtain ⟨s, rfl, rfl, hs1, hs2, hs3, HZ, HW⟩ := hrel
    cases hst : stB 4 s
    · have hne : s ≠ F := fun e => by rw [e, HF2.out] at hst; cases hst
      obtain ⟨r, rfl⟩ : ∃ r, s = r + 96 := ⟨s - 96, by omega⟩
      have HR : Hid (((r + 96 : Nat) : Int) - 96 = (r : Int)) := Lib.hid (by omega)
      have HR' : Hid ((r : Int) + 96 - 96 = (r : Int)) := Lib.hid (by omega)
      clear hst
      go_wp2_with fail
      try rw [HR.out]
      try rw [HR'.out]
      refine (FS.out r _ (by omega)).mono ?_
      rintro e w1 ⟨rfl, hb⟩
      replace HZ := Lib.hid (HZ.out.next hb)
      replace HW := Lib.hid (HW.out.trans (hb.mono HW.out.size))
      clear hb
      go_wp2_with fail
      go_roundw
      case rel => exact ⟨r, rfl, rfl, by omega, by omega, by omega, HZ, HW⟩
      case measure => simp [intOf] <;> omega
    · obtain rfl := HD1.out s hst hs1 hs2
      have HE : Hid ((s : Int) + 96 = ((s + 96 : Nat) : Int)) := Lib.hid (by omega)
      have hle : s + 96 ≤ X := by omega
      clear hst HD1 HF2
      go_wp2_with fail
      try rw [HE.out]
      refine (FS.out (s + 96) _ (by omega)).mono ?_
      rintro e w1 ⟨rfl, hb⟩
      replace HZ := Lib.hid (HZ.out.next hb)
      replace HW := Lib.hid (HW.out.trans (hb.mono HW.out.size))
      clear hb
      go_wp2_with fail
      try go_frame
      obtain ⟨wo, rfl⟩ : ∃ wo : World, wo = wr := ⟨_, rfl⟩
      go_loopw [8, 9] (fun tv bv wr => ∃ z : Nat, tv = .int .i64 z ∧ bv = .bool (stB 4 z) ∧ s < z ∧ z ≤ X ∧ z % 96 = 0 ∧ Hid (Blk wr w.heap.size 29 (d4 0 0 0 0)) ∧ Hid (Below w.heap.size w wr)) (fun tv _ _ => X - (intOf tv).toNat)
      case atStart => exact ⟨s + 96, by go_num, rfl, by omega, hle, by omega, HZ, HW⟩
      case round =>
        clear HZ HW hle HE
        obtain ⟨z, rfl, rfl, hz1, hz2, hz3, HZ, HW⟩ := hrel
        cases hst : stB 4 z
        · have hne : z ≠ X := fun e => by rw [e, HX2.out] at hst; cases hst
          have HE : Hid ((z : Int) + 96 = ((z + 96 : Nat) : Int)) := Lib.hid (by omega)
          have hle : z + 96 ≤ X := by omega
          clear hst
          go_wp2_with fail
          try rw [HE.out]
          refine (FS.out (z + 96) _ (by omega)).mono ?_
          rintro e w1 ⟨rfl, hb⟩
          replace HZ := Lib.hid (HZ.out.next hb)
          replace HW := Lib.hid (HW.out.trans (hb.mono HW.out.size))
          clear hb
          go_wp2_with fail
          go_roundw
          case rel => exact ⟨z + 96, by go_num, rfl, by omega, hle, by omega, HZ, HW⟩
          case measure => simp [intOf] <;> omega
        · obtain rfl := HD2.out z hst hz1 hz2
          clear hst HD2 HX2
          go_wp2_with (first | (refine wpList_dst 70 rfl ?_; refine wpList_run 70 rfl rfl _ (exec_build3 23 (.tmp 67) (.tmp 68) (.tmp 69) rfl (.int .i64 4) (.int .i64 (s : Int)) (.int .i64 (z : Int)) _ rfl rfl rfl (bn_build _ _ _ _)) ?_; go_frame) | (refine wpList_dst 71 rfl ?_; refine wpList_run 71 rfl rfl _ (exec_build1 29 0 (.tmp 70) rfl (.agg #[.int .i64 4, .int .i64 (s : Int), .int .i64 (z : Int)]) _ rfl (bd_b0 _ _ _ _)) ?_; go_frame) | (refine wpList_store_all rfl 29 (.tmp 4) (.tmp 71) rfl w.heap.size _ (d4 0 0 0 0) (d4 4 (s : Int) (z : Int) 0) rfl rfl HZ.out rfl bd_size (dt_one _ _ _ _) ?_; intro w9 HK9 ho9; have HO9 := Lib.hid ho9; clear ho9))
          exact bodyPost_ret (results_blk rfl _ _ w.heap.size _ (d4 4 (s : Int) (z : Int) 0) _ rfl HK9.out bd_under rfl bd_size) rfl ⟨rfl, HW.out.trans (HO9.out.below (Nat.le_refl _))⟩
theorem rblock_yes (L t : Nat) (w : World) (hL : L ≤ 4) (ht : t < M) : Calls Tryd.prog 6 #[.int .i64 L, .int .i64 t] w fun e w' => e = .returned (bdV L (fl L t : Nat) (nx L t : Nat) 0) ∧ Below w.heap.size w w' := by
  match L, hL with
  | 0, _ => exact rblock_0 t w ht
  | 1, _ => exact rblock_1 t w ht
  | 2, _ => exact rblock_2 t w ht
  | 3, _ => exact rblock_3 t w ht
  | 4, _ => exact rblock_4 t w ht
end Go.Proofs.YtmifpaafpmibmaaDoor
