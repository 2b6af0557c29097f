/- The reference's Cover. -/
import Derived.Test.YtmifpaafpmibmaaDoorDG
namespace Go.Proofs.YtmifpaafpmibmaaDoor
open Go.RowKit Hm Wm Cm

theorem zero_api_Bin : (Tryd.prog.info? 23).map (·.zero) = some (some (.agg #[.int .i64 0, .int .i64 0, .int .i64 0])) := by kernel_rfl
theorem bd_fld (l f t e : Int) (W : World) : (Instr.field 29 (bdV l f t e) 0).run Tryd.prog W = .ok (.agg #[.int .i64 l, .int .i64 f, .int .i64 t]) W := by kernel_rfl
theorem g_next {s b : Nat} (h : s < b) (hM : b ≤ M) : g 4 s b = (top 4 s b, s, nx (top 4 s b) s) :: g 4 (nx (top 4 s b) s) b :=
  g_of (Gr.cons h (g_gr (top_fits 4 s b h).2 hM)) (Nat.le_of_lt h) hM
set_option maxRecDepth 100000 in
set_option maxHeartbeats 1000000 in
theorem rcover_no (a b : Int) (w : World) (h : intB a b = false) : Calls Tryd.prog 19 #[.int .i64 a, .int .i64 b] w fun e w' => e = .returned (LsV (.slice none 0 0) 3) ∧ Below w.heap.size w w' := by
  have FI := Lib.hid (fun W => rint_any a b W)
  rw [h] at FI
  clear h
  obtain ⟨W1, hW1⟩ : ∃ W, W = w.alloc (.cells #[.slice none 0 0, .int .i64 0] 37) := ⟨_, rfl⟩
  have hb1 := (Below.refl w.heap.size w).alloc (Nat.le_refl _) (.cells #[.slice none 0 0, .int .i64 0] 37)
  have hz1 := Blk.new w 37 [.slice none 0 0, .int .i64 0]
  have HZ : Hid (Blk W1 w.heap.size 37 [.slice none 0 0, .int .i64 0]) := Lib.hid (by rw [hW1]; exact hz1)
  have HW : Hid (Below w.heap.size w W1) := Lib.hid (by rw [hW1]; exact hb1)
  have hsz : w.heap.size + 1 = W1.heap.size := by rw [hW1]; simp
  have HSZ := Lib.hid hsz
  clear hb1 hz1 hsz
  go_enter Tryd.func19, Tryd.ntmps19
  go_wp2_with fail
  rw [← hW1]
  clear hW1
  refine (FI.out _).mono ?_
  rintro e w1 ⟨rfl, h0⟩
  subst h0
  go_wp2_with (first | (refine wpList_dst 16 rfl ?_; refine wpList_run 16 rfl rfl _ (exec_build1 37 1 (.const (.int .i64 3)) rfl (.int .i64 3) _ rfl (ls_e3 _)) ?_; go_frame) | (refine wpList_store_all rfl 37 (.tmp 4) (.tmp 16) rfl (w.heap.size) _ [.slice none 0 0, .int .i64 0] [.slice none 0 0, .int .i64 3] rfl rfl HZ.out rfl size_rivermarkref06_Listed (List.forall_mem_cons.2 ⟨rfl, (List.forall_mem_cons.2 ⟨rfl, fun _ h => nomatch h⟩)⟩) ?_; intro w9 HK9 ho9; have HO9 := Lib.hid ho9; clear ho9))
  exact bodyPost_ret (results_blk rfl _ _ (w.heap.size) _ [.slice none 0 0, .int .i64 3] _ rfl HK9.out Tryd.underlying37 rfl size_rivermarkref06_Listed) rfl ⟨rfl, HW.out.trans (HO9.out.below (by omega))⟩
set_option maxRecDepth 100000 in
set_option maxHeartbeats 2000000 in
theorem rcover_yes (a b : Nat) (w : World) (hab : a ≤ b) (hbM : b ≤ M) : Calls Tryd.prog 19 #[.int .i64 a, .int .i64 b] w fun e w' => (∃ v, e = .returned (LsV v 0) ∧ Row w' w.heap.size v (g 4 a b)) ∧ Below w.heap.size w w' := by
  have hM : M = 1402560 := rfl
  have FI := Lib.hid (fun W => rint_any a b W)
  rw [show intB (a : Int) (b : Int) = true from decide_eq_true (by omega)] at FI
  have HLEN := Lib.hid (len_gen 4 (Nat.le_refl 4) a b hab hbM (fun h => absurd h (by omega)))
  have HB0 := Lib.hid (fun (s : Nat) (W : World) (hs : s < M) => rblock_yes 0 s W (by omega) hs)
  obtain ⟨W1, hW1⟩ : ∃ W, W = w.alloc (.cells #[.slice none 0 0, .int .i64 0] 37) := ⟨_, rfl⟩
  have hb1 := (Below.refl w.heap.size w).alloc (Nat.le_refl _) (.cells #[.slice none 0 0, .int .i64 0] 37)
  have hz1 := Blk.new w 37 [.slice none 0 0, .int .i64 0]
  have HZ : Hid (Blk W1 w.heap.size 37 [.slice none 0 0, .int .i64 0]) := Lib.hid (by rw [hW1]; exact hz1)
  have HW : Hid (Below w.heap.size w W1) := Lib.hid (by rw [hW1]; exact hb1)
  have hsz : w.heap.size + 1 = W1.heap.size := by rw [hW1]; simp
  have HSZ := Lib.hid hsz
  clear hb1 hz1 hsz
  go_enter Tryd.func19, Tryd.ntmps19
  go_wp2_with fail
  rw [← hW1]
  clear hW1
  refine (FI.out _).mono ?_
  rintro e w1 ⟨rfl, h0⟩
  subst h0
  go_wp2_with fail
  go_loopw [6, 7] (fun ov av wr => ∃ (pre : List Bk) (s : Nat), av = .int .i64 s ∧ a ≤ s ∧ s ≤ b ∧ Hid (pre ++ g 4 s b = g 4 a b) ∧ Hid (Row wr w.heap.size ov pre) ∧ Hid (Blk wr w.heap.size 37 [.slice none 0 0, .int .i64 0]) ∧ Hid (Below w.heap.size w wr)) (fun _ av _ => b - (intOf av).toNat)
  case atStart => exact ⟨[], a, rfl, Nat.le_refl _, hab, Lib.hid rfl, Lib.hid (Row.nil _ _), HZ, HW⟩
  case round =>
    clear HZ HW HSZ
    obtain ⟨pre, s, rfl, hs1, hs2, hpre, HR, HZ, HW⟩ := hrel
    obtain ⟨wo, hwo⟩ : ∃ wo : World, wo = wr := ⟨_, rfl⟩
    rw [← hwo] at HR HZ HW ⊢
    clear hwo
    by_cases hlt : s < b
    · have hpl : Hid (pre.length ≤ 2000000) := Lib.hid (by
        have h1 := congrArg List.length hpre.out
        rw [List.length_append] at h1
        have := HLEN.out
        omega)
      have FB0 := Lib.hid (fun W => HB0.out s W (by omega))
      simp only [fl_zero, nx_zero] at FB0
      go_wp2_with fail
      refine (FB0.out _).mono ?_
      rintro e w1 ⟨rfl, hb⟩
      replace HZ := Lib.hid (HZ.out.next hb)
      replace HW := Lib.hid (HW.out.trans (hb.mono HW.out.size))
      replace HR := Lib.hid (HR.out.below hb)
      clear hb
      have HRv := HR
      have HV := Lib.hid (Below.refl w1.heap.size w1)
      have HWv := HW
      have hgz : w.heap.size < w1.heap.size := by have h1 := HW.out.size; have h2 := HZ.out.lt; omega
      have HGZ := Lib.hid hgz
      clear hgz
      obtain ⟨gB, hgB⟩ : ∃ g, g = w1.heap.size := ⟨_, rfl⟩
      go_wp2_with (first | (refine wpList_dst 23 rfl ?_; refine wpList_run 23 rfl rfl _ (exec_field 29 (.tmp 22) 0 rfl _ _ rfl (bd_fld _ _ _ _ _)) ?_; go_frame) | (refine wpList_var rfl rfl 23 8 rfl rfl rfl (.tmp 23) rfl [.int .i64 0, .int .i64 0, .int .i64 0] [.int .i64 0, .int .i64 (s : Int), .int .i64 ((s : Int) + 1)] zero_api_Bin rfl rfl rfl size_api_Bin (List.forall_mem_cons.2 ⟨rfl, (List.forall_mem_cons.2 ⟨rfl, (List.forall_mem_cons.2 ⟨rfl, fun _ h => nomatch h⟩)⟩)⟩) ?_; intro w2 HB HBw; replace HZ := Lib.hid (HZ.out.next HBw.out); replace HW := Lib.hid (HW.out.trans (HBw.out.mono HW.out.size)); replace HR := Lib.hid (HR.out.below HBw.out); replace HV := Lib.hid (HV.out.trans (HBw.out.mono HV.out.size)); clear HBw))
      go_loopw [9] (fun lv wq => ∃ k K X : Nat, lv = .int .i64 k ∧ 1 ≤ k ∧ k ≤ 5 ∧ Hid (K = top (k - 1) s b) ∧ Hid (X = nx K s) ∧ Hid (Blk wq w1.heap.size 23 [.int .i64 (K : Int), .int .i64 (s : Int), .int .i64 (X : Int)]) ∧ Hid (Blk wq w.heap.size 37 [.slice none 0 0, .int .i64 0]) ∧ Hid (Below w1.heap.size w1 wq)) (fun lv _ => 5 - (intOf lv).toNat)
      case atStart => exact ⟨1, 0, s + 1, rfl, by omega, by omega, Lib.hid rfl, Lib.hid rfl, HB, HZ, HV⟩
      case round =>
        clear HB HZ HV HW HR
        obtain ⟨k, K, X, rfl, k1, k5, hK, hX, HB, HZ, HV⟩ := hrel
        by_cases hk : k ≤ 4
        · have FB := Lib.hid (fun W => rblock_yes k s W hk (by omega))
          have ck : decide (k ≤ 4) = true := decide_eq_true hk
          have ck2 : decide ((k : Int) ≤ 4) = true := decide_eq_true (by omega)
          have hkp : k - 1 + 1 = k := by omega
          have hfull := top_full (N := k) (a := s) (b := b)
          have hless := top_less (N := k - 1) (a := s) (b := b)
          rw [hkp] at hless
          obtain ⟨F, hF⟩ : ∃ F, fl k s = F := ⟨_, rfl⟩
          obtain ⟨Y, hY⟩ : ∃ Y, nx k s = Y := ⟨_, rfl⟩
          rw [hF] at FB hfull hless
          rw [hY] at FB hfull hless
          have HFU := Lib.hid hfull
          have HLE := Lib.hid hless
          have HF := Lib.hid hF
          have HY := Lib.hid hY
          clear hfull hless hF hY hkp
          by_cases hFs : s = F
          · subst hFs
            by_cases hYb : Y ≤ b
            · have cB : decide (Y ≤ b) = true := decide_eq_true hYb
              have cB2 : decide ((Y : Int) ≤ (b : Int)) = true := decide_eq_true (by omega)
              go_wp2_with fail
              refine (FB.out _).mono ?_
              rintro e w21 ⟨rfl, hb⟩
              replace HB := Lib.hid (HB.out.next hb)
              replace HZ := Lib.hid (HZ.out.next hb)
              replace HV := Lib.hid (HV.out.trans (hb.mono HV.out.size))
              clear hb
              go_wp2_with (first | (refine wpList_dst 31 rfl ?_; refine wpList_run 31 rfl rfl _ (exec_field 29 (.tmp 30) 0 rfl _ _ rfl (bd_fld _ _ _ _ _)) ?_; go_frame) | (refine wpList_var rfl rfl 23 10 rfl rfl rfl (.tmp 31) rfl [.int .i64 0, .int .i64 0, .int .i64 0] [.int .i64 (k : Int), .int .i64 (s : Int), .int .i64 (Y : Int)] zero_api_Bin rfl rfl rfl size_api_Bin (List.forall_mem_cons.2 ⟨rfl, (List.forall_mem_cons.2 ⟨rfl, (List.forall_mem_cons.2 ⟨rfl, fun _ h => nomatch h⟩)⟩)⟩) ?_; intro w22 HC HBw; replace HB := Lib.hid (HB.out.next HBw.out); replace HZ := Lib.hid (HZ.out.next HBw.out); replace HV := Lib.hid (HV.out.trans (HBw.out.mono HV.out.size)); clear HBw) | (refine wpList_store_all rfl 23 (.tmp 8) (.tmp 42) rfl (w1.heap.size) _ [.int .i64 (K : Int), .int .i64 (s : Int), .int .i64 (X : Int)] [.int .i64 (k : Int), .int .i64 (s : Int), .int .i64 (Y : Int)] rfl rfl HB.out rfl bn_size (List.forall_mem_cons.2 ⟨rfl, (List.forall_mem_cons.2 ⟨rfl, (List.forall_mem_cons.2 ⟨rfl, fun _ h => nomatch h⟩)⟩)⟩) ?_; intro w9 HK9 ho9; have HO9 := Lib.hid ho9; clear ho9; replace HZ := Lib.hid (HO9.out.blk HZ.out (by have := HGZ.out; omega)); replace HV := Lib.hid (HV.out.trans (HO9.out.below (Nat.le_refl _)))) | (refine wpList_dst 32 rfl ?_; refine wpList_run 32 rfl rfl _ (exec_fieldAddr 23 (.tmp 10) 1 rfl _ _ rfl (fa_api_Bin_1_0 _ _)) ?_; go_frame) | (refine wpList_dst 33 rfl ?_; refine wpList_run 33 rfl rfl _ (exec_load 3 (.tmp 32) rfl _ (.int .i64 (s : Int)) rfl (run_load_cell flat_int (HC.out.cell 1))) ?_; go_frame) | (refine wpList_dst 37 rfl ?_; refine wpList_runG 37 rfl rfl _ (exec_fieldAddr 23 (.tmp 10) 2 rfl _ _ rfl (fa_api_Bin_2_0 _ _)) ?_; go_frame) | (refine wpList_dst 38 rfl ?_; refine wpList_runG 38 rfl rfl _ (exec_load 3 (.tmp 37) rfl _ (.int .i64 (Y : Int)) rfl (run_load_cell flat_int (HC.out.cell 2))) ?_; go_frame) | (refine wpList_dst 42 rfl ?_; refine wpList_run 42 rfl rfl _ (exec_load 23 (.tmp 10) rfl _ (.agg #[.int .i64 (k : Int), .int .i64 (s : Int), .int .i64 (Y : Int)]) rfl (run_load_part _ 23 _ 0 3 _ [.int .i64 (k : Int), .int .i64 (s : Int), .int .i64 (Y : Int)] _ HC.out (by simp) Tryd.underlying23 rfl size_api_Bin)) ?_; go_frame))
              go_roundw
              case rel => exact ⟨k + 1, k, Y, by go_num, by omega, by omega, Lib.hid (by first | exact (HFU.out rfl hYb).symm | exact (HFU.out trivial hYb).symm), Lib.hid (by rw [← HY.out]), HK9, HZ, HV⟩
              case measure => simp [intOf] <;> omega
            · have hno : ¬ (s = s ∧ Y ≤ b) := fun h => hYb h.2
              have cB : decide (Y ≤ b) = false := decide_eq_false hYb
              have cB2 : decide ((Y : Int) ≤ (b : Int)) = false := decide_eq_false (by omega)
              go_wp2_with fail
              refine (FB.out _).mono ?_
              rintro e w21 ⟨rfl, hb⟩
              replace HB := Lib.hid (HB.out.next hb)
              replace HZ := Lib.hid (HZ.out.next hb)
              replace HV := Lib.hid (HV.out.trans (hb.mono HV.out.size))
              clear hb
              go_wp2_with (first | (refine wpList_dst 31 rfl ?_; refine wpList_run 31 rfl rfl _ (exec_field 29 (.tmp 30) 0 rfl _ _ rfl (bd_fld _ _ _ _ _)) ?_; go_frame) | (refine wpList_var rfl rfl 23 10 rfl rfl rfl (.tmp 31) rfl [.int .i64 0, .int .i64 0, .int .i64 0] [.int .i64 (k : Int), .int .i64 (s : Int), .int .i64 (Y : Int)] zero_api_Bin rfl rfl rfl size_api_Bin (List.forall_mem_cons.2 ⟨rfl, (List.forall_mem_cons.2 ⟨rfl, (List.forall_mem_cons.2 ⟨rfl, fun _ h => nomatch h⟩)⟩)⟩) ?_; intro w22 HC HBw; replace HB := Lib.hid (HB.out.next HBw.out); replace HZ := Lib.hid (HZ.out.next HBw.out); replace HV := Lib.hid (HV.out.trans (HBw.out.mono HV.out.size)); clear HBw) | (refine wpList_dst 32 rfl ?_; refine wpList_run 32 rfl rfl _ (exec_fieldAddr 23 (.tmp 10) 1 rfl _ _ rfl (fa_api_Bin_1_0 _ _)) ?_; go_frame) | (refine wpList_dst 33 rfl ?_; refine wpList_run 33 rfl rfl _ (exec_load 3 (.tmp 32) rfl _ (.int .i64 (s : Int)) rfl (run_load_cell flat_int (HC.out.cell 1))) ?_; go_frame) | (refine wpList_dst 37 rfl ?_; refine wpList_runG 37 rfl rfl _ (exec_fieldAddr 23 (.tmp 10) 2 rfl _ _ rfl (fa_api_Bin_2_0 _ _)) ?_; go_frame) | (refine wpList_dst 38 rfl ?_; refine wpList_runG 38 rfl rfl _ (exec_load 3 (.tmp 37) rfl _ (.int .i64 (Y : Int)) rfl (run_load_cell flat_int (HC.out.cell 2))) ?_; go_frame) | (refine wpList_dst 42 rfl ?_; refine wpList_run 42 rfl rfl _ (exec_load 23 (.tmp 10) rfl _ (.agg #[.int .i64 (k : Int), .int .i64 (s : Int), .int .i64 (Y : Int)]) rfl (run_load_part _ 23 _ 0 3 _ [.int .i64 (k : Int), .int .i64 (s : Int), .int .i64 (Y : Int)] _ HC.out (by simp) Tryd.underlying23 rfl size_api_Bin)) ?_; go_frame))
              go_roundw
              case rel => exact ⟨k + 1, K, X, by go_num, by omega, by omega, Lib.hid (by rw [Nat.add_sub_cancel, HLE.out hno]; exact hK.out), hX, HB, HZ, HV⟩
              case measure => simp [intOf] <;> omega
          · have hno : ¬ (F = s ∧ Y ≤ b) := fun h => hFs h.1.symm
            have cA : ((F : Int) == (s : Int)) = false := by rw [beq_eq_false_iff_ne]; omega
            have cA2 : (F == s) = false := by rw [beq_eq_false_iff_ne]; omega
            have cA3 : decide (F = s) = false := decide_eq_false (fun h => hFs h.symm)
            have cA4 : decide ((F : Int) = (s : Int)) = false := decide_eq_false (by omega)
            go_wp2_with fail
            refine (FB.out _).mono ?_
            rintro e w21 ⟨rfl, hb⟩
            replace HB := Lib.hid (HB.out.next hb)
            replace HZ := Lib.hid (HZ.out.next hb)
            replace HV := Lib.hid (HV.out.trans (hb.mono HV.out.size))
            clear hb
            go_wp2_with (first | (refine wpList_dst 31 rfl ?_; refine wpList_run 31 rfl rfl _ (exec_field 29 (.tmp 30) 0 rfl _ _ rfl (bd_fld _ _ _ _ _)) ?_; go_frame) | (refine wpList_var rfl rfl 23 10 rfl rfl rfl (.tmp 31) rfl [.int .i64 0, .int .i64 0, .int .i64 0] [.int .i64 (k : Int), .int .i64 (F : Int), .int .i64 (Y : Int)] zero_api_Bin rfl rfl rfl size_api_Bin (List.forall_mem_cons.2 ⟨rfl, (List.forall_mem_cons.2 ⟨rfl, (List.forall_mem_cons.2 ⟨rfl, fun _ h => nomatch h⟩)⟩)⟩) ?_; intro w22 HC HBw; replace HB := Lib.hid (HB.out.next HBw.out); replace HZ := Lib.hid (HZ.out.next HBw.out); replace HV := Lib.hid (HV.out.trans (HBw.out.mono HV.out.size)); clear HBw) | (refine wpList_dst 32 rfl ?_; refine wpList_run 32 rfl rfl _ (exec_fieldAddr 23 (.tmp 10) 1 rfl _ _ rfl (fa_api_Bin_1_0 _ _)) ?_; go_frame) | (refine wpList_dst 33 rfl ?_; refine wpList_run 33 rfl rfl _ (exec_load 3 (.tmp 32) rfl _ (.int .i64 (F : Int)) rfl (run_load_cell flat_int (HC.out.cell 1))) ?_; go_frame) | (refine wpList_dst 37 rfl ?_; refine wpList_runG 37 rfl rfl _ (exec_fieldAddr 23 (.tmp 10) 2 rfl _ _ rfl (fa_api_Bin_2_0 _ _)) ?_; go_frame) | (refine wpList_dst 38 rfl ?_; refine wpList_runG 38 rfl rfl _ (exec_load 3 (.tmp 37) rfl _ (.int .i64 (Y : Int)) rfl (run_load_cell flat_int (HC.out.cell 2))) ?_; go_frame) | (refine wpList_dst 42 rfl ?_; refine wpList_run 42 rfl rfl _ (exec_load 23 (.tmp 10) rfl _ (.agg #[.int .i64 (k : Int), .int .i64 (F : Int), .int .i64 (Y : Int)]) rfl (run_load_part _ 23 _ 0 3 _ [.int .i64 (k : Int), .int .i64 (F : Int), .int .i64 (Y : Int)] _ HC.out (by simp) Tryd.underlying23 rfl size_api_Bin)) ?_; go_frame))
            go_roundw
            case rel => exact ⟨k + 1, K, X, by go_num, by omega, by omega, Lib.hid (by rw [Nat.add_sub_cancel, HLE.out hno]; exact hK.out), hX, HB, HZ, HV⟩
            case measure => simp [intOf] <;> omega
        · obtain rfl : k = 5 := by omega
          have HT : Hid (K = top 4 s b) := hK
          have hfit := top_fits 4 s b hlt
          rw [← HT.out, ← hX.out] at hfit
          obtain ⟨_, hXb⟩ := hfit
          have hsX : s < X := by
            rw [hX.out]
            have := (blk_in (L := K) (t := s) (by omega)).2.1
            omega
          have HG : Hid ((pre ++ [(K, s, X)]) ++ g 4 X b = g 4 a b) := Lib.hid (by rw [← hpre.out, g_next hlt hbM, ← HT.out, ← hX.out, List.append_assoc]; rfl)
          have HR := Lib.hid (HRv.out.below HV.out)
          have HW := Lib.hid (HWv.out.trans (HV.out.mono HWv.out.size))
          clear hK hpre k1 k5 hk
          go_wp2_with (first | (refine wpList_dst 45 rfl ?_; refine wpList_runW 45 rfl rfl _ _ (exec_buildS 33 1 _ rfl #[(0, .agg #[.int .i64 (K : Int), .int .i64 (s : Int), .int .i64 (X : Int)])] rfl _ (run_bs1x _ _ _ _)) ?_; go_frame) | (refine wpList_pushB rfl (.tmp 43) (.tmp 45) rfl w.heap.size _ pre (K, s, X) rfl HR.out HW.out.size hpl.out rfl ?_; intro v' w33 hr2 hk2 hb2; have hx2 := hk2.blk HB.out (.inr rfl); have hz2 := hk2.blk HZ.out (.inl ls_ne); replace HB := Lib.hid hx2; replace HZ := Lib.hid hz2; replace HR := Lib.hid hr2; replace HW := Lib.hid (HW.out.trans hb2); clear hr2 hk2 hb2 hx2 hz2) | (refine wpList_dst 44 rfl ?_; refine wpList_run 44 rfl rfl _ (exec_load 23 (.tmp 8) rfl _ (.agg #[.int .i64 (K : Int), .int .i64 (s : Int), .int .i64 (X : Int)]) rfl (run_load_part _ 23 _ 0 3 _ [.int .i64 (K : Int), .int .i64 (s : Int), .int .i64 (X : Int)] _ HB.out (by simp) Tryd.underlying23 rfl size_api_Bin)) ?_; go_frame) | (refine wpList_dst 47 rfl ?_; refine wpList_run 47 rfl rfl _ (exec_fieldAddr 23 (.tmp 8) 2 rfl _ _ rfl (fa_api_Bin_2_0 _ _)) ?_; go_frame) | (refine wpList_dst 48 rfl ?_; refine wpList_run 48 rfl rfl _ (exec_load 3 (.tmp 47) rfl _ (.int .i64 (X : Int)) rfl (run_load_cell flat_int (HB.out.cell 2))) ?_; go_frame))
          go_roundw
          case rel => exact ⟨_, X, rfl, by omega, hXb, HG, HR, HZ, HW⟩
          case measure => simp [intOf] <;> omega
    · obtain rfl : s = b := by omega
      have HP : Hid (pre = g 4 a s) := Lib.hid (by rw [← hpre.out, g_same, List.append_nil])
      clear hpre
      obtain ⟨A, c, rfl, hc⟩ := HR.out.form
      go_wp2_with (first | (refine wpList_dst 50 rfl ?_; refine wpList_run 50 rfl rfl _ (exec_build1 37 0 (.tmp 49) rfl _ _ rfl (ls_v _ _ _ _)) ?_; go_frame) | (refine wpList_store_all rfl 37 (.tmp 4) (.tmp 50) rfl (w.heap.size) _ [.slice none 0 0, .int .i64 0] [.slice A pre.length c, .int .i64 0] rfl rfl HZ.out rfl size_rivermarkref06_Listed (List.forall_mem_cons.2 ⟨rfl, (List.forall_mem_cons.2 ⟨rfl, fun _ h => nomatch h⟩)⟩) ?_; intro w9 HK9 ho9; have HO9 := Lib.hid ho9; clear ho9; replace HR := Lib.hid (HR.out.only HO9.out HZ.out ls_ne)))
      exact bodyPost_ret (results_blk rfl _ _ (w.heap.size) _ [.slice A pre.length c, .int .i64 0] _ rfl HK9.out Tryd.underlying37 rfl size_rivermarkref06_Listed) rfl ⟨⟨_, rfl, by rw [← HP.out]; exact HR.out⟩, HW.out.trans (HO9.out.below (by omega))⟩
end Go.Proofs.YtmifpaafpmibmaaDoor
