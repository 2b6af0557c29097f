/- The laws' sanity. -/
import Derived.Test.YtpmlihhofmblpaaGreatDoorQ24
namespace Go.Proofs.YtpmlihhofmblpaaGreatDoor
open Go.RowKit Hm Wm Wn

theorem wpList_var2 {P : Program} {w : World} {ops : Array Oper} {rest : List Oper} {o1 o2 o3 o4 : Oper} {a : Act} {Q : Exit → Act → World → Prop} (g1 : o1.guard = none) (g2 : o2.guard = none) (g3 : o3.guard = none) (g4 : o4.guard = none) (t : TypeId) (d1 d2 : Tmp) (e1 : o1.dst = some d1) (e2 : o2.dst = some d2) (e3 : o3.dst = none) (e4 : o4.dst = none) (ho1 : o1.op = .alloc t) (ho2 : o2.op = .alloc t)
    (y1 y2 : Operand) (ho3 : o3.op = .store t (.tmp d1) y1) (ho4 : o4.op = .store t (.tmp d2) y2) (Z c1 c2 : List Value) (hz : (P.info? t).map (·.zero) = some (some (.agg Z.toArray)))
    (x1 : ((a.put (some d1) (.pointer (some ⟨w.heap.size, 0, none⟩))).put (some d2) (.pointer (some ⟨w.heap.size + 1, 0, none⟩))).eval (.tmp d1) = .pointer (some ⟨w.heap.size, 0, none⟩))
    (z1 : ((a.put (some d1) (.pointer (some ⟨w.heap.size, 0, none⟩))).put (some d2) (.pointer (some ⟨w.heap.size + 1, 0, none⟩))).eval y1 = .agg c1.toArray)
    (x2 : (((a.put (some d1) (.pointer (some ⟨w.heap.size, 0, none⟩))).put (some d2) (.pointer (some ⟨w.heap.size + 1, 0, none⟩))).put none undef).eval (.tmp d2) = .pointer (some ⟨w.heap.size + 1, 0, none⟩))
    (z2 : (((a.put (some d1) (.pointer (some ⟨w.heap.size, 0, none⟩))).put (some d2) (.pointer (some ⟨w.heap.size + 1, 0, none⟩))).put none undef).eval y2 = .agg c2.toArray)
    (l1 : c1.length = Z.length) (l2 : c2.length = Z.length) (s1 : (P.info? t).map (·.size) = some c1.length) (s2 : (P.info? t).map (·.size) = some c2.length) (n1 : ∀ v ∈ c1, v.oneCell' = true) (n2 : ∀ v ∈ c2, v.oneCell' = true)
    (h : ∀ w', Hid (Blk w' w.heap.size t c1) → Hid (Blk w' (w.heap.size + 1) t c2) → Hid (Below w.heap.size w w') → wpList P ops Q rest ((((a.put (some d1) (.pointer (some ⟨w.heap.size, 0, none⟩))).put (some d2) (.pointer (some ⟨w.heap.size + 1, 0, none⟩))).put none undef).put none undef) w') : wpList P ops Q (o1 :: o2 :: o3 :: o4 :: rest) a w := by
  refine wpList_alloc_zero g1 t ho1 Z hz ?_
  refine wpList_alloc_zero g2 t ho2 Z hz ?_
  rw [e1, e2, qsize_alloc]
  have k1 := (Blk.new w t Z).alloc (.cells Z.toArray t)
  have k2 := Blk.new (w.alloc (.cells Z.toArray t)) t Z
  rw [qsize_alloc] at k2
  have kb := ((Below.refl w.heap.size w).alloc (Nat.le_refl _) (.cells Z.toArray t)).alloc (by simp) (.cells Z.toArray t)
  refine wpList_store_all g3 t (.tmp d1) y1 ho3 w.heap.size t Z c1 x1 z1 k1 l1 s1 n1 fun w1 b1 f1 => ?_
  rw [e3]
  refine wpList_store_all g4 t (.tmp d2) y2 ho4 (w.heap.size + 1) t Z c2 x2 z2 (f1.blk k2 (by omega)) l2 s2 n2 fun w2 b2 f2 => ?_
  rw [e4]
  exact h w2 (Lib.hid (f2.blk b1.out (by omega))) b2 (Lib.hid ((kb.trans (f1.below (Nat.le_refl _))).trans (f2.below (by omega))))
theorem run_b3 (w : World) : (Instr.buildSlice 22 3 #[(0, .agg #[.bool false, .string ⟨#[1]⟩, .string ⟨#[2]⟩]), (1, .agg #[.bool false, .string ⟨#[1]⟩, .string ⟨#[3]⟩]), (2, .agg #[.bool true, .string ⟨#[5]⟩, .string ⟨#[6]⟩])]).run Tryz.prog w = .ok (.slice (some ⟨w.heap.size, 0, none⟩) 3 3) (w.alloc (.cells (qL [(⟨false, ⟨#[1]⟩, ⟨#[2]⟩⟩ : Rv), (⟨false, ⟨#[1]⟩, ⟨#[3]⟩⟩ : Rv), (⟨true, ⟨#[5]⟩, ⟨#[6]⟩⟩ : Rv)]).toArray 26)) := by kernel_rfl
theorem qr_b12 (W : World) : (Instr.build 26 #[(1, .string ⟨#[2]⟩), (2, .string ⟨#[4]⟩)]).run Tryz.prog W = .ok (.agg #[.bool false, .string ⟨#[2]⟩, .string ⟨#[4]⟩]) W := by kernel_rfl
theorem qr_b0 (W : World) : (Instr.build 26 #[(0, .bool true)]).run Tryz.prog W = .ok (.agg #[.bool true, .string ⟨#[]⟩, .string ⟨#[]⟩]) W := by kernel_rfl
set_option maxRecDepth 1000000 in
set_option maxHeartbeats 4000000 in
theorem qsanity_any (w : World) (hE : Env w) : Calls Tryz.prog 4 #[] w fun e w' => e = .returned (.bool true) ∧ Below w.heap.size w w' := by
  have HE := Lib.hid hE
  have HW := Lib.hid (Below.refl w.heap.size w)
  clear hE
  go_enter Tryz.func4, Tryz.ntmps4
  go_wp2_with fail
  refine ((s30 _)).mono ?_
  rintro e w1 ⟨rfl, hb⟩
  replace HE := Lib.hid (HE.out.next hb)
  replace HW := Lib.hid (HW.out.trans (hb.mono HW.out.size))
  clear hb
  go_wp2_with (first | (refine wpList_var rfl rfl 26 1 rfl rfl rfl (.tmp 31) rfl [.bool false, .string ByteArray.empty, .string ByteArray.empty] [.bool true, .string ⟨#[3]⟩, .string ⟨#[2]⟩] zero_api_Rat rfl rfl rfl size_api_Rat (List.forall_mem_cons.2 ⟨rfl, (List.forall_mem_cons.2 ⟨rfl, (List.forall_mem_cons.2 ⟨rfl, fun _ h => nomatch h⟩)⟩)⟩) ?_; intro w2 HA1 HBw; replace HE := Lib.hid (HE.out.next HBw.out); replace HW := Lib.hid (HW.out.trans (HBw.out.mono HW.out.size)); clear HBw))
  obtain ⟨g1, hg1⟩ : ∃ g, g = w1.heap.size := ⟨_, rfl⟩
  rw [← hg1] at HA1 ⊢
  clear hg1
  refine ((s34 _)).mono ?_
  rintro e w3 ⟨rfl, hb⟩
  replace HE := Lib.hid (HE.out.next hb)
  replace HW := Lib.hid (HW.out.trans (hb.mono HW.out.size))
  replace HA1 := Lib.hid (HA1.out.next hb)
  clear hb
  go_wp2_with (first | (refine wpList_var rfl rfl 26 3 rfl rfl rfl (.tmp 35) rfl [.bool false, .string ByteArray.empty, .string ByteArray.empty] [.bool false, .string ⟨#[]⟩, .string ⟨#[]⟩] zero_api_Rat rfl rfl rfl size_api_Rat (List.forall_mem_cons.2 ⟨rfl, (List.forall_mem_cons.2 ⟨rfl, (List.forall_mem_cons.2 ⟨rfl, fun _ h => nomatch h⟩)⟩)⟩) ?_; intro w4 HA3 HBw; replace HE := Lib.hid (HE.out.next HBw.out); replace HW := Lib.hid (HW.out.trans (HBw.out.mono HW.out.size)); replace HA1 := Lib.hid (HA1.out.next HBw.out); clear HBw))
  clear HA3
  refine ((s38 _)).mono ?_
  rintro e w5 ⟨rfl, hb⟩
  replace HE := Lib.hid (HE.out.next hb)
  replace HW := Lib.hid (HW.out.trans (hb.mono HW.out.size))
  replace HA1 := Lib.hid (HA1.out.next hb)
  clear hb
  go_wp2_with (first | (refine wpList_var rfl rfl 26 5 rfl rfl rfl (.tmp 39) rfl [.bool false, .string ByteArray.empty, .string ByteArray.empty] [.bool false, .string ⟨#[]⟩, .string ⟨#[]⟩] zero_api_Rat rfl rfl rfl size_api_Rat (List.forall_mem_cons.2 ⟨rfl, (List.forall_mem_cons.2 ⟨rfl, (List.forall_mem_cons.2 ⟨rfl, fun _ h => nomatch h⟩)⟩)⟩) ?_; intro w6 HA5 HBw; replace HE := Lib.hid (HE.out.next HBw.out); replace HW := Lib.hid (HW.out.trans (HBw.out.mono HW.out.size)); replace HA1 := Lib.hid (HA1.out.next HBw.out); clear HBw))
  clear HA5
  refine ((s41 _)).mono ?_
  rintro e w7 ⟨rfl, hb⟩
  replace HE := Lib.hid (HE.out.next hb)
  replace HW := Lib.hid (HW.out.trans (hb.mono HW.out.size))
  replace HA1 := Lib.hid (HA1.out.next hb)
  clear hb
  go_wp2_with fail
  refine ((s42 _)).mono ?_
  rintro e w8 ⟨rfl, hb⟩
  replace HE := Lib.hid (HE.out.next hb)
  replace HW := Lib.hid (HW.out.trans (hb.mono HW.out.size))
  replace HA1 := Lib.hid (HA1.out.next hb)
  clear hb
  go_wp2_with (first | (refine wpList_var2 rfl rfl rfl rfl 26 7 8 rfl rfl rfl rfl rfl rfl (.tmp 41) (.tmp 42) rfl rfl [.bool false, .string ByteArray.empty, .string ByteArray.empty] [.bool false, .string ⟨#[1]⟩, .string ⟨#[2]⟩] [.bool false, .string ⟨#[1]⟩, .string ⟨#[3]⟩] qr_zero rfl rfl rfl rfl rfl rfl qr_size qr_size (List.forall_mem_cons.2 ⟨rfl, (List.forall_mem_cons.2 ⟨rfl, (List.forall_mem_cons.2 ⟨rfl, fun _ h => nomatch h⟩)⟩)⟩) (List.forall_mem_cons.2 ⟨rfl, (List.forall_mem_cons.2 ⟨rfl, (List.forall_mem_cons.2 ⟨rfl, fun _ h => nomatch h⟩)⟩)⟩) ?_; intro w9 HA7 HA8 HBw; replace HE := Lib.hid (HE.out.next HBw.out); replace HW := Lib.hid (HW.out.trans (HBw.out.mono HW.out.size)); replace HA1 := Lib.hid (HA1.out.next HBw.out); clear HBw) | (refine wpList_dst 44 rfl ?_; refine wpList_run 44 rfl rfl _ (exec_load 26 (.tmp 7) rfl _ (.agg #[.bool false, .string ⟨#[1]⟩, .string ⟨#[2]⟩]) rfl (run_load_part _ 26 _ 0 3 _ [.bool false, .string ⟨#[1]⟩, .string ⟨#[2]⟩] _ HA7.out (by simp) Tryz.underlying26 rfl size_api_Rat)) ?_; go_frame) | (refine wpList_dst 45 rfl ?_; refine wpList_run 45 rfl rfl _ (exec_load 26 (.tmp 8) rfl _ (.agg #[.bool false, .string ⟨#[1]⟩, .string ⟨#[3]⟩]) rfl (run_load_part _ 26 _ 0 3 _ [.bool false, .string ⟨#[1]⟩, .string ⟨#[3]⟩] _ HA8.out (by simp) Tryz.underlying26 rfl size_api_Rat)) ?_; go_frame))
  obtain ⟨g7, hg7⟩ : ∃ g, g = w8.heap.size := ⟨_, rfl⟩
  rw [← hg7] at HA7 HA8 ⊢
  clear hg7
  refine ((s46 _)).mono ?_
  rintro e w10 ⟨rfl, hb⟩
  replace HE := Lib.hid (HE.out.next hb)
  replace HW := Lib.hid (HW.out.trans (hb.mono HW.out.size))
  replace HA1 := Lib.hid (HA1.out.next hb)
  replace HA7 := Lib.hid (HA7.out.next hb)
  replace HA8 := Lib.hid (HA8.out.next hb)
  clear hb
  go_wp2_with (first | (refine wpList_var rfl rfl 26 9 rfl rfl rfl (.tmp 47) rfl [.bool false, .string ByteArray.empty, .string ByteArray.empty] [.bool false, .string ⟨#[3]⟩, .string ⟨#[2]⟩] zero_api_Rat rfl rfl rfl size_api_Rat (List.forall_mem_cons.2 ⟨rfl, (List.forall_mem_cons.2 ⟨rfl, (List.forall_mem_cons.2 ⟨rfl, fun _ h => nomatch h⟩)⟩)⟩) ?_; intro w11 HA9 HBw; replace HE := Lib.hid (HE.out.next HBw.out); replace HW := Lib.hid (HW.out.trans (HBw.out.mono HW.out.size)); replace HA1 := Lib.hid (HA1.out.next HBw.out); replace HA7 := Lib.hid (HA7.out.next HBw.out); replace HA8 := Lib.hid (HA8.out.next HBw.out); clear HBw) | (refine wpList_dst 50 rfl ?_; refine wpList_run 50 rfl rfl _ (exec_load 26 (.tmp 7) rfl _ (.agg #[.bool false, .string ⟨#[1]⟩, .string ⟨#[2]⟩]) rfl (run_load_part _ 26 _ 0 3 _ [.bool false, .string ⟨#[1]⟩, .string ⟨#[2]⟩] _ HA7.out (by simp) Tryz.underlying26 rfl size_api_Rat)) ?_; go_frame) | (refine wpList_dst 51 rfl ?_; refine wpList_run 51 rfl rfl _ (exec_build0 26 rfl _ (qr_nil _)) ?_; go_frame))
  obtain ⟨g9, hg9⟩ : ∃ g, g = w10.heap.size := ⟨_, rfl⟩
  rw [← hg9] at HA9 ⊢
  clear hg9
  refine ((s52 _)).mono ?_
  rintro e w12 ⟨rfl, hb⟩
  replace HE := Lib.hid (HE.out.next hb)
  replace HW := Lib.hid (HW.out.trans (hb.mono HW.out.size))
  replace HA1 := Lib.hid (HA1.out.next hb)
  replace HA7 := Lib.hid (HA7.out.next hb)
  replace HA8 := Lib.hid (HA8.out.next hb)
  replace HA9 := Lib.hid (HA9.out.next hb)
  clear hb
  go_wp2_with (first | (refine wpList_var rfl rfl 26 11 rfl rfl rfl (.tmp 53) rfl [.bool false, .string ByteArray.empty, .string ByteArray.empty] [.bool false, .string ⟨#[]⟩, .string ⟨#[]⟩] zero_api_Rat rfl rfl rfl size_api_Rat (List.forall_mem_cons.2 ⟨rfl, (List.forall_mem_cons.2 ⟨rfl, (List.forall_mem_cons.2 ⟨rfl, fun _ h => nomatch h⟩)⟩)⟩) ?_; intro w13 HA11 HBw; replace HE := Lib.hid (HE.out.next HBw.out); replace HW := Lib.hid (HW.out.trans (HBw.out.mono HW.out.size)); replace HA1 := Lib.hid (HA1.out.next HBw.out); replace HA7 := Lib.hid (HA7.out.next HBw.out); replace HA8 := Lib.hid (HA8.out.next HBw.out); replace HA9 := Lib.hid (HA9.out.next HBw.out); clear HBw))
  clear HA11
  refine ((s56 _)).mono ?_
  rintro e w14 ⟨rfl, hb⟩
  replace HE := Lib.hid (HE.out.next hb)
  replace HW := Lib.hid (HW.out.trans (hb.mono HW.out.size))
  replace HA1 := Lib.hid (HA1.out.next hb)
  replace HA7 := Lib.hid (HA7.out.next hb)
  replace HA8 := Lib.hid (HA8.out.next hb)
  replace HA9 := Lib.hid (HA9.out.next hb)
  clear hb
  go_wp2_with fail
  refine ((s57 _)).mono ?_
  rintro e w15 ⟨rfl, hb⟩
  replace HE := Lib.hid (HE.out.next hb)
  replace HW := Lib.hid (HW.out.trans (hb.mono HW.out.size))
  replace HA1 := Lib.hid (HA1.out.next hb)
  replace HA7 := Lib.hid (HA7.out.next hb)
  replace HA8 := Lib.hid (HA8.out.next hb)
  replace HA9 := Lib.hid (HA9.out.next hb)
  clear hb
  go_wp2_with fail
  refine ((s56 _)).mono ?_
  rintro e w16 ⟨rfl, hb⟩
  replace HE := Lib.hid (HE.out.next hb)
  replace HW := Lib.hid (HW.out.trans (hb.mono HW.out.size))
  replace HA1 := Lib.hid (HA1.out.next hb)
  replace HA7 := Lib.hid (HA7.out.next hb)
  replace HA8 := Lib.hid (HA8.out.next hb)
  replace HA9 := Lib.hid (HA9.out.next hb)
  clear hb
  go_wp2_with fail
  refine ((s62 _)).mono ?_
  rintro e w17 ⟨rfl, hb⟩
  replace HE := Lib.hid (HE.out.next hb)
  replace HW := Lib.hid (HW.out.trans (hb.mono HW.out.size))
  replace HA1 := Lib.hid (HA1.out.next hb)
  replace HA7 := Lib.hid (HA7.out.next hb)
  replace HA8 := Lib.hid (HA8.out.next hb)
  replace HA9 := Lib.hid (HA9.out.next hb)
  clear hb
  go_wp2_with fail
  refine ((s66 _)).mono ?_
  rintro e w18 ⟨rfl, hb⟩
  replace HE := Lib.hid (HE.out.next hb)
  replace HW := Lib.hid (HW.out.trans (hb.mono HW.out.size))
  replace HA1 := Lib.hid (HA1.out.next hb)
  replace HA7 := Lib.hid (HA7.out.next hb)
  replace HA8 := Lib.hid (HA8.out.next hb)
  replace HA9 := Lib.hid (HA9.out.next hb)
  clear hb
  go_wp2_with fail
  refine ((s67 _)).mono ?_
  rintro e w19 ⟨rfl, hb⟩
  replace HE := Lib.hid (HE.out.next hb)
  replace HW := Lib.hid (HW.out.trans (hb.mono HW.out.size))
  replace HA1 := Lib.hid (HA1.out.next hb)
  replace HA7 := Lib.hid (HA7.out.next hb)
  replace HA8 := Lib.hid (HA8.out.next hb)
  replace HA9 := Lib.hid (HA9.out.next hb)
  clear hb
  go_wp2_with fail
  refine ((s66 _)).mono ?_
  rintro e w20 ⟨rfl, hb⟩
  replace HE := Lib.hid (HE.out.next hb)
  replace HW := Lib.hid (HW.out.trans (hb.mono HW.out.size))
  replace HA1 := Lib.hid (HA1.out.next hb)
  replace HA7 := Lib.hid (HA7.out.next hb)
  replace HA8 := Lib.hid (HA8.out.next hb)
  replace HA9 := Lib.hid (HA9.out.next hb)
  clear hb
  go_wp2_with fail
  refine ((s72 _)).mono ?_
  rintro e w21 ⟨rfl, hb⟩
  replace HE := Lib.hid (HE.out.next hb)
  replace HW := Lib.hid (HW.out.trans (hb.mono HW.out.size))
  replace HA1 := Lib.hid (HA1.out.next hb)
  replace HA7 := Lib.hid (HA7.out.next hb)
  replace HA8 := Lib.hid (HA8.out.next hb)
  replace HA9 := Lib.hid (HA9.out.next hb)
  clear hb
  go_wp2_with fail
  refine ((s75 _)).mono ?_
  rintro e w22 ⟨rfl, hb⟩
  replace HE := Lib.hid (HE.out.next hb)
  replace HW := Lib.hid (HW.out.trans (hb.mono HW.out.size))
  replace HA1 := Lib.hid (HA1.out.next hb)
  replace HA7 := Lib.hid (HA7.out.next hb)
  replace HA8 := Lib.hid (HA8.out.next hb)
  replace HA9 := Lib.hid (HA9.out.next hb)
  clear hb
  go_wp2_with fail
  refine ((s76 _ HE.out)).mono ?_
  rintro e w23 ⟨rfl, hb⟩
  replace HE := Lib.hid (HE.out.next hb)
  replace HW := Lib.hid (HW.out.trans (hb.mono HW.out.size))
  replace HA1 := Lib.hid (HA1.out.next hb)
  replace HA7 := Lib.hid (HA7.out.next hb)
  replace HA8 := Lib.hid (HA8.out.next hb)
  replace HA9 := Lib.hid (HA9.out.next hb)
  clear hb
  go_wp2_with fail
  refine ((s79 _ HE.out)).mono ?_
  rintro e w24 ⟨rfl, hb⟩
  replace HE := Lib.hid (HE.out.next hb)
  replace HW := Lib.hid (HW.out.trans (hb.mono HW.out.size))
  replace HA1 := Lib.hid (HA1.out.next hb)
  replace HA7 := Lib.hid (HA7.out.next hb)
  replace HA8 := Lib.hid (HA8.out.next hb)
  replace HA9 := Lib.hid (HA9.out.next hb)
  clear hb
  go_wp2_with (first | (refine wpList_var rfl rfl 26 22 rfl rfl rfl (.tmp 80) rfl [.bool false, .string ByteArray.empty, .string ByteArray.empty] [.bool true, .string ⟨#[1, 44]⟩, .string ⟨#[7]⟩] zero_api_Rat rfl rfl rfl size_api_Rat (List.forall_mem_cons.2 ⟨rfl, (List.forall_mem_cons.2 ⟨rfl, (List.forall_mem_cons.2 ⟨rfl, fun _ h => nomatch h⟩)⟩)⟩) ?_; intro w25 HA22 HBw; replace HE := Lib.hid (HE.out.next HBw.out); replace HW := Lib.hid (HW.out.trans (HBw.out.mono HW.out.size)); replace HA1 := Lib.hid (HA1.out.next HBw.out); replace HA7 := Lib.hid (HA7.out.next HBw.out); replace HA8 := Lib.hid (HA8.out.next HBw.out); replace HA9 := Lib.hid (HA9.out.next HBw.out); clear HBw))
  obtain ⟨g22, hg22⟩ : ∃ g, g = w24.heap.size := ⟨_, rfl⟩
  rw [← hg22] at HA22 ⊢
  clear hg22
  refine late_begin (S := fun _ W => Blk W g1 26 [.bool true, .string ⟨#[3]⟩, .string ⟨#[2]⟩] ∧ Blk W g7 26 [.bool false, .string ⟨#[1]⟩, .string ⟨#[2]⟩] ∧ Blk W (g7 + 1) 26 [.bool false, .string ⟨#[1]⟩, .string ⟨#[3]⟩] ∧ Blk W g9 26 [.bool false, .string ⟨#[3]⟩, .string ⟨#[2]⟩] ∧ Blk W g22 26 [.bool true, .string ⟨#[1, 44]⟩, .string ⟨#[7]⟩]) (by kernel_rfl) ?_
  have hE0 := HE.out.next (Below.refl _ _).drew
  have hW0 := HW.out.drew
  have hA10 := HA1.out.drew
  have hA70 := HA7.out.drew
  have hA80 := HA8.out.drew
  have hA90 := HA9.out.drew
  have hA220 := HA22.out.drew
  generalize w25.drew = u0 at hE0 hW0 hA10 hA70 hA80 hA90 hA220 ⊢
  clear HE HW HA1 HA7 HA8 HA9 HA22
  refine late_take [] (i := 0) (some 120) rfl rfl (by first | rfl | kernel_rfl) (by kernel_rfl) (by kernel_rfl) (by kernel_rfl) (by kernel_rfl) (by kernel_rfl) (fun Ls W h => h) (.agg #[.bool true, .string ⟨#[3]⟩, .string ⟨#[2]⟩]) (fun _ _ _ h => h) (fun Ls W hl0 hW => exec_load 26 (.tmp 1) rfl _ (.agg #[.bool true, .string ⟨#[3]⟩, .string ⟨#[2]⟩]) rfl (run_load_part W 26 _ 0 3 _ [.bool true, .string ⟨#[3]⟩, .string ⟨#[2]⟩] _ hW.1 (by simp) Tryz.underlying26 rfl size_api_Rat)) ⟨hA10, hA70, hA80, hA90, hA220⟩ ⟨hA10, hA70, hA80, hA90, hA220⟩ ?_
  go_frame
  refine late_take [] (i := 1) (some 121) rfl rfl (by first | rfl | kernel_rfl) (by kernel_rfl) (by kernel_rfl) (by kernel_rfl) (by kernel_rfl) (by kernel_rfl) (fun Ls W h => h) (.agg #[.bool true, .string ⟨#[3]⟩, .string ⟨#[2]⟩]) (fun _ _ _ h => h) (fun Ls W hl0 hW => exec_build3 26 _ _ _ rfl (.bool true) (.string ⟨#[3]⟩) (.string ⟨#[2]⟩) _ rfl rfl rfl (qr_build _ _ _ _)) ⟨hA10, hA70, hA80, hA90, hA220⟩ ⟨hA10, hA70, hA80, hA90, hA220⟩ ?_
  go_frame
  refine late_take [] (i := 2) (some 122) rfl rfl (by first | rfl | kernel_rfl) (by kernel_rfl) (by kernel_rfl) (by kernel_rfl) (by kernel_rfl) (by kernel_rfl) (fun Ls W h => h) (.bool true) (fun _ _ _ h => h) (fun Ls W hl0 hW => exec_bin .eql 26 _ _ _ rfl (.agg #[.bool true, .string ⟨#[3]⟩, .string ⟨#[2]⟩]) (.agg #[.bool true, .string ⟨#[3]⟩, .string ⟨#[2]⟩]) _ rfl rfl (rat_guard _ _ _ _ _) (run_eqRs _ _ _ _)) ⟨hA10, hA70, hA80, hA90, hA220⟩ ⟨hA10, hA70, hA80, hA90, hA220⟩ ?_
  go_frame
  refine late_take [] (i := 3) (some 123) rfl rfl (by first | rfl | kernel_rfl) (by kernel_rfl) (by kernel_rfl) (by kernel_rfl) (by kernel_rfl) (by kernel_rfl) (fun Ls W h => h) (.bool true) (fun _ _ _ h => h) (fun Ls W hl0 hW => exec_move (.tmp 122) rfl _ rfl) ⟨hA10, hA70, hA80, hA90, hA220⟩ ⟨hA10, hA70, hA80, hA90, hA220⟩ ?_
  go_frame
  refine late_take [] (i := 4) (some 124) rfl rfl (by first | rfl | kernel_rfl) (by kernel_rfl) (by kernel_rfl) (by kernel_rfl) (by kernel_rfl) (by kernel_rfl) (fun Ls W h => h) (.agg #[.bool false, .string ⟨#[1]⟩, .string ⟨#[2]⟩]) (fun _ _ _ h => h) (fun Ls W hl0 hW => exec_load 26 (.tmp 7) rfl _ (.agg #[.bool false, .string ⟨#[1]⟩, .string ⟨#[2]⟩]) rfl (run_load_part W 26 _ 0 3 _ [.bool false, .string ⟨#[1]⟩, .string ⟨#[2]⟩] _ hW.2.1 (by simp) Tryz.underlying26 rfl size_api_Rat)) ⟨hA10, hA70, hA80, hA90, hA220⟩ ⟨hA10, hA70, hA80, hA90, hA220⟩ ?_
  go_frame
  refine late_take [] (i := 5) (some 125) rfl rfl (by first | rfl | kernel_rfl) (by kernel_rfl) (by kernel_rfl) (by kernel_rfl) (by kernel_rfl) (by kernel_rfl) (fun Ls W h => h) (.agg #[.bool false, .string ⟨#[1]⟩, .string ⟨#[3]⟩]) (fun _ _ _ h => h) (fun Ls W hl0 hW => exec_load 26 (.tmp 8) rfl _ (.agg #[.bool false, .string ⟨#[1]⟩, .string ⟨#[3]⟩]) rfl (run_load_part W 26 _ 0 3 _ [.bool false, .string ⟨#[1]⟩, .string ⟨#[3]⟩] _ hW.2.2.1 (by simp) Tryz.underlying26 rfl size_api_Rat)) ⟨hA10, hA70, hA80, hA90, hA220⟩ ⟨hA10, hA70, hA80, hA90, hA220⟩ ?_
  go_frame
  refine late_one (i := 6) (by kernel_rfl) (op_callG (some 126) rfl rfl (by first | rfl | kernel_rfl) rfl Tryz.func17 (by kernel_rfl) (by kernel_rfl) #[.agg #[.bool false, .string ⟨#[1]⟩, .string ⟨#[2]⟩], .agg #[.bool false, .string ⟨#[1]⟩, .string ⟨#[3]⟩]] rfl (s126 _) ?_)
  rintro e u1 ⟨rfl, hb⟩
  have hE1 := hE0.next hb
  have hW1 := hW0.trans (hb.mono hW0.size)
  have hA11 := hA10.next hb
  have hA71 := hA70.next hb
  have hA81 := hA80.next hb
  have hA91 := hA90.next hb
  have hA221 := hA220.next hb
  refine ⟨_, rfl, ⟨hA11, hA71, hA81, hA91, hA221⟩, ?_⟩
  go_frame
  clear hE0 hW0 hA10 hA70 hA80 hA90 hA220 hb
  refine late_one (i := 7) (by kernel_rfl) (op_callG (some 127) rfl rfl (by first | rfl | kernel_rfl) rfl Tryz.func13 (by kernel_rfl) (by kernel_rfl) #[.int .i64 5, .int .i64 6] rfl (s127 _) ?_)
  rintro e u2 ⟨rfl, hb⟩
  have hE2 := hE1.next hb
  have hW2 := hW1.trans (hb.mono hW1.size)
  have hA12 := hA11.next hb
  have hA72 := hA71.next hb
  have hA82 := hA81.next hb
  have hA92 := hA91.next hb
  have hA222 := hA221.next hb
  refine ⟨_, rfl, ⟨hA12, hA72, hA82, hA92, hA222⟩, ?_⟩
  go_frame
  clear hE1 hW1 hA11 hA71 hA81 hA91 hA221 hb
  refine late_take [] (i := 8) (some 128) rfl rfl (by first | rfl | kernel_rfl) (by kernel_rfl) (by kernel_rfl) (by kernel_rfl) (by kernel_rfl) (by kernel_rfl) (fun Ls W h => h) (.bool true) (fun _ _ _ h => h) (fun Ls W hl0 hW => exec_bin .eql 26 _ _ _ rfl (.agg #[.bool false, .string ⟨#[5]⟩, .string ⟨#[6]⟩]) (.agg #[.bool false, .string ⟨#[5]⟩, .string ⟨#[6]⟩]) _ rfl rfl (rat_guard _ _ _ _ _) (run_eqRs _ _ _ _)) ⟨hA12, hA72, hA82, hA92, hA222⟩ ⟨hA12, hA72, hA82, hA92, hA222⟩ ?_
  go_frame
  refine late_take [] (i := 9) (some 129) rfl rfl (by first | rfl | kernel_rfl) (by kernel_rfl) (by kernel_rfl) (by kernel_rfl) (by kernel_rfl) (by kernel_rfl) (fun Ls W h => h) (.bool true) (fun _ _ _ h => h) (fun Ls W hl0 hW => exec_pickT _ _ _ rfl (.bool true) rfl rfl) ⟨hA12, hA72, hA82, hA92, hA222⟩ ⟨hA12, hA72, hA82, hA92, hA222⟩ ?_
  go_frame
  refine late_take [] (i := 10) (some 130) rfl rfl (by first | rfl | kernel_rfl) (by kernel_rfl) (by kernel_rfl) (by kernel_rfl) (by kernel_rfl) (by kernel_rfl) (fun Ls W h => h) (.bool true) (fun _ _ _ h => h) (fun Ls W hl0 hW => exec_move (.tmp 129) rfl _ rfl) ⟨hA12, hA72, hA82, hA92, hA222⟩ ⟨hA12, hA72, hA82, hA92, hA222⟩ ?_
  go_frame
  refine late_take [] (i := 11) (some 131) rfl rfl (by first | rfl | kernel_rfl) (by kernel_rfl) (by kernel_rfl) (by kernel_rfl) (by kernel_rfl) (by kernel_rfl) (fun Ls W h => h) (.agg #[.bool false, .string ⟨#[1]⟩, .string ⟨#[2]⟩]) (fun _ _ _ h => h) (fun Ls W hl0 hW => exec_load 26 (.tmp 7) rfl _ (.agg #[.bool false, .string ⟨#[1]⟩, .string ⟨#[2]⟩]) rfl (run_load_part W 26 _ 0 3 _ [.bool false, .string ⟨#[1]⟩, .string ⟨#[2]⟩] _ hW.2.1 (by simp) Tryz.underlying26 rfl size_api_Rat)) ⟨hA12, hA72, hA82, hA92, hA222⟩ ⟨hA12, hA72, hA82, hA92, hA222⟩ ?_
  go_frame
  refine late_take [] (i := 12) (some 132) rfl rfl (by first | rfl | kernel_rfl) (by kernel_rfl) (by kernel_rfl) (by kernel_rfl) (by kernel_rfl) (by kernel_rfl) (fun Ls W h => h) (.agg #[.bool false, .string ⟨#[1]⟩, .string ⟨#[3]⟩]) (fun _ _ _ h => h) (fun Ls W hl0 hW => exec_load 26 (.tmp 8) rfl _ (.agg #[.bool false, .string ⟨#[1]⟩, .string ⟨#[3]⟩]) rfl (run_load_part W 26 _ 0 3 _ [.bool false, .string ⟨#[1]⟩, .string ⟨#[3]⟩] _ hW.2.2.1 (by simp) Tryz.underlying26 rfl size_api_Rat)) ⟨hA12, hA72, hA82, hA92, hA222⟩ ⟨hA12, hA72, hA82, hA92, hA222⟩ ?_
  go_frame
  refine late_one (i := 13) (by kernel_rfl) (op_callG (some 133) rfl rfl (by first | rfl | kernel_rfl) rfl Tryz.func18 (by kernel_rfl) (by kernel_rfl) #[.agg #[.bool false, .string ⟨#[1]⟩, .string ⟨#[2]⟩], .agg #[.bool false, .string ⟨#[1]⟩, .string ⟨#[3]⟩]] rfl (s133 _) ?_)
  rintro e u3 ⟨rfl, hb⟩
  have hE3 := hE2.next hb
  have hW3 := hW2.trans (hb.mono hW2.size)
  have hA13 := hA12.next hb
  have hA73 := hA72.next hb
  have hA83 := hA82.next hb
  have hA93 := hA92.next hb
  have hA223 := hA222.next hb
  refine ⟨_, rfl, ⟨hA13, hA73, hA83, hA93, hA223⟩, ?_⟩
  go_frame
  clear hE2 hW2 hA12 hA72 hA82 hA92 hA222 hb
  refine late_one (i := 14) (by kernel_rfl) (op_callG (some 134) rfl rfl (by first | rfl | kernel_rfl) rfl Tryz.func13 (by kernel_rfl) (by kernel_rfl) #[.int .i64 1, .int .i64 6] rfl (s134 _) ?_)
  rintro e u4 ⟨rfl, hb⟩
  have hE4 := hE3.next hb
  have hW4 := hW3.trans (hb.mono hW3.size)
  have hA14 := hA13.next hb
  have hA74 := hA73.next hb
  have hA84 := hA83.next hb
  have hA94 := hA93.next hb
  have hA224 := hA223.next hb
  refine ⟨_, rfl, ⟨hA14, hA74, hA84, hA94, hA224⟩, ?_⟩
  go_frame
  clear hE3 hW3 hA13 hA73 hA83 hA93 hA223 hb
  refine late_take [] (i := 15) (some 135) rfl rfl (by first | rfl | kernel_rfl) (by kernel_rfl) (by kernel_rfl) (by kernel_rfl) (by kernel_rfl) (by kernel_rfl) (fun Ls W h => h) (.bool true) (fun _ _ _ h => h) (fun Ls W hl0 hW => exec_bin .eql 26 _ _ _ rfl (.agg #[.bool false, .string ⟨#[1]⟩, .string ⟨#[6]⟩]) (.agg #[.bool false, .string ⟨#[1]⟩, .string ⟨#[6]⟩]) _ rfl rfl (rat_guard _ _ _ _ _) (run_eqRs _ _ _ _)) ⟨hA14, hA74, hA84, hA94, hA224⟩ ⟨hA14, hA74, hA84, hA94, hA224⟩ ?_
  go_frame
  refine late_take [] (i := 16) (some 136) rfl rfl (by first | rfl | kernel_rfl) (by kernel_rfl) (by kernel_rfl) (by kernel_rfl) (by kernel_rfl) (by kernel_rfl) (fun Ls W h => h) (.bool true) (fun _ _ _ h => h) (fun Ls W hl0 hW => exec_pickT _ _ _ rfl (.bool true) rfl rfl) ⟨hA14, hA74, hA84, hA94, hA224⟩ ⟨hA14, hA74, hA84, hA94, hA224⟩ ?_
  go_frame
  refine late_take [] (i := 17) (some 137) rfl rfl (by first | rfl | kernel_rfl) (by kernel_rfl) (by kernel_rfl) (by kernel_rfl) (by kernel_rfl) (by kernel_rfl) (fun Ls W h => h) (.bool true) (fun _ _ _ h => h) (fun Ls W hl0 hW => exec_move (.tmp 136) rfl _ rfl) ⟨hA14, hA74, hA84, hA94, hA224⟩ ⟨hA14, hA74, hA84, hA94, hA224⟩ ?_
  go_frame
  refine late_take [] (i := 18) (some 138) rfl rfl (by first | rfl | kernel_rfl) (by kernel_rfl) (by kernel_rfl) (by kernel_rfl) (by kernel_rfl) (by kernel_rfl) (fun Ls W h => h) (.agg #[.bool false, .string ⟨#[1]⟩, .string ⟨#[2]⟩]) (fun _ _ _ h => h) (fun Ls W hl0 hW => exec_load 26 (.tmp 7) rfl _ (.agg #[.bool false, .string ⟨#[1]⟩, .string ⟨#[2]⟩]) rfl (run_load_part W 26 _ 0 3 _ [.bool false, .string ⟨#[1]⟩, .string ⟨#[2]⟩] _ hW.2.1 (by simp) Tryz.underlying26 rfl size_api_Rat)) ⟨hA14, hA74, hA84, hA94, hA224⟩ ⟨hA14, hA74, hA84, hA94, hA224⟩ ?_
  go_frame
  refine late_take [] (i := 19) (some 139) rfl rfl (by first | rfl | kernel_rfl) (by kernel_rfl) (by kernel_rfl) (by kernel_rfl) (by kernel_rfl) (by kernel_rfl) (fun Ls W h => h) (.agg #[.bool false, .string ⟨#[1]⟩, .string ⟨#[3]⟩]) (fun _ _ _ h => h) (fun Ls W hl0 hW => exec_load 26 (.tmp 8) rfl _ (.agg #[.bool false, .string ⟨#[1]⟩, .string ⟨#[3]⟩]) rfl (run_load_part W 26 _ 0 3 _ [.bool false, .string ⟨#[1]⟩, .string ⟨#[3]⟩] _ hW.2.2.1 (by simp) Tryz.underlying26 rfl size_api_Rat)) ⟨hA14, hA74, hA84, hA94, hA224⟩ ⟨hA14, hA74, hA84, hA94, hA224⟩ ?_
  go_frame
  refine late_one (i := 20) (by kernel_rfl) (op_callG (some 140) rfl rfl (by first | rfl | kernel_rfl) rfl Tryz.func19 (by kernel_rfl) (by kernel_rfl) #[.agg #[.bool false, .string ⟨#[1]⟩, .string ⟨#[2]⟩], .agg #[.bool false, .string ⟨#[1]⟩, .string ⟨#[3]⟩]] rfl (s140 _) ?_)
  rintro e u5 ⟨rfl, hb⟩
  have hE5 := hE4.next hb
  have hW5 := hW4.trans (hb.mono hW4.size)
  have hA15 := hA14.next hb
  have hA75 := hA74.next hb
  have hA85 := hA84.next hb
  have hA95 := hA94.next hb
  have hA225 := hA224.next hb
  refine ⟨_, rfl, ⟨hA15, hA75, hA85, hA95, hA225⟩, ?_⟩
  go_frame
  clear hE4 hW4 hA14 hA74 hA84 hA94 hA224 hb
  refine late_one (i := 21) (by kernel_rfl) (op_callG (some 141) rfl rfl (by first | rfl | kernel_rfl) rfl Tryz.func13 (by kernel_rfl) (by kernel_rfl) #[.int .i64 1, .int .i64 6] rfl (s134 _) ?_)
  rintro e u6 ⟨rfl, hb⟩
  have hE6 := hE5.next hb
  have hW6 := hW5.trans (hb.mono hW5.size)
  have hA16 := hA15.next hb
  have hA76 := hA75.next hb
  have hA86 := hA85.next hb
  have hA96 := hA95.next hb
  have hA226 := hA225.next hb
  refine ⟨_, rfl, ⟨hA16, hA76, hA86, hA96, hA226⟩, ?_⟩
  go_frame
  clear hE5 hW5 hA15 hA75 hA85 hA95 hA225 hb
  refine late_take [] (i := 22) (some 142) rfl rfl (by first | rfl | kernel_rfl) (by kernel_rfl) (by kernel_rfl) (by kernel_rfl) (by kernel_rfl) (by kernel_rfl) (fun Ls W h => h) (.bool true) (fun _ _ _ h => h) (fun Ls W hl0 hW => exec_bin .eql 26 _ _ _ rfl (.agg #[.bool false, .string ⟨#[1]⟩, .string ⟨#[6]⟩]) (.agg #[.bool false, .string ⟨#[1]⟩, .string ⟨#[6]⟩]) _ rfl rfl (rat_guard _ _ _ _ _) (run_eqRs _ _ _ _)) ⟨hA16, hA76, hA86, hA96, hA226⟩ ⟨hA16, hA76, hA86, hA96, hA226⟩ ?_
  go_frame
  refine late_take [] (i := 23) (some 143) rfl rfl (by first | rfl | kernel_rfl) (by kernel_rfl) (by kernel_rfl) (by kernel_rfl) (by kernel_rfl) (by kernel_rfl) (fun Ls W h => h) (.bool true) (fun _ _ _ h => h) (fun Ls W hl0 hW => exec_pickT _ _ _ rfl (.bool true) rfl rfl) ⟨hA16, hA76, hA86, hA96, hA226⟩ ⟨hA16, hA76, hA86, hA96, hA226⟩ ?_
  go_frame
  refine late_take [] (i := 24) (some 144) rfl rfl (by first | rfl | kernel_rfl) (by kernel_rfl) (by kernel_rfl) (by kernel_rfl) (by kernel_rfl) (by kernel_rfl) (fun Ls W h => h) (.bool true) (fun _ _ _ h => h) (fun Ls W hl0 hW => exec_move (.tmp 143) rfl _ rfl) ⟨hA16, hA76, hA86, hA96, hA226⟩ ⟨hA16, hA76, hA86, hA96, hA226⟩ ?_
  go_frame
  refine late_take [] (i := 25) (some 145) rfl rfl (by first | rfl | kernel_rfl) (by kernel_rfl) (by kernel_rfl) (by kernel_rfl) (by kernel_rfl) (by kernel_rfl) (fun Ls W h => h) (.agg #[.bool false, .string ⟨#[3]⟩, .string ⟨#[2]⟩]) (fun _ _ _ h => h) (fun Ls W hl0 hW => exec_load 26 (.tmp 9) rfl _ (.agg #[.bool false, .string ⟨#[3]⟩, .string ⟨#[2]⟩]) rfl (run_load_part W 26 _ 0 3 _ [.bool false, .string ⟨#[3]⟩, .string ⟨#[2]⟩] _ hW.2.2.2.1 (by simp) Tryz.underlying26 rfl size_api_Rat)) ⟨hA16, hA76, hA86, hA96, hA226⟩ ⟨hA16, hA76, hA86, hA96, hA226⟩ ?_
  go_frame
  refine late_one (i := 26) (by kernel_rfl) (op_callG (some 146) rfl rfl (by first | rfl | kernel_rfl) rfl Tryz.func13 (by kernel_rfl) (by kernel_rfl) #[.int .i64 3, .int .i64 2] rfl (s146 _) ?_)
  rintro e u7 ⟨rfl, hb⟩
  have hE7 := hE6.next hb
  have hW7 := hW6.trans (hb.mono hW6.size)
  have hA17 := hA16.next hb
  have hA77 := hA76.next hb
  have hA87 := hA86.next hb
  have hA97 := hA96.next hb
  have hA227 := hA226.next hb
  refine ⟨_, rfl, ⟨hA17, hA77, hA87, hA97, hA227⟩, ?_⟩
  go_frame
  clear hE6 hW6 hA16 hA76 hA86 hA96 hA226 hb
  refine late_take [] (i := 27) (some 147) rfl rfl (by first | rfl | kernel_rfl) (by kernel_rfl) (by kernel_rfl) (by kernel_rfl) (by kernel_rfl) (by kernel_rfl) (fun Ls W h => h) (.bool true) (fun _ _ _ h => h) (fun Ls W hl0 hW => exec_bin .eql 26 _ _ _ rfl (.agg #[.bool false, .string ⟨#[3]⟩, .string ⟨#[2]⟩]) (.agg #[.bool false, .string ⟨#[3]⟩, .string ⟨#[2]⟩]) _ rfl rfl (rat_guard _ _ _ _ _) (run_eqRs _ _ _ _)) ⟨hA17, hA77, hA87, hA97, hA227⟩ ⟨hA17, hA77, hA87, hA97, hA227⟩ ?_
  go_frame
  refine late_take [] (i := 28) (some 148) rfl rfl (by first | rfl | kernel_rfl) (by kernel_rfl) (by kernel_rfl) (by kernel_rfl) (by kernel_rfl) (by kernel_rfl) (fun Ls W h => h) (.bool true) (fun _ _ _ h => h) (fun Ls W hl0 hW => exec_pickT _ _ _ rfl (.bool true) rfl rfl) ⟨hA17, hA77, hA87, hA97, hA227⟩ ⟨hA17, hA77, hA87, hA97, hA227⟩ ?_
  go_frame
  refine late_take [] (i := 29) (some 149) rfl rfl (by first | rfl | kernel_rfl) (by kernel_rfl) (by kernel_rfl) (by kernel_rfl) (by kernel_rfl) (by kernel_rfl) (fun Ls W h => h) (.bool true) (fun _ _ _ h => h) (fun Ls W hl0 hW => exec_move (.tmp 148) rfl _ rfl) ⟨hA17, hA77, hA87, hA97, hA227⟩ ⟨hA17, hA77, hA87, hA97, hA227⟩ ?_
  go_frame
  refine late_take [] (i := 30) (some 150) rfl rfl (by first | rfl | kernel_rfl) (by kernel_rfl) (by kernel_rfl) (by kernel_rfl) (by kernel_rfl) (by kernel_rfl) (fun Ls W h => h) (.agg #[.bool false, .string ⟨#[1]⟩, .string ⟨#[2]⟩]) (fun _ _ _ h => h) (fun Ls W hl0 hW => exec_load 26 (.tmp 7) rfl _ (.agg #[.bool false, .string ⟨#[1]⟩, .string ⟨#[2]⟩]) rfl (run_load_part W 26 _ 0 3 _ [.bool false, .string ⟨#[1]⟩, .string ⟨#[2]⟩] _ hW.2.1 (by simp) Tryz.underlying26 rfl size_api_Rat)) ⟨hA17, hA77, hA87, hA97, hA227⟩ ⟨hA17, hA77, hA87, hA97, hA227⟩ ?_
  go_frame
  refine late_take [] (i := 31) (some 151) rfl rfl (by first | rfl | kernel_rfl) (by kernel_rfl) (by kernel_rfl) (by kernel_rfl) (by kernel_rfl) (by kernel_rfl) (fun Ls W h => h) (.agg #[.bool false, .string ⟨#[1]⟩, .string ⟨#[3]⟩]) (fun _ _ _ h => h) (fun Ls W hl0 hW => exec_load 26 (.tmp 8) rfl _ (.agg #[.bool false, .string ⟨#[1]⟩, .string ⟨#[3]⟩]) rfl (run_load_part W 26 _ 0 3 _ [.bool false, .string ⟨#[1]⟩, .string ⟨#[3]⟩] _ hW.2.2.1 (by simp) Tryz.underlying26 rfl size_api_Rat)) ⟨hA17, hA77, hA87, hA97, hA227⟩ ⟨hA17, hA77, hA87, hA97, hA227⟩ ?_
  go_frame
  refine late_take [] (i := 35) (some 155) rfl rfl (by first | rfl | kernel_rfl) (by kernel_rfl) (by kernel_rfl) (by kernel_rfl) (by kernel_rfl) (by kernel_rfl) (fun Ls W h => h) (.agg #[.bool false, .string ⟨#[]⟩, .string ⟨#[]⟩]) (fun _ _ _ h => h) (fun Ls W hl0 hW => exec_build0 26 rfl _ (qr_nil _)) ⟨hA17, hA77, hA87, hA97, hA227⟩ ⟨hA17, hA77, hA87, hA97, hA227⟩ ?_
  go_frame
  refine late_one (i := 32) (by kernel_rfl) (op_callG (some 152) rfl rfl (by first | rfl | kernel_rfl) rfl Tryz.func13 (by kernel_rfl) (by kernel_rfl) #[.int .i64 (-5), .int .i64 6] rfl (s152 _) ?_)
  rintro e u8 ⟨rfl, hb⟩
  have hE8 := hE7.next hb
  have hW8 := hW7.trans (hb.mono hW7.size)
  have hA18 := hA17.next hb
  have hA78 := hA77.next hb
  have hA88 := hA87.next hb
  have hA98 := hA97.next hb
  have hA228 := hA227.next hb
  refine ⟨_, rfl, ⟨hA18, hA78, hA88, hA98, hA228⟩, ?_⟩
  go_frame
  clear hE7 hW7 hA17 hA77 hA87 hA97 hA227 hb
  refine late_one (i := 33) (by kernel_rfl) (op_runG (some 153) rfl rfl (by first | rfl | kernel_rfl) (.slice (some ⟨u8.heap.size, 0, none⟩) 3 3) (u8.alloc (.cells (qL [(⟨false, ⟨#[1]⟩, ⟨#[2]⟩⟩ : Rv), (⟨false, ⟨#[1]⟩, ⟨#[3]⟩⟩ : Rv), (⟨true, ⟨#[5]⟩, ⟨#[6]⟩⟩ : Rv)]).toArray 26)) (exec_buildS 22 3 _ rfl #[(0, .agg #[.bool false, .string ⟨#[1]⟩, .string ⟨#[2]⟩]), (1, .agg #[.bool false, .string ⟨#[1]⟩, .string ⟨#[3]⟩]), (2, .agg #[.bool true, .string ⟨#[5]⟩, .string ⟨#[6]⟩])] rfl _ (run_b3 _)) ?_)
  have hb : Below u8.heap.size u8 (u8.alloc (.cells (qL [(⟨false, ⟨#[1]⟩, ⟨#[2]⟩⟩ : Rv), (⟨false, ⟨#[1]⟩, ⟨#[3]⟩⟩ : Rv), (⟨true, ⟨#[5]⟩, ⟨#[6]⟩⟩ : Rv)]).toArray 26)) := (Below.refl _ _).alloc (Nat.le_refl _) _
  have hE9 := hE8.next hb
  have hW9 := hW8.trans (hb.mono hW8.size)
  have hA19 := hA18.next hb
  have hA79 := hA78.next hb
  have hA89 := hA88.next hb
  have hA99 := hA98.next hb
  have hA229 := hA228.next hb
  have hL9 : RdQ (u8.alloc (.cells (qL [(⟨false, ⟨#[1]⟩, ⟨#[2]⟩⟩ : Rv), (⟨false, ⟨#[1]⟩, ⟨#[3]⟩⟩ : Rv), (⟨true, ⟨#[5]⟩, ⟨#[6]⟩⟩ : Rv)]).toArray 26)) (some ⟨u8.heap.size, 0, none⟩) [(⟨false, ⟨#[1]⟩, ⟨#[2]⟩⟩ : Rv), (⟨false, ⟨#[1]⟩, ⟨#[3]⟩⟩ : Rv), (⟨true, ⟨#[5]⟩, ⟨#[6]⟩⟩ : Rv)] := Rd.of_new u8 _ _
  refine ⟨⟨hA19, hA79, hA89, hA99, hA229⟩, ?_⟩
  go_frame
  clear hE8 hW8 hA18 hA78 hA88 hA98 hA228 hb
  refine late_one (i := 34) (by kernel_rfl) (op_callG (some 154) rfl rfl (by first | rfl | kernel_rfl) rfl Tryz.func10 (by kernel_rfl) (by kernel_rfl) #[.slice (some ⟨u8.heap.size, 0, none⟩) 3 3] rfl (s154 _ _ hL9) ?_)
  rintro e u10 ⟨rfl, hb⟩
  have hE10 := hE9.next hb
  have hW10 := hW9.trans (hb.mono hW9.size)
  have hA110 := hA19.next hb
  have hA710 := hA79.next hb
  have hA810 := hA89.next hb
  have hA910 := hA99.next hb
  have hA2210 := hA229.next hb
  have hL10 := hL9.below hb
  refine ⟨_, rfl, ⟨hA110, hA710, hA810, hA910, hA2210⟩, ?_⟩
  go_frame
  clear hE9 hW9 hA19 hA79 hA89 hA99 hA229 hL9 hb
  refine late_take [] (i := 36) (some 156) rfl rfl (by first | rfl | kernel_rfl) (by kernel_rfl) (by kernel_rfl) (by kernel_rfl) (by kernel_rfl) (by kernel_rfl) (fun Ls W h => h) (.bool true) (fun _ _ _ h => h) (fun Ls W hl0 hW => exec_bin .eql 26 _ _ _ rfl (.agg #[.bool false, .string ⟨#[]⟩, .string ⟨#[]⟩]) (.agg #[.bool false, .string ⟨#[]⟩, .string ⟨#[]⟩]) _ rfl rfl (rat_guard _ _ _ _ _) (run_eqRs _ _ _ _)) ⟨hA110, hA710, hA810, hA910, hA2210⟩ ⟨hA110, hA710, hA810, hA910, hA2210⟩ ?_
  go_frame
  refine late_take [] (i := 37) (some 157) rfl rfl (by first | rfl | kernel_rfl) (by kernel_rfl) (by kernel_rfl) (by kernel_rfl) (by kernel_rfl) (by kernel_rfl) (fun Ls W h => h) (.bool true) (fun _ _ _ h => h) (fun Ls W hl0 hW => exec_pickT _ _ _ rfl (.bool true) rfl rfl) ⟨hA110, hA710, hA810, hA910, hA2210⟩ ⟨hA110, hA710, hA810, hA910, hA2210⟩ ?_
  go_frame
  refine late_take [] (i := 38) (some 25) rfl rfl (by first | rfl | kernel_rfl) (by kernel_rfl) (by kernel_rfl) (by kernel_rfl) (by kernel_rfl) (by kernel_rfl) (fun Ls W h => h) (.bool true) (fun _ _ _ h => h) (fun Ls W hl0 hW => exec_assign (.tmp 157) rfl _ rfl) ⟨hA110, hA710, hA810, hA910, hA2210⟩ ⟨hA110, hA710, hA810, hA910, hA2210⟩ ?_
  refine late_done (by kernel_rfl) ?_ _
  go_frame
  have HE := Lib.hid hE10
  have HW := Lib.hid hW10
  have HA1 := Lib.hid hA110
  have HA7 := Lib.hid hA710
  have HA8 := Lib.hid hA810
  have HA9 := Lib.hid hA910
  have HA22 := Lib.hid hA2210
  have HL := Lib.hid hL10
  clear hE10 hW10 hA110 hA710 hA810 hA910 hA2210 hL10
  clear HL HA1 HA9
  go_wp2_with fail
  refine late_begin (S := fun _ W => Blk W g7 26 [.bool false, .string ⟨#[1]⟩, .string ⟨#[2]⟩] ∧ Blk W (g7 + 1) 26 [.bool false, .string ⟨#[1]⟩, .string ⟨#[3]⟩] ∧ Blk W g22 26 [.bool true, .string ⟨#[1, 44]⟩, .string ⟨#[7]⟩]) (by kernel_rfl) ?_
  have hE0 := HE.out.next (Below.refl _ _).drew
  have hW0 := HW.out.drew
  have hA70 := HA7.out.drew
  have hA80 := HA8.out.drew
  have hA220 := HA22.out.drew
  generalize u10.drew = u0 at hE0 hW0 hA70 hA80 hA220 ⊢
  clear HE HW HA7 HA8 HA22
  refine late_one (i := 0) (by kernel_rfl) (op_callG (some 158) rfl rfl (by first | rfl | kernel_rfl) rfl Tryz.func13 (by kernel_rfl) (by kernel_rfl) #[.int .i64 (-1), .int .i64 2] rfl (s158 _) ?_)
  rintro e u1 ⟨rfl, hb⟩
  have hE1 := hE0.next hb
  have hW1 := hW0.trans (hb.mono hW0.size)
  have hA71 := hA70.next hb
  have hA81 := hA80.next hb
  have hA221 := hA220.next hb
  refine ⟨_, rfl, ⟨hA71, hA81, hA221⟩, ?_⟩
  go_frame
  clear hE0 hW0 hA70 hA80 hA220 hb
  refine late_one (i := 1) (by kernel_rfl) (op_callG (some 159) rfl rfl (by first | rfl | kernel_rfl) rfl Tryz.func13 (by kernel_rfl) (by kernel_rfl) #[.int .i64 (-1), .int .i64 3] rfl (s159 _) ?_)
  rintro e u2 ⟨rfl, hb⟩
  have hE2 := hE1.next hb
  have hW2 := hW1.trans (hb.mono hW1.size)
  have hA72 := hA71.next hb
  have hA82 := hA81.next hb
  have hA222 := hA221.next hb
  refine ⟨_, rfl, ⟨hA72, hA82, hA222⟩, ?_⟩
  go_frame
  clear hE1 hW1 hA71 hA81 hA221 hb
  refine late_one (i := 2) (by kernel_rfl) (op_callG (some 160) rfl rfl (by first | rfl | kernel_rfl) rfl Tryz.func20 (by kernel_rfl) (by kernel_rfl) #[.agg #[.bool true, .string ⟨#[1]⟩, .string ⟨#[2]⟩], .agg #[.bool true, .string ⟨#[1]⟩, .string ⟨#[3]⟩]] rfl (s160 _) ?_)
  rintro e u3 ⟨rfl, hb⟩
  have hE3 := hE2.next hb
  have hW3 := hW2.trans (hb.mono hW2.size)
  have hA73 := hA72.next hb
  have hA83 := hA82.next hb
  have hA223 := hA222.next hb
  refine ⟨_, rfl, ⟨hA73, hA83, hA223⟩, ?_⟩
  go_frame
  clear hE2 hW2 hA72 hA82 hA222 hb
  refine late_take [] (i := 3) (some 161) rfl rfl (by first | rfl | kernel_rfl) (by kernel_rfl) (by kernel_rfl) (by kernel_rfl) (by kernel_rfl) (by kernel_rfl) (fun Ls W h => h) (.bool true) (fun _ _ _ h => h) (fun Ls W hl0 hW => exec_eqT _ _ _ _ rfl .i64 ((-1)) rfl rfl) ⟨hA73, hA83, hA223⟩ ⟨hA73, hA83, hA223⟩ ?_
  go_frame
  refine late_take [] (i := 4) (some 162) rfl rfl (by first | rfl | kernel_rfl) (by kernel_rfl) (by kernel_rfl) (by kernel_rfl) (by kernel_rfl) (by kernel_rfl) (fun Ls W h => h) (.bool true) (fun _ _ _ h => h) (fun Ls W hl0 hW => exec_move (.tmp 161) rfl _ rfl) ⟨hA73, hA83, hA223⟩ ⟨hA73, hA83, hA223⟩ ?_
  go_frame
  refine late_take [] (i := 5) (some 163) rfl rfl (by first | rfl | kernel_rfl) (by kernel_rfl) (by kernel_rfl) (by kernel_rfl) (by kernel_rfl) (by kernel_rfl) (fun Ls W h => h) (.int .i64 (-2)) (fun _ _ _ h => h) (fun Ls W hl0 hW => exec_move (.tmp 13) rfl _ rfl) ⟨hA73, hA83, hA223⟩ ⟨hA73, hA83, hA223⟩ ?_
  go_frame
  refine late_take [] (i := 6) (some 164) rfl rfl (by first | rfl | kernel_rfl) (by kernel_rfl) (by kernel_rfl) (by kernel_rfl) (by kernel_rfl) (by kernel_rfl) (fun Ls W h => h) (.bool true) (fun _ _ _ h => h) (fun Ls W hl0 hW => exec_eqT _ _ _ _ rfl .i64 ((-2)) rfl rfl) ⟨hA73, hA83, hA223⟩ ⟨hA73, hA83, hA223⟩ ?_
  go_frame
  refine late_take [] (i := 7) (some 165) rfl rfl (by first | rfl | kernel_rfl) (by kernel_rfl) (by kernel_rfl) (by kernel_rfl) (by kernel_rfl) (by kernel_rfl) (fun Ls W h => h) (.bool true) (fun _ _ _ h => h) (fun Ls W hl0 hW => exec_pickT _ _ _ rfl (.bool true) rfl rfl) ⟨hA73, hA83, hA223⟩ ⟨hA73, hA83, hA223⟩ ?_
  go_frame
  refine late_take [] (i := 8) (some 166) rfl rfl (by first | rfl | kernel_rfl) (by kernel_rfl) (by kernel_rfl) (by kernel_rfl) (by kernel_rfl) (by kernel_rfl) (fun Ls W h => h) (.bool true) (fun _ _ _ h => h) (fun Ls W hl0 hW => exec_move (.tmp 165) rfl _ rfl) ⟨hA73, hA83, hA223⟩ ⟨hA73, hA83, hA223⟩ ?_
  go_frame
  refine late_take [] (i := 9) (some 167) rfl rfl (by first | rfl | kernel_rfl) (by kernel_rfl) (by kernel_rfl) (by kernel_rfl) (by kernel_rfl) (by kernel_rfl) (fun Ls W h => h) (.int .i64 (-1)) (fun _ _ _ h => h) (fun Ls W hl0 hW => exec_move (.tmp 15) rfl _ rfl) ⟨hA73, hA83, hA223⟩ ⟨hA73, hA83, hA223⟩ ?_
  go_frame
  refine late_take [] (i := 10) (some 168) rfl rfl (by first | rfl | kernel_rfl) (by kernel_rfl) (by kernel_rfl) (by kernel_rfl) (by kernel_rfl) (by kernel_rfl) (fun Ls W h => h) (.bool true) (fun _ _ _ h => h) (fun Ls W hl0 hW => exec_eqT _ _ _ _ rfl .i64 ((-1)) rfl rfl) ⟨hA73, hA83, hA223⟩ ⟨hA73, hA83, hA223⟩ ?_
  go_frame
  refine late_take [] (i := 11) (some 169) rfl rfl (by first | rfl | kernel_rfl) (by kernel_rfl) (by kernel_rfl) (by kernel_rfl) (by kernel_rfl) (by kernel_rfl) (fun Ls W h => h) (.bool true) (fun _ _ _ h => h) (fun Ls W hl0 hW => exec_pickT _ _ _ rfl (.bool true) rfl rfl) ⟨hA73, hA83, hA223⟩ ⟨hA73, hA83, hA223⟩ ?_
  go_frame
  refine late_take [] (i := 12) (some 170) rfl rfl (by first | rfl | kernel_rfl) (by kernel_rfl) (by kernel_rfl) (by kernel_rfl) (by kernel_rfl) (by kernel_rfl) (fun Ls W h => h) (.bool true) (fun _ _ _ h => h) (fun Ls W hl0 hW => exec_move (.tmp 169) rfl _ rfl) ⟨hA73, hA83, hA223⟩ ⟨hA73, hA83, hA223⟩ ?_
  go_frame
  refine late_take [] (i := 13) (some 171) rfl rfl (by first | rfl | kernel_rfl) (by kernel_rfl) (by kernel_rfl) (by kernel_rfl) (by kernel_rfl) (by kernel_rfl) (fun Ls W h => h) (.int .i64 4) (fun _ _ _ h => h) (fun Ls W hl0 hW => exec_move (.tmp 17) rfl _ rfl) ⟨hA73, hA83, hA223⟩ ⟨hA73, hA83, hA223⟩ ?_
  go_frame
  refine late_take [] (i := 14) (some 172) rfl rfl (by first | rfl | kernel_rfl) (by kernel_rfl) (by kernel_rfl) (by kernel_rfl) (by kernel_rfl) (by kernel_rfl) (fun Ls W h => h) (.bool true) (fun _ _ _ h => h) (fun Ls W hl0 hW => exec_eqT _ _ _ _ rfl .i64 (4) rfl rfl) ⟨hA73, hA83, hA223⟩ ⟨hA73, hA83, hA223⟩ ?_
  go_frame
  refine late_take [] (i := 15) (some 173) rfl rfl (by first | rfl | kernel_rfl) (by kernel_rfl) (by kernel_rfl) (by kernel_rfl) (by kernel_rfl) (by kernel_rfl) (fun Ls W h => h) (.bool true) (fun _ _ _ h => h) (fun Ls W hl0 hW => exec_pickT _ _ _ rfl (.bool true) rfl rfl) ⟨hA73, hA83, hA223⟩ ⟨hA73, hA83, hA223⟩ ?_
  go_frame
  refine late_take [] (i := 16) (some 174) rfl rfl (by first | rfl | kernel_rfl) (by kernel_rfl) (by kernel_rfl) (by kernel_rfl) (by kernel_rfl) (by kernel_rfl) (fun Ls W h => h) (.bool true) (fun _ _ _ h => h) (fun Ls W hl0 hW => exec_move (.tmp 173) rfl _ rfl) ⟨hA73, hA83, hA223⟩ ⟨hA73, hA83, hA223⟩ ?_
  go_frame
  refine late_take [] (i := 17) (some 175) rfl rfl (by first | rfl | kernel_rfl) (by kernel_rfl) (by kernel_rfl) (by kernel_rfl) (by kernel_rfl) (by kernel_rfl) (fun Ls W h => h) (.int .i64 4) (fun _ _ _ h => h) (fun Ls W hl0 hW => exec_move (.tmp 19) rfl _ rfl) ⟨hA73, hA83, hA223⟩ ⟨hA73, hA83, hA223⟩ ?_
  go_frame
  refine late_take [] (i := 18) (some 176) rfl rfl (by first | rfl | kernel_rfl) (by kernel_rfl) (by kernel_rfl) (by kernel_rfl) (by kernel_rfl) (by kernel_rfl) (fun Ls W h => h) (.bool true) (fun _ _ _ h => h) (fun Ls W hl0 hW => exec_eqT _ _ _ _ rfl .i64 (4) rfl rfl) ⟨hA73, hA83, hA223⟩ ⟨hA73, hA83, hA223⟩ ?_
  go_frame
  refine late_take [] (i := 19) (some 177) rfl rfl (by first | rfl | kernel_rfl) (by kernel_rfl) (by kernel_rfl) (by kernel_rfl) (by kernel_rfl) (by kernel_rfl) (fun Ls W h => h) (.bool true) (fun _ _ _ h => h) (fun Ls W hl0 hW => exec_pickT _ _ _ rfl (.bool true) rfl rfl) ⟨hA73, hA83, hA223⟩ ⟨hA73, hA83, hA223⟩ ?_
  go_frame
  refine late_take [] (i := 20) (some 178) rfl rfl (by first | rfl | kernel_rfl) (by kernel_rfl) (by kernel_rfl) (by kernel_rfl) (by kernel_rfl) (by kernel_rfl) (fun Ls W h => h) (.bool true) (fun _ _ _ h => h) (fun Ls W hl0 hW => exec_move (.tmp 177) rfl _ rfl) ⟨hA73, hA83, hA223⟩ ⟨hA73, hA83, hA223⟩ ?_
  go_frame
  refine late_take [] (i := 21) (some 179) rfl rfl (by first | rfl | kernel_rfl) (by kernel_rfl) (by kernel_rfl) (by kernel_rfl) (by kernel_rfl) (by kernel_rfl) (fun Ls W h => h) (.agg #[.bool false, .string ⟨#[1]⟩, .string ⟨#[2]⟩]) (fun _ _ _ h => h) (fun Ls W hl0 hW => exec_load 26 (.tmp 7) rfl _ (.agg #[.bool false, .string ⟨#[1]⟩, .string ⟨#[2]⟩]) rfl (run_load_part W 26 _ 0 3 _ [.bool false, .string ⟨#[1]⟩, .string ⟨#[2]⟩] _ hW.1 (by simp) Tryz.underlying26 rfl size_api_Rat)) ⟨hA73, hA83, hA223⟩ ⟨hA73, hA83, hA223⟩ ?_
  go_frame
  refine late_take [] (i := 22) (some 180) rfl rfl (by first | rfl | kernel_rfl) (by kernel_rfl) (by kernel_rfl) (by kernel_rfl) (by kernel_rfl) (by kernel_rfl) (fun Ls W h => h) (.agg #[.bool false, .string ⟨#[1]⟩, .string ⟨#[3]⟩]) (fun _ _ _ h => h) (fun Ls W hl0 hW => exec_load 26 (.tmp 8) rfl _ (.agg #[.bool false, .string ⟨#[1]⟩, .string ⟨#[3]⟩]) rfl (run_load_part W 26 _ 0 3 _ [.bool false, .string ⟨#[1]⟩, .string ⟨#[3]⟩] _ hW.2.1 (by simp) Tryz.underlying26 rfl size_api_Rat)) ⟨hA73, hA83, hA223⟩ ⟨hA73, hA83, hA223⟩ ?_
  go_frame
  refine late_take [] (i := 24) (some 182) rfl rfl (by first | rfl | kernel_rfl) (by kernel_rfl) (by kernel_rfl) (by kernel_rfl) (by kernel_rfl) (by kernel_rfl) (fun Ls W h => h) (.agg #[.bool false, .string ⟨#[1]⟩, .string ⟨#[3]⟩]) (fun _ _ _ h => h) (fun Ls W hl0 hW => exec_load 26 (.tmp 8) rfl _ (.agg #[.bool false, .string ⟨#[1]⟩, .string ⟨#[3]⟩]) rfl (run_load_part W 26 _ 0 3 _ [.bool false, .string ⟨#[1]⟩, .string ⟨#[3]⟩] _ hW.2.1 (by simp) Tryz.underlying26 rfl size_api_Rat)) ⟨hA73, hA83, hA223⟩ ⟨hA73, hA83, hA223⟩ ?_
  go_frame
  refine late_one (i := 23) (by kernel_rfl) (op_callG (some 181) rfl rfl (by first | rfl | kernel_rfl) rfl Tryz.func21 (by kernel_rfl) (by kernel_rfl) #[.agg #[.bool false, .string ⟨#[1]⟩, .string ⟨#[2]⟩], .agg #[.bool false, .string ⟨#[1]⟩, .string ⟨#[3]⟩]] rfl (s181 _) ?_)
  rintro e u4 ⟨rfl, hb⟩
  have hE4 := hE3.next hb
  have hW4 := hW3.trans (hb.mono hW3.size)
  have hA74 := hA73.next hb
  have hA84 := hA83.next hb
  have hA224 := hA223.next hb
  refine ⟨_, rfl, ⟨hA74, hA84, hA224⟩, ?_⟩
  go_frame
  clear hE3 hW3 hA73 hA83 hA223 hb
  refine late_take [] (i := 25) (some 183) rfl rfl (by first | rfl | kernel_rfl) (by kernel_rfl) (by kernel_rfl) (by kernel_rfl) (by kernel_rfl) (by kernel_rfl) (fun Ls W h => h) (.bool true) (fun _ _ _ h => h) (fun Ls W hl0 hW => exec_bin .eql 26 _ _ _ rfl (.agg #[.bool false, .string ⟨#[1]⟩, .string ⟨#[3]⟩]) (.agg #[.bool false, .string ⟨#[1]⟩, .string ⟨#[3]⟩]) _ rfl rfl (rat_guard _ _ _ _ _) (run_eqRs _ _ _ _)) ⟨hA74, hA84, hA224⟩ ⟨hA74, hA84, hA224⟩ ?_
  go_frame
  refine late_take [] (i := 26) (some 184) rfl rfl (by first | rfl | kernel_rfl) (by kernel_rfl) (by kernel_rfl) (by kernel_rfl) (by kernel_rfl) (by kernel_rfl) (fun Ls W h => h) (.bool true) (fun _ _ _ h => h) (fun Ls W hl0 hW => exec_pickT _ _ _ rfl (.bool true) rfl rfl) ⟨hA74, hA84, hA224⟩ ⟨hA74, hA84, hA224⟩ ?_
  go_frame
  refine late_take [] (i := 27) (some 185) rfl rfl (by first | rfl | kernel_rfl) (by kernel_rfl) (by kernel_rfl) (by kernel_rfl) (by kernel_rfl) (by kernel_rfl) (fun Ls W h => h) (.bool true) (fun _ _ _ h => h) (fun Ls W hl0 hW => exec_move (.tmp 184) rfl _ rfl) ⟨hA74, hA84, hA224⟩ ⟨hA74, hA84, hA224⟩ ?_
  go_frame
  refine late_take [] (i := 28) (some 186) rfl rfl (by first | rfl | kernel_rfl) (by kernel_rfl) (by kernel_rfl) (by kernel_rfl) (by kernel_rfl) (by kernel_rfl) (fun Ls W h => h) (.agg #[.bool false, .string ⟨#[1]⟩, .string ⟨#[2]⟩]) (fun _ _ _ h => h) (fun Ls W hl0 hW => exec_load 26 (.tmp 7) rfl _ (.agg #[.bool false, .string ⟨#[1]⟩, .string ⟨#[2]⟩]) rfl (run_load_part W 26 _ 0 3 _ [.bool false, .string ⟨#[1]⟩, .string ⟨#[2]⟩] _ hW.1 (by simp) Tryz.underlying26 rfl size_api_Rat)) ⟨hA74, hA84, hA224⟩ ⟨hA74, hA84, hA224⟩ ?_
  go_frame
  refine late_take [] (i := 29) (some 187) rfl rfl (by first | rfl | kernel_rfl) (by kernel_rfl) (by kernel_rfl) (by kernel_rfl) (by kernel_rfl) (by kernel_rfl) (fun Ls W h => h) (.agg #[.bool false, .string ⟨#[1]⟩, .string ⟨#[3]⟩]) (fun _ _ _ h => h) (fun Ls W hl0 hW => exec_load 26 (.tmp 8) rfl _ (.agg #[.bool false, .string ⟨#[1]⟩, .string ⟨#[3]⟩]) rfl (run_load_part W 26 _ 0 3 _ [.bool false, .string ⟨#[1]⟩, .string ⟨#[3]⟩] _ hW.2.1 (by simp) Tryz.underlying26 rfl size_api_Rat)) ⟨hA74, hA84, hA224⟩ ⟨hA74, hA84, hA224⟩ ?_
  go_frame
  refine late_take [] (i := 31) (some 189) rfl rfl (by first | rfl | kernel_rfl) (by kernel_rfl) (by kernel_rfl) (by kernel_rfl) (by kernel_rfl) (by kernel_rfl) (fun Ls W h => h) (.agg #[.bool false, .string ⟨#[1]⟩, .string ⟨#[2]⟩]) (fun _ _ _ h => h) (fun Ls W hl0 hW => exec_load 26 (.tmp 7) rfl _ (.agg #[.bool false, .string ⟨#[1]⟩, .string ⟨#[2]⟩]) rfl (run_load_part W 26 _ 0 3 _ [.bool false, .string ⟨#[1]⟩, .string ⟨#[2]⟩] _ hW.1 (by simp) Tryz.underlying26 rfl size_api_Rat)) ⟨hA74, hA84, hA224⟩ ⟨hA74, hA84, hA224⟩ ?_
  go_frame
  refine late_one (i := 30) (by kernel_rfl) (op_callG (some 188) rfl rfl (by first | rfl | kernel_rfl) rfl Tryz.func22 (by kernel_rfl) (by kernel_rfl) #[.agg #[.bool false, .string ⟨#[1]⟩, .string ⟨#[2]⟩], .agg #[.bool false, .string ⟨#[1]⟩, .string ⟨#[3]⟩]] rfl (s188 _) ?_)
  rintro e u5 ⟨rfl, hb⟩
  have hE5 := hE4.next hb
  have hW5 := hW4.trans (hb.mono hW4.size)
  have hA75 := hA74.next hb
  have hA85 := hA84.next hb
  have hA225 := hA224.next hb
  refine ⟨_, rfl, ⟨hA75, hA85, hA225⟩, ?_⟩
  go_frame
  clear hE4 hW4 hA74 hA84 hA224 hb
  refine late_take [] (i := 32) (some 190) rfl rfl (by first | rfl | kernel_rfl) (by kernel_rfl) (by kernel_rfl) (by kernel_rfl) (by kernel_rfl) (by kernel_rfl) (fun Ls W h => h) (.bool true) (fun _ _ _ h => h) (fun Ls W hl0 hW => exec_bin .eql 26 _ _ _ rfl (.agg #[.bool false, .string ⟨#[1]⟩, .string ⟨#[2]⟩]) (.agg #[.bool false, .string ⟨#[1]⟩, .string ⟨#[2]⟩]) _ rfl rfl (rat_guard _ _ _ _ _) (run_eqRs _ _ _ _)) ⟨hA75, hA85, hA225⟩ ⟨hA75, hA85, hA225⟩ ?_
  go_frame
  refine late_take [] (i := 33) (some 191) rfl rfl (by first | rfl | kernel_rfl) (by kernel_rfl) (by kernel_rfl) (by kernel_rfl) (by kernel_rfl) (by kernel_rfl) (fun Ls W h => h) (.bool true) (fun _ _ _ h => h) (fun Ls W hl0 hW => exec_pickT _ _ _ rfl (.bool true) rfl rfl) ⟨hA75, hA85, hA225⟩ ⟨hA75, hA85, hA225⟩ ?_
  go_frame
  refine late_take [] (i := 34) (some 26) rfl rfl (by first | rfl | kernel_rfl) (by kernel_rfl) (by kernel_rfl) (by kernel_rfl) (by kernel_rfl) (by kernel_rfl) (fun Ls W h => h) (.bool true) (fun _ _ _ h => h) (fun Ls W hl0 hW => exec_assign (.tmp 191) rfl _ rfl) ⟨hA75, hA85, hA225⟩ ⟨hA75, hA85, hA225⟩ ?_
  refine late_done (by kernel_rfl) ?_ _
  go_frame
  have HE := Lib.hid hE5
  have HW := Lib.hid hW5
  have HA7 := Lib.hid hA75
  have HA8 := Lib.hid hA85
  have HA22 := Lib.hid hA225
  clear hE5 hW5 hA75 hA85 hA225
  clear HA7 HA8
  go_wp2_with fail
  refine late_begin (S := fun _ W => Blk W g22 26 [.bool true, .string ⟨#[1, 44]⟩, .string ⟨#[7]⟩]) (by kernel_rfl) ?_
  have hE0 := HE.out.next (Below.refl _ _).drew
  have hW0 := HW.out.drew
  have hA220 := HA22.out.drew
  generalize u5.drew = u0 at hE0 hW0 hA220 ⊢
  clear HE HW HA22
  refine late_take [] (i := 0) (some 192) rfl rfl (by first | rfl | kernel_rfl) (by kernel_rfl) (by kernel_rfl) (by kernel_rfl) (by kernel_rfl) (by kernel_rfl) (fun Ls W h => h) (.string ⟨#[45, 51, 48, 48, 47, 55]⟩) (fun _ _ _ h => h) (fun Ls W hl0 hW => exec_move (.tmp 21) rfl _ rfl) hA220 hA220 ?_
  go_frame
  refine late_take [] (i := 1) (some 193) rfl rfl (by first | rfl | kernel_rfl) (by kernel_rfl) (by kernel_rfl) (by kernel_rfl) (by kernel_rfl) (by kernel_rfl) (fun Ls W h => h) (.bool true) (fun _ _ _ h => h) (fun Ls W hl0 hW => exec_bin .eql 9 _ _ _ rfl (.string ⟨#[45, 51, 48, 48, 47, 55]⟩) (.string ⟨#[45, 51, 48, 48, 47, 55]⟩) _ rfl rfl rfl (run_eqS _ _ true (decide_eq_true rfl) _)) hA220 hA220 ?_
  go_frame
  refine late_take [] (i := 2) (some 194) rfl rfl (by first | rfl | kernel_rfl) (by kernel_rfl) (by kernel_rfl) (by kernel_rfl) (by kernel_rfl) (by kernel_rfl) (fun Ls W h => h) (.bool true) (fun _ _ _ h => h) (fun Ls W hl0 hW => exec_move (.tmp 193) rfl _ rfl) hA220 hA220 ?_
  go_frame
  refine late_take [] (i := 3) (some 195) rfl rfl (by first | rfl | kernel_rfl) (by kernel_rfl) (by kernel_rfl) (by kernel_rfl) (by kernel_rfl) (by kernel_rfl) (fun Ls W h => h) (.agg #[.bool true, .string ⟨#[1, 44]⟩, .string ⟨#[7]⟩]) (fun _ _ _ h => h) (fun Ls W hl0 hW => exec_load 26 (.tmp 22) rfl _ (.agg #[.bool true, .string ⟨#[1, 44]⟩, .string ⟨#[7]⟩]) rfl (run_load_part W 26 _ 0 3 _ [.bool true, .string ⟨#[1, 44]⟩, .string ⟨#[7]⟩] _ hW (by simp) Tryz.underlying26 rfl size_api_Rat)) hA220 hA220 ?_
  go_frame
  refine late_one (i := 4) (by kernel_rfl) (op_callG (some 196) rfl rfl (by first | rfl | kernel_rfl) rfl Tryz.func13 (by kernel_rfl) (by kernel_rfl) #[.int .i64 (-300), .int .i64 7] rfl (s196 _) ?_)
  rintro e u1 ⟨rfl, hb⟩
  have hE1 := hE0.next hb
  have hW1 := hW0.trans (hb.mono hW0.size)
  have hA221 := hA220.next hb
  refine ⟨_, rfl, hA221, ?_⟩
  go_frame
  clear hE0 hW0 hA220 hb
  refine late_take [] (i := 5) (some 197) rfl rfl (by first | rfl | kernel_rfl) (by kernel_rfl) (by kernel_rfl) (by kernel_rfl) (by kernel_rfl) (by kernel_rfl) (fun Ls W h => h) (.bool true) (fun _ _ _ h => h) (fun Ls W hl0 hW => exec_bin .eql 26 _ _ _ rfl (.agg #[.bool true, .string ⟨#[1, 44]⟩, .string ⟨#[7]⟩]) (.agg #[.bool true, .string ⟨#[1, 44]⟩, .string ⟨#[7]⟩]) _ rfl rfl (rat_guard _ _ _ _ _) (run_eqRs _ _ _ _)) hA221 hA221 ?_
  go_frame
  refine late_take [] (i := 6) (some 198) rfl rfl (by first | rfl | kernel_rfl) (by kernel_rfl) (by kernel_rfl) (by kernel_rfl) (by kernel_rfl) (by kernel_rfl) (fun Ls W h => h) (.bool true) (fun _ _ _ h => h) (fun Ls W hl0 hW => exec_pickT _ _ _ rfl (.bool true) rfl rfl) hA221 hA221 ?_
  go_frame
  refine late_take [] (i := 7) (some 199) rfl rfl (by first | rfl | kernel_rfl) (by kernel_rfl) (by kernel_rfl) (by kernel_rfl) (by kernel_rfl) (by kernel_rfl) (fun Ls W h => h) (.bool true) (fun _ _ _ h => h) (fun Ls W hl0 hW => exec_move (.tmp 198) rfl _ rfl) hA221 hA221 ?_
  go_frame
  refine late_one (i := 8) (by kernel_rfl) (op_callG (some 200) rfl rfl (by first | rfl | kernel_rfl) rfl Tryz.func23 (by kernel_rfl) (by kernel_rfl) #[.string ⟨#[50, 47, 52]⟩] rfl (s200 _ hE1) ?_)
  rintro e u2 ⟨rfl, hb⟩
  have hE2 := hE1.next hb
  have hW2 := hW1.trans (hb.mono hW1.size)
  have hA222 := hA221.next hb
  refine ⟨_, rfl, hA222, ?_⟩
  go_frame
  clear hE1 hW1 hA221 hb
  refine late_take [] (i := 9) (some 201) rfl rfl (by first | rfl | kernel_rfl) (by kernel_rfl) (by kernel_rfl) (by kernel_rfl) (by kernel_rfl) (by kernel_rfl) (fun Ls W h => h) (.bool true) (fun _ _ _ h => h) (fun Ls W hl0 hW => exec_pickT _ _ _ rfl (.bool true) rfl rfl) hA222 hA222 ?_
  go_frame
  refine late_take [] (i := 10) (some 202) rfl rfl (by first | rfl | kernel_rfl) (by kernel_rfl) (by kernel_rfl) (by kernel_rfl) (by kernel_rfl) (by kernel_rfl) (fun Ls W h => h) (.bool true) (fun _ _ _ h => h) (fun Ls W hl0 hW => exec_move (.tmp 201) rfl _ rfl) hA222 hA222 ?_
  go_frame
  refine late_one (i := 11) (by kernel_rfl) (op_callG (some 203) rfl rfl (by first | rfl | kernel_rfl) rfl Tryz.func23 (by kernel_rfl) (by kernel_rfl) #[.string ⟨#[51, 47, 49]⟩] rfl (s203 _ hE2) ?_)
  rintro e u3 ⟨rfl, hb⟩
  have hE3 := hE2.next hb
  have hW3 := hW2.trans (hb.mono hW2.size)
  have hA223 := hA222.next hb
  refine ⟨_, rfl, hA223, ?_⟩
  go_frame
  clear hE2 hW2 hA222 hb
  refine late_take [] (i := 12) (some 204) rfl rfl (by first | rfl | kernel_rfl) (by kernel_rfl) (by kernel_rfl) (by kernel_rfl) (by kernel_rfl) (by kernel_rfl) (fun Ls W h => h) (.bool true) (fun _ _ _ h => h) (fun Ls W hl0 hW => exec_pickT _ _ _ rfl (.bool true) rfl rfl) hA223 hA223 ?_
  go_frame
  refine late_take [] (i := 13) (some 205) rfl rfl (by first | rfl | kernel_rfl) (by kernel_rfl) (by kernel_rfl) (by kernel_rfl) (by kernel_rfl) (by kernel_rfl) (fun Ls W h => h) (.bool true) (fun _ _ _ h => h) (fun Ls W hl0 hW => exec_move (.tmp 204) rfl _ rfl) hA223 hA223 ?_
  go_frame
  refine late_one (i := 14) (by kernel_rfl) (op_callG (some 206) rfl rfl (by first | rfl | kernel_rfl) rfl Tryz.func23 (by kernel_rfl) (by kernel_rfl) #[.string ⟨#[45, 48]⟩] rfl (s206 _ hE3) ?_)
  rintro e u4 ⟨rfl, hb⟩
  have hE4 := hE3.next hb
  have hW4 := hW3.trans (hb.mono hW3.size)
  have hA224 := hA223.next hb
  refine ⟨_, rfl, hA224, ?_⟩
  go_frame
  clear hE3 hW3 hA223 hb
  refine late_take [] (i := 15) (some 207) rfl rfl (by first | rfl | kernel_rfl) (by kernel_rfl) (by kernel_rfl) (by kernel_rfl) (by kernel_rfl) (by kernel_rfl) (fun Ls W h => h) (.bool true) (fun _ _ _ h => h) (fun Ls W hl0 hW => exec_pickT _ _ _ rfl (.bool true) rfl rfl) hA224 hA224 ?_
  go_frame
  refine late_take [] (i := 16) (some 208) rfl rfl (by first | rfl | kernel_rfl) (by kernel_rfl) (by kernel_rfl) (by kernel_rfl) (by kernel_rfl) (by kernel_rfl) (fun Ls W h => h) (.bool true) (fun _ _ _ h => h) (fun Ls W hl0 hW => exec_move (.tmp 207) rfl _ rfl) hA224 hA224 ?_
  go_frame
  refine late_take [] (i := 17) (some 209) rfl rfl (by first | rfl | kernel_rfl) (by kernel_rfl) (by kernel_rfl) (by kernel_rfl) (by kernel_rfl) (by kernel_rfl) (fun Ls W h => h) (.agg #[.bool false, .string ⟨#[]⟩, .string ⟨#[]⟩]) (fun _ _ _ h => h) (fun Ls W hl0 hW => exec_build0 26 rfl _ (qr_nil _)) hA224 hA224 ?_
  go_frame
  refine late_one (i := 18) (by kernel_rfl) (op_callG (some 210) rfl rfl (by first | rfl | kernel_rfl) rfl Tryz.func6 (by kernel_rfl) (by kernel_rfl) #[.agg #[.bool false, .string ⟨#[]⟩, .string ⟨#[]⟩]] rfl (s210 _ hE4) ?_)
  rintro e u5 ⟨rfl, hb⟩
  have hE5 := hE4.next hb
  have hW5 := hW4.trans (hb.mono hW4.size)
  have hA225 := hA224.next hb
  refine ⟨_, rfl, hA225, ?_⟩
  go_frame
  clear hE4 hW4 hA224 hb
  refine late_take [] (i := 19) (some 211) rfl rfl (by first | rfl | kernel_rfl) (by kernel_rfl) (by kernel_rfl) (by kernel_rfl) (by kernel_rfl) (by kernel_rfl) (fun Ls W h => h) (.bool true) (fun _ _ _ h => h) (fun Ls W hl0 hW => exec_bin .eql 9 _ _ _ rfl (.string ⟨#[48]⟩) (.string ⟨#[48]⟩) _ rfl rfl rfl (run_eqS _ _ true (decide_eq_true rfl) _)) hA225 hA225 ?_
  go_frame
  refine late_take [] (i := 20) (some 212) rfl rfl (by first | rfl | kernel_rfl) (by kernel_rfl) (by kernel_rfl) (by kernel_rfl) (by kernel_rfl) (by kernel_rfl) (fun Ls W h => h) (.bool true) (fun _ _ _ h => h) (fun Ls W hl0 hW => exec_pickT _ _ _ rfl (.bool true) rfl rfl) hA225 hA225 ?_
  go_frame
  refine late_take [] (i := 21) (some 27) rfl rfl (by first | rfl | kernel_rfl) (by kernel_rfl) (by kernel_rfl) (by kernel_rfl) (by kernel_rfl) (by kernel_rfl) (fun Ls W h => h) (.bool true) (fun _ _ _ h => h) (fun Ls W hl0 hW => exec_assign (.tmp 212) rfl _ rfl) hA225 hA225 ?_
  refine late_done (by kernel_rfl) ?_ _
  go_frame
  have HE := Lib.hid hE5
  have HW := Lib.hid hW5
  have HA22 := Lib.hid hA225
  clear hE5 hW5 hA225
  clear HA22
  go_wp2_with (first | (refine wpList_dst 213 rfl ?_; refine wpList_run 213 rfl rfl _ (exec_build2' 26 1 2 _ _ rfl (.string ⟨#[2]⟩) (.string ⟨#[4]⟩) _ rfl rfl (qr_b12 _)) ?_; go_frame) | (refine wpList_var rfl rfl 26 28 rfl rfl rfl (.tmp 213) rfl [.bool false, .string ByteArray.empty, .string ByteArray.empty] [.bool false, .string ⟨#[2]⟩, .string ⟨#[4]⟩] zero_api_Rat rfl rfl rfl size_api_Rat (List.forall_mem_cons.2 ⟨rfl, (List.forall_mem_cons.2 ⟨rfl, (List.forall_mem_cons.2 ⟨rfl, fun _ h => nomatch h⟩)⟩)⟩) ?_; intro w26 HA28 HBw; replace HE := Lib.hid (HE.out.next HBw.out); replace HW := Lib.hid (HW.out.trans (HBw.out.mono HW.out.size)); clear HBw))
  obtain ⟨g28, hg28⟩ : ∃ g, g = u5.heap.size := ⟨_, rfl⟩
  rw [← hg28] at HA28 ⊢
  clear hg28
  refine late_begin (S := fun _ W => Blk W g28 26 [.bool false, .string ⟨#[2]⟩, .string ⟨#[4]⟩]) (by kernel_rfl) ?_
  have hE0 := HE.out.next (Below.refl _ _).drew
  have hW0 := HW.out.drew
  have hA280 := HA28.out.drew
  generalize w26.drew = u0 at hE0 hW0 hA280 ⊢
  clear HE HW HA28
  refine late_take [] (i := 0) (some 214) rfl rfl (by first | rfl | kernel_rfl) (by kernel_rfl) (by kernel_rfl) (by kernel_rfl) (by kernel_rfl) (by kernel_rfl) (fun Ls W h => h) (.bool true) (fun _ _ _ h => h) (fun Ls W hl0 hW => exec_move (.tmp 24) rfl _ rfl) hA280 hA280 ?_
  go_frame
  refine late_take [] (i := 1) (some 215) rfl rfl (by first | rfl | kernel_rfl) (by kernel_rfl) (by kernel_rfl) (by kernel_rfl) (by kernel_rfl) (by kernel_rfl) (fun Ls W h => h) (.bool true) (fun _ _ _ h => h) (fun Ls W hl0 hW => exec_move (.tmp 214) rfl _ rfl) hA280 hA280 ?_
  go_frame
  refine late_take [] (i := 2) (some 216) rfl rfl (by first | rfl | kernel_rfl) (by kernel_rfl) (by kernel_rfl) (by kernel_rfl) (by kernel_rfl) (by kernel_rfl) (fun Ls W h => h) (.bool true) (fun _ _ _ h => h) (fun Ls W hl0 hW => exec_move (.tmp 25) rfl _ rfl) hA280 hA280 ?_
  go_frame
  refine late_take [] (i := 3) (some 217) rfl rfl (by first | rfl | kernel_rfl) (by kernel_rfl) (by kernel_rfl) (by kernel_rfl) (by kernel_rfl) (by kernel_rfl) (fun Ls W h => h) (.bool true) (fun _ _ _ h => h) (fun Ls W hl0 hW => exec_pickT _ _ _ rfl (.bool true) rfl rfl) hA280 hA280 ?_
  go_frame
  refine late_take [] (i := 4) (some 218) rfl rfl (by first | rfl | kernel_rfl) (by kernel_rfl) (by kernel_rfl) (by kernel_rfl) (by kernel_rfl) (by kernel_rfl) (fun Ls W h => h) (.bool true) (fun _ _ _ h => h) (fun Ls W hl0 hW => exec_move (.tmp 217) rfl _ rfl) hA280 hA280 ?_
  go_frame
  refine late_take [] (i := 5) (some 219) rfl rfl (by first | rfl | kernel_rfl) (by kernel_rfl) (by kernel_rfl) (by kernel_rfl) (by kernel_rfl) (by kernel_rfl) (fun Ls W h => h) (.bool true) (fun _ _ _ h => h) (fun Ls W hl0 hW => exec_move (.tmp 26) rfl _ rfl) hA280 hA280 ?_
  go_frame
  refine late_take [] (i := 6) (some 220) rfl rfl (by first | rfl | kernel_rfl) (by kernel_rfl) (by kernel_rfl) (by kernel_rfl) (by kernel_rfl) (by kernel_rfl) (fun Ls W h => h) (.bool true) (fun _ _ _ h => h) (fun Ls W hl0 hW => exec_pickT _ _ _ rfl (.bool true) rfl rfl) hA280 hA280 ?_
  go_frame
  refine late_take [] (i := 7) (some 221) rfl rfl (by first | rfl | kernel_rfl) (by kernel_rfl) (by kernel_rfl) (by kernel_rfl) (by kernel_rfl) (by kernel_rfl) (fun Ls W h => h) (.bool true) (fun _ _ _ h => h) (fun Ls W hl0 hW => exec_move (.tmp 220) rfl _ rfl) hA280 hA280 ?_
  go_frame
  refine late_take [] (i := 8) (some 222) rfl rfl (by first | rfl | kernel_rfl) (by kernel_rfl) (by kernel_rfl) (by kernel_rfl) (by kernel_rfl) (by kernel_rfl) (fun Ls W h => h) (.bool true) (fun _ _ _ h => h) (fun Ls W hl0 hW => exec_move (.tmp 27) rfl _ rfl) hA280 hA280 ?_
  go_frame
  refine late_take [] (i := 9) (some 223) rfl rfl (by first | rfl | kernel_rfl) (by kernel_rfl) (by kernel_rfl) (by kernel_rfl) (by kernel_rfl) (by kernel_rfl) (fun Ls W h => h) (.bool true) (fun _ _ _ h => h) (fun Ls W hl0 hW => exec_pickT _ _ _ rfl (.bool true) rfl rfl) hA280 hA280 ?_
  go_frame
  refine late_take [] (i := 10) (some 224) rfl rfl (by first | rfl | kernel_rfl) (by kernel_rfl) (by kernel_rfl) (by kernel_rfl) (by kernel_rfl) (by kernel_rfl) (fun Ls W h => h) (.bool true) (fun _ _ _ h => h) (fun Ls W hl0 hW => exec_move (.tmp 223) rfl _ rfl) hA280 hA280 ?_
  go_frame
  refine late_take [] (i := 11) (some 225) rfl rfl (by first | rfl | kernel_rfl) (by kernel_rfl) (by kernel_rfl) (by kernel_rfl) (by kernel_rfl) (by kernel_rfl) (fun Ls W h => h) (.agg #[.bool false, .string ⟨#[2]⟩, .string ⟨#[4]⟩]) (fun _ _ _ h => h) (fun Ls W hl0 hW => exec_load 26 (.tmp 28) rfl _ (.agg #[.bool false, .string ⟨#[2]⟩, .string ⟨#[4]⟩]) rfl (run_load_part W 26 _ 0 3 _ [.bool false, .string ⟨#[2]⟩, .string ⟨#[4]⟩] _ hW (by simp) Tryz.underlying26 rfl size_api_Rat)) hA280 hA280 ?_
  go_frame
  refine late_one (i := 12) (by kernel_rfl) (op_callG (some 226) rfl rfl (by first | rfl | kernel_rfl) rfl Tryz.func24 (by kernel_rfl) (by kernel_rfl) #[.agg #[.bool false, .string ⟨#[2]⟩, .string ⟨#[4]⟩]] rfl (s226 _) ?_)
  rintro e u1 ⟨rfl, hb⟩
  have hE1 := hE0.next hb
  have hW1 := hW0.trans (hb.mono hW0.size)
  have hA281 := hA280.next hb
  refine ⟨_, rfl, hA281, ?_⟩
  go_frame
  clear hE0 hW0 hA280 hb
  refine late_take [] (i := 13) (some 227) rfl rfl (by first | rfl | kernel_rfl) (by kernel_rfl) (by kernel_rfl) (by kernel_rfl) (by kernel_rfl) (by kernel_rfl) (fun Ls W h => h) (.bool true) (fun _ _ _ h => h) (fun Ls W hl0 hW => exec_not _ _ rfl false rfl) hA281 hA281 ?_
  go_frame
  refine late_take [] (i := 14) (some 228) rfl rfl (by first | rfl | kernel_rfl) (by kernel_rfl) (by kernel_rfl) (by kernel_rfl) (by kernel_rfl) (by kernel_rfl) (fun Ls W h => h) (.bool true) (fun _ _ _ h => h) (fun Ls W hl0 hW => exec_pickT _ _ _ rfl (.bool true) rfl rfl) hA281 hA281 ?_
  go_frame
  refine late_take [] (i := 15) (some 229) rfl rfl (by first | rfl | kernel_rfl) (by kernel_rfl) (by kernel_rfl) (by kernel_rfl) (by kernel_rfl) (by kernel_rfl) (fun Ls W h => h) (.bool true) (fun _ _ _ h => h) (fun Ls W hl0 hW => exec_move (.tmp 228) rfl _ rfl) hA281 hA281 ?_
  go_frame
  refine late_take [] (i := 16) (some 230) rfl rfl (by first | rfl | kernel_rfl) (by kernel_rfl) (by kernel_rfl) (by kernel_rfl) (by kernel_rfl) (by kernel_rfl) (fun Ls W h => h) (.agg #[.bool true, .string ⟨#[]⟩, .string ⟨#[]⟩]) (fun _ _ _ h => h) (fun Ls W hl0 hW => exec_build1 26 0 _ rfl (.bool true) _ rfl (qr_b0 _)) hA281 hA281 ?_
  go_frame
  refine late_one (i := 17) (by kernel_rfl) (op_callG (some 231) rfl rfl (by first | rfl | kernel_rfl) rfl Tryz.func24 (by kernel_rfl) (by kernel_rfl) #[.agg #[.bool true, .string ⟨#[]⟩, .string ⟨#[]⟩]] rfl (s231 _) ?_)
  rintro e u2 ⟨rfl, hb⟩
  have hE2 := hE1.next hb
  have hW2 := hW1.trans (hb.mono hW1.size)
  have hA282 := hA281.next hb
  refine ⟨_, rfl, hA282, ?_⟩
  go_frame
  clear hE1 hW1 hA281 hb
  refine late_take [] (i := 18) (some 232) rfl rfl (by first | rfl | kernel_rfl) (by kernel_rfl) (by kernel_rfl) (by kernel_rfl) (by kernel_rfl) (by kernel_rfl) (fun Ls W h => h) (.bool true) (fun _ _ _ h => h) (fun Ls W hl0 hW => exec_not _ _ rfl false rfl) hA282 hA282 ?_
  go_frame
  refine late_take [] (i := 19) (some 233) rfl rfl (by first | rfl | kernel_rfl) (by kernel_rfl) (by kernel_rfl) (by kernel_rfl) (by kernel_rfl) (by kernel_rfl) (fun Ls W h => h) (.bool true) (fun _ _ _ h => h) (fun Ls W hl0 hW => exec_pickT _ _ _ rfl (.bool true) rfl rfl) hA282 hA282 ?_
  go_frame
  refine late_take [] (i := 20) (some 234) rfl rfl (by first | rfl | kernel_rfl) (by kernel_rfl) (by kernel_rfl) (by kernel_rfl) (by kernel_rfl) (by kernel_rfl) (fun Ls W h => h) (.bool true) (fun _ _ _ h => h) (fun Ls W hl0 hW => exec_move (.tmp 233) rfl _ rfl) hA282 hA282 ?_
  go_frame
  refine late_take [] (i := 21) (some 235) rfl rfl (by first | rfl | kernel_rfl) (by kernel_rfl) (by kernel_rfl) (by kernel_rfl) (by kernel_rfl) (by kernel_rfl) (fun Ls W h => h) (.agg #[.bool false, .string ⟨#[2]⟩, .string ⟨#[4]⟩]) (fun _ _ _ h => h) (fun Ls W hl0 hW => exec_load 26 (.tmp 28) rfl _ (.agg #[.bool false, .string ⟨#[2]⟩, .string ⟨#[4]⟩]) rfl (run_load_part W 26 _ 0 3 _ [.bool false, .string ⟨#[2]⟩, .string ⟨#[4]⟩] _ hW (by simp) Tryz.underlying26 rfl size_api_Rat)) hA282 hA282 ?_
  go_frame
  refine late_one (i := 22) (by kernel_rfl) (op_callG (some 236) rfl rfl (by first | rfl | kernel_rfl) rfl Tryz.func25 (by kernel_rfl) (by kernel_rfl) #[.int .i64 1] rfl (s236 _) ?_)
  rintro e u3 ⟨rfl, hb⟩
  have hE3 := hE2.next hb
  have hW3 := hW2.trans (hb.mono hW2.size)
  have hA283 := hA282.next hb
  refine ⟨_, rfl, hA283, ?_⟩
  go_frame
  clear hE2 hW2 hA282 hb
  refine late_one (i := 23) (by kernel_rfl) (op_callG (some 237) rfl rfl (by first | rfl | kernel_rfl) rfl Tryz.func17 (by kernel_rfl) (by kernel_rfl) #[.agg #[.bool false, .string ⟨#[2]⟩, .string ⟨#[4]⟩], .agg #[.bool false, .string ⟨#[1]⟩, .string ⟨#[1]⟩]] rfl (s237 _) ?_)
  rintro e u4 ⟨rfl, hb⟩
  have hE4 := hE3.next hb
  have hW4 := hW3.trans (hb.mono hW3.size)
  have hA284 := hA283.next hb
  refine ⟨_, rfl, hA284, ?_⟩
  go_frame
  clear hE3 hW3 hA283 hb
  refine late_one (i := 24) (by kernel_rfl) (op_callG (some 238) rfl rfl (by first | rfl | kernel_rfl) rfl Tryz.func25 (by kernel_rfl) (by kernel_rfl) #[.int .i64 1] rfl (s236 _) ?_)
  rintro e u5 ⟨rfl, hb⟩
  have hE5 := hE4.next hb
  have hW5 := hW4.trans (hb.mono hW4.size)
  have hA285 := hA284.next hb
  refine ⟨_, rfl, hA285, ?_⟩
  go_frame
  clear hE4 hW4 hA284 hb
  refine late_take [] (i := 25) (some 239) rfl rfl (by first | rfl | kernel_rfl) (by kernel_rfl) (by kernel_rfl) (by kernel_rfl) (by kernel_rfl) (by kernel_rfl) (fun Ls W h => h) (.bool true) (fun _ _ _ h => h) (fun Ls W hl0 hW => exec_bin .eql 26 _ _ _ rfl (.agg #[.bool false, .string ⟨#[1]⟩, .string ⟨#[1]⟩]) (.agg #[.bool false, .string ⟨#[1]⟩, .string ⟨#[1]⟩]) _ rfl rfl (rat_guard _ _ _ _ _) (run_eqRs _ _ _ _)) hA285 hA285 ?_
  go_frame
  refine late_take [] (i := 26) (some 240) rfl rfl (by first | rfl | kernel_rfl) (by kernel_rfl) (by kernel_rfl) (by kernel_rfl) (by kernel_rfl) (by kernel_rfl) (fun Ls W h => h) (.bool true) (fun _ _ _ h => h) (fun Ls W hl0 hW => exec_pickT _ _ _ rfl (.bool true) rfl rfl) hA285 hA285 ?_
  go_frame
  refine late_take [] (i := 27) (some 0) rfl rfl (by first | rfl | kernel_rfl) (by kernel_rfl) (by kernel_rfl) (by kernel_rfl) (by kernel_rfl) (by kernel_rfl) (fun Ls W h => h) (.bool true) (fun _ _ _ h => h) (fun Ls W hl0 hW => exec_assign (.tmp 240) rfl _ rfl) hA285 hA285 ?_
  refine late_done (by kernel_rfl) ?_ _
  go_frame
  have HE := Lib.hid hE5
  have HW := Lib.hid hW5
  have HA28 := Lib.hid hA285
  clear hE5 hW5 hA285
  go_wp2
  go_ret
  exact ⟨rfl, HW.out⟩
end Go.Proofs.YtpmlihhofmblpaaGreatDoor
