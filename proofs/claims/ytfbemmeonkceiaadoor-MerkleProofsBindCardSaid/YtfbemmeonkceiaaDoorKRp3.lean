/- The reference's Top. -/
import Derived.Test.YtfbemmeonkceiaaDoorKRp2
namespace Go.Proofs.YtfbemmeonkceiaaDoor
open Go.RowKit Hm Wm

theorem pk_field1 (g : Nat) (W : World) : (Instr.fieldAt 43 (.pointer (some ⟨g, 0, none⟩)) 1).run Tryd.prog W = .ok (.pointer (some ⟨g, 1, none⟩)) W := by kernel_rfl
def tpc (d : Dg) (e : Int) : List Value := dc d ++ [.int .i64 e]
theorem tpc_len (d : Dg) (e : Int) : (tpc d e).length = 17 := by unfold tpc; rw [List.length_append, dc_len]; rfl
theorem tt_size : (Tryd.prog.info? 52).map (·.size) = some 17 := by kernel_rfl
theorem tt_size' (d : Dg) (e : Int) : (Tryd.prog.info? 52).map (·.size) = some (tpc d e).length := by rw [tpc_len]; exact tt_size
theorem tt_zero : (Tryd.prog.info? 52).map (·.zero) = some (some (.agg (tpc dz 0).toArray)) := by kernel_rfl
theorem tpc_one (d : Dg) (e : Int) : ∀ v ∈ tpc d e, v.oneCell' = true := by
  intro v hv
  rcases List.mem_append.1 hv with hv | hv
  · exact dc_one d v hv
  · rw [List.mem_singleton.1 hv]; rfl
theorem run_tt_err (k : Int) (W : World) : (Instr.build 52 #[(1, .int .i64 k)]).run Tryd.prog W = .ok (.agg (tpc dz k).toArray) W := by kernel_rfl
theorem run_tt (d : Dg) (W : World) : (Instr.build 52 #[(0, dv d)]).run Tryd.prog W = .ok (.agg (tpc d 0).toArray) W := by
  obtain ⟨l, hl⟩ := d
  obtain ⟨b0, b1, b2, b3, b4, b5, b6, b7, b8, b9, b10, b11, b12, b13, b14, b15, rfl⟩ : ∃ b0 b1 b2 b3 b4 b5 b6 b7 b8 b9 b10 b11 b12 b13 b14 b15, l = [b0, b1, b2, b3, b4, b5, b6, b7, b8, b9, b10, b11, b12, b13, b14, b15] := by
    match l, hl with
    | [b0, b1, b2, b3, b4, b5, b6, b7, b8, b9, b10, b11, b12, b13, b14, b15], _ => exact ⟨b0, b1, b2, b3, b4, b5, b6, b7, b8, b9, b10, b11, b12, b13, b14, b15, rfl⟩
  kernel_rfl

/-- The frame of Top. -/
def FrU (w : World) (s : Int) (v : Value) (z : List Value) (W : World) : Prop :=
  Below w.heap.size w W ∧ Blk W w.heap.size 43 (pkc s v) ∧ Blk W (w.heap.size + 1) 52 z
theorem FrU.next {w W W' : World} {s : Int} {v : Value} {z : List Value} (h : FrU w s v z W) (hb : Below W.heap.size W W') : FrU w s v z W' :=
  ⟨h.1.trans (hb.mono h.1.size), h.2.1.next hb, h.2.2.next hb⟩
theorem FrU.begin (w : World) (s : Int) (v : Value) : FrU w s v (tpc dz 0) ((w.alloc (.cells #[.int .i64 s, v] 43)).alloc (.cells (tpc dz 0).toArray 52)) := by
  have hb := ((Below.refl w.heap.size w).alloc (Nat.le_refl _) (.cells #[.int .i64 s, v] 43)).alloc (by simp) (.cells (tpc dz 0).toArray 52)
  have k1 := (Blk.new w 43 [.int .i64 s, v]).alloc (.cells (tpc dz 0).toArray 52)
  have k2 := Blk.new (w.alloc (.cells #[.int .i64 s, v] 43)) 52 (tpc dz 0)
  rw [size_alloc] at k2
  exact ⟨hb, k1, k2⟩

set_option maxRecDepth 100000 in
set_option maxHeartbeats 4000000 in
theorem rtop_bad (s : Int) (A : Option Addr) (n c : Nat) (w : World) (h : wfB s n = false) :
    Calls Tryd.prog 28 #[pkV s (.slice A n c)] w fun e w' => e = .returned (.agg (tpc dz 1).toArray) ∧ Below w.heap.size w w' := by
  have HF := Lib.hid (FrU.begin w s (.slice A n c))
  have HW := Lib.hid (fun w' => fm_any s A n c w')
  rw [h] at HW
  clear h
  unfold pkV
  go_enter Tryd.func28, Tryd.ntmps28
  go_wp2_with (first | (refine wpList_alloc_zero rfl 52 rfl (tpc dz 0) tt_zero ?_; try rw [size_alloc]; generalize ((w.alloc (.cells #[.int .i64 s, .slice A n c] 43)).alloc (.cells (tpc dz 0).toArray 52)) = w1 at HF ⊢) | (refine wpList_load_all rfl _ (.tmp 1) rfl w.heap.size _ (pkc s (.slice A n c)) _ rfl HF.out.2.1 Tryd.underlying43 rfl pk_size ?_))
  refine (HW.out _).mono ?_
  rintro e w2 ⟨rfl, hb2⟩
  have F2 := Lib.hid (HF.out.next hb2)
  clear hb2
  go_wp2_with (first | (refine wpList_run 10 rfl rfl _ (exec_build1 _ 1 (.const (.int .i64 1)) rfl _ _ rfl (run_tt_err 1 _)) ?_) | (refine wpList_store_all rfl _ (.tmp 2) (.tmp 10) rfl (w.heap.size + 1) _ (tpc dz 0) (tpc dz 1) rfl rfl F2.out.2.2 (by rw [tpc_len, tpc_len]) (tt_size' _ _) (tpc_one _ _) ?_; intro w3 HB3 ho3))
  exact bodyPost_ret (results_blk rfl _ _ (w.heap.size + 1) _ (tpc dz 1) _ rfl HB3.out Tryd.underlying52 rfl (tt_size' _ _)) rfl ⟨rfl, F2.out.1.trans (ho3.below (by omega))⟩

set_option maxRecDepth 100000 in
set_option maxHeartbeats 4000000 in
theorem rtop_zero (A : Option Addr) (n c : Nat) (w : World) (hg : All w) (h : wfB 0 n = true) :
    Calls Tryd.prog 28 #[pkV 0 (.slice A n c)] w fun e w' => e = .returned (.agg (tpc emptyD 0).toArray) ∧ Below w.heap.size w w' := by
  have HF := Lib.hid (FrU.begin w 0 (.slice A n c))
  have HW := Lib.hid (fun w' => fm_any 0 A n c w')
  rw [h] at HW
  have HG := Lib.hid hg
  have HRE := Lib.hid (fun W (h1 : RTab W) => rempty_any W h1)
  obtain ⟨d, hd⟩ : ∃ d, emptyD = d := ⟨_, rfl⟩
  rw [hd] at HRE ⊢
  clear h hg hd
  unfold pkV
  go_enter Tryd.func28, Tryd.ntmps28
  go_wp2_with (first | (refine wpList_alloc_zero rfl 52 rfl (tpc dz 0) tt_zero ?_; try rw [size_alloc]; generalize ((w.alloc (.cells #[.int .i64 0, .slice A n c] 43)).alloc (.cells (tpc dz 0).toArray 52)) = w1 at HF ⊢) | (refine wpList_load_all rfl _ (.tmp 1) rfl w.heap.size _ (pkc 0 (.slice A n c)) _ rfl HF.out.2.1 Tryd.underlying43 rfl pk_size ?_))
  refine (HW.out _).mono ?_
  rintro e w2 ⟨rfl, hb2⟩
  have F2 := Lib.hid (HF.out.next hb2)
  clear hb2
  have hc0 : w2.cell? ⟨w.heap.size, 0, none⟩ = some (.int .i64 0) := F2.out.2.1.cell 0
  go_wp2_with fail
  refine (HRE.out _ (HG.out.next F2.out.1).2.2).mono ?_
  rintro e w4 ⟨rfl, hb4⟩
  have F4 := Lib.hid (F2.out.next hb4)
  clear hb4 hc0
  go_wp2_with (first | (refine wpList_run 15 rfl rfl _ (exec_build1 _ 0 (.tmp 14) rfl (dv d) _ rfl (run_tt d _)) ?_) | (refine wpList_store_all rfl _ (.tmp 2) (.tmp 15) rfl (w.heap.size + 1) _ (tpc dz 0) (tpc d 0) rfl rfl F4.out.2.2 (by rw [tpc_len, tpc_len]) (tt_size' _ _) (tpc_one _ _) ?_; intro w3 HB3 ho3))
  exact bodyPost_ret (results_blk rfl _ _ (w.heap.size + 1) _ (tpc d 0) _ rfl HB3.out Tryd.underlying52 rfl (tt_size' _ _)) rfl ⟨rfl, F4.out.1.trans (ho3.below (by omega))⟩

/-- What stands in the loop over the tops. -/
def TpR (w3 : World) (tops : List Dg) (fin : Dg) (v : Value) (wr : World) : Prop :=
  ∃ (j : Nat) (z : Int) (x : Dg), v = .int .i64 z ∧ z + 1 = (j : Int) ∧ j ≤ tops.length ∧ Hid (Blk wr w3.heap.size 31 (dc x)) ∧ Hid (Below w3.heap.size w3 wr) ∧ Hid (joinD (tops.take j) x = fin)
theorem join_take {tops : List Dg} {k : Nat} {y x : Dg} (h : tops[k]? = some y) : joinD (tops.take (k + 1)) x = joinD (tops.take k) (nodeD y x) := by
  obtain ⟨h1, h2⟩ := List.getElem?_eq_some_iff.1 h
  unfold joinD
  rw [List.take_succ_eq_append_getElem h1, List.foldr_append, h2]; rfl

set_option maxRecDepth 100000 in
set_option maxHeartbeats 4000000 in
theorem rtop_any (s : Nat) (A : Option Addr) (c : Nat) (t : List Dg) (x : Dg) (w : World) (hg : All w) (hr : RdD w A (t ++ [x])) (hs0 : s ≠ 0) (hs : s ≤ 1099511627776) (hn : (t ++ [x]).length = Go.Lib.popAux 64 s) :
    Calls Tryd.prog 28 #[pkV s (.slice A (t ++ [x]).length c)] w fun e w' => e = .returned (.agg (tpc (joinD t x) 0).toArray) ∧ Below w.heap.size w w' := by
  have hlen : (t ++ [x]).length ≤ 64 := by rw [hn]; exact pop_le 64 s
  have HW := Lib.hid (fun w' => fm_any s A (t ++ [x]).length c w')
  rw [wfB_in s _ hs hn] at HW
  have hN : (t ++ [x]).length = t.length + 1 := by simp
  have hx : (t ++ [x])[t.length]? = some x := by simp
  obtain ⟨b6, o6, rfl, hcx⟩ := hr.at hx
  have hfin : joinD ((t ++ [x]).take t.length) x = joinD t x := by rw [List.take_left]
  obtain ⟨tops, ht⟩ : ∃ tops, t ++ [x] = tops := ⟨_, rfl⟩
  rw [ht] at HW hN hfin hr hlen ⊢
  obtain ⟨fin, hf⟩ : ∃ fin, joinD t x = fin := ⟨_, rfl⟩
  rw [hf] at hfin ⊢
  rw [hN] at HW hlen ⊢
  have HF := Lib.hid (FrU.begin w s (.slice (some ⟨b6, o6, none⟩) (t.length + 1) c))
  have HG := Lib.hid hg
  have HR := Lib.hid hr
  have HFIN := Lib.hid hfin
  have HCX := Lib.hid hcx
  have HNN := Lib.hid hN
  have d0 : ((s : Int) == 0) = false := by rw [beq_eq_false_iff_ne]; omega
  have q0 : (0 : Int) ≤ (t.length : Int) := by omega
  have q1 : (t.length : Int) ≤ 63 := by omega
  clear hg hr hn hN hx hcx hfin ht hf hs0 hs hlen
  unfold pkV
  go_enter Tryd.func28, Tryd.ntmps28
  go_wp2_with (first | (refine wpList_alloc_zero rfl 52 rfl (tpc dz 0) tt_zero ?_; try rw [size_alloc]; generalize ((w.alloc (.cells #[.int .i64 s, .slice (some ⟨b6, o6, none⟩) (t.length + 1) c] 43)).alloc (.cells (tpc dz 0).toArray 52)) = w1 at HF ⊢) | (refine wpList_load_all rfl _ (.tmp 1) rfl w.heap.size _ (pkc s (.slice (some ⟨b6, o6, none⟩) (t.length + 1) c)) _ rfl HF.out.2.1 Tryd.underlying43 rfl pk_size ?_))
  refine (HW.out _).mono ?_
  rintro e w2 ⟨rfl, hb2⟩
  have F2 := Lib.hid (HF.out.next hb2)
  clear hb2
  have hc0 : w2.cell? ⟨w.heap.size, 0, none⟩ = some (.int .i64 s) := F2.out.2.1.cell 0
  have hc1 : w2.cell? ⟨w.heap.size, 1, none⟩ = some (.slice (some ⟨b6, o6, none⟩) (t.length + 1) c) := F2.out.2.1.cell 1
  go_wp2_with (first | (refine wpList_atD rfl (.tmp 17) (.tmp 21) rfl b6 o6 (t.length + 1) c t.length (by omega) rfl rfl ?_) | (refine wpList_loadD rfl (.tmp 22) rfl b6 (o6 + t.length * 16) rfl x (range_below' HCX.out F2.out.1) ?_) | (refine wpList_var rfl rfl 31 4 rfl rfl rfl (.tmp 23) rfl (zb 16) (dc x) dg_zero rfl rfl (dd_len _) (dd_size _) (dc_one _) ?_; intro x4 K4 D4; have hc2 : x4.cell? ⟨w.heap.size, 1, none⟩ = some (.slice (some ⟨b6, o6, none⟩) (t.length + 1) c) := (F2.out.next D4.out).2.1.cell 1))
  clear hc0 hc1 hc2
  go_loopw [5] (TpR w2 tops fin) (fun v _ => (intOf v + 1).toNat)
  case atStart => exact ⟨t.length, _, x, rfl, by omega, by rw [HNN.out]; omega, K4, D4, HFIN⟩
  case round =>
    clear K4 D4
    obtain ⟨j, z, x2, rfl, hz, hj, HK, HB, HA⟩ := hrel
    rw [HNN.out] at hj
    rcases j with _ | k
    case zero =>
      obtain rfl : z = -1 := by omega
      have hfx : x2 = fin := HA.out
      subst hfx
      have F4 := Lib.hid (F2.out.next HB.out)
      go_wp2_with (first | (refine wpList_loadB rfl (.tmp 4) rfl w2.heap.size x2 rfl HK.out ?_) | (refine wpList_run 40 rfl rfl _ (exec_build1 _ 0 (.tmp 39) rfl (dv x2) _ rfl (run_tt x2 _)) ?_) | (refine wpList_store_all rfl _ (.tmp 2) (.tmp 40) rfl (w.heap.size + 1) _ (tpc dz 0) (tpc x2 0) rfl rfl F4.out.2.2 (by rw [tpc_len, tpc_len]) (tt_size' _ _) (tpc_one _ _) ?_; intro w3 HB3 ho3))
      exact bodyPost_ret (results_blk rfl _ _ (w.heap.size + 1) _ (tpc x2 0) _ rfl HB3.out Tryd.underlying52 rfl (tt_size' _ _)) rfl ⟨rfl, F4.out.1.trans (ho3.below (by omega))⟩
    case succ =>
      obtain rfl : z = (k : Int) := by omega
      obtain ⟨y, hy⟩ : ∃ y, tops[k]? = some y := ⟨tops[k]'(by rw [HNN.out]; omega), List.getElem?_eq_getElem _⟩
      obtain ⟨b7, o7, hb7, hcy⟩ := HR.out.at hy
      injection hb7 with hb7
      injection hb7 with hb8 hb9 _
      subst hb8
      subst hb9
      have hjt := HA.out
      rw [join_take hy] at hjt
      obtain ⟨v, hv⟩ : ∃ v, nodeD y x2 = v := ⟨_, rfl⟩
      rw [hv] at hjt
      have HJT := Lib.hid hjt
      have HV := Lib.hid hv
      have HCY := Lib.hid hcy
      have k0 : (0 : Int) ≤ (k : Int) := by omega
      have k1 : (k : Int) ≤ 64 := by omega
      have d5 : decide ((0 : Int) ≤ (k : Int)) = true := decide_eq_true k0
      have hkn : k < t.length + 1 := by omega
      clear hy hcy hjt hv HA
      go_wp2_with fail
      refine late_begin (S := TillB 7 wr) (by kernel_rfl) ?_
      have hS1 := (Below.refl wr.heap.size wr).drew
      generalize wr.drew = w1 at hS1 ⊢
      have hS0 : ∀ {L}, TillB 7 wr L w1 := fun _ => hS1
      refine late_take [7] (i := 0) (some 32) rfl rfl rfl (by kernel_rfl) (by kernel_rfl) (by kernel_rfl) (by kernel_rfl) (by kernel_rfl) (fun L W h => h.off (by decide)) (.pointer (some ⟨w.heap.size, 1, none⟩)) (fun _ _ _ h => h) (fun L W hl hW => exec_fieldAddr _ (.tmp 1) 1 rfl _ _ rfl (pk_field1 _ W)) hS0 hS0 ?_
      go_frame
      refine late_take [7] (i := 1) (some 33) rfl rfl rfl (by kernel_rfl) (by kernel_rfl) (by kernel_rfl) (by kernel_rfl) (by kernel_rfl) (fun L W h => h.off (by decide)) (.slice (some ⟨b6, o6, none⟩) (t.length + 1) c) (fun _ _ _ h => h) (fun L W hl hW => exec_load 22 (.tmp 32) rfl _ _ rfl (run_load_cell ds_flat ((F2.out.next (HB.out.trans ((hW (hl 7 (by simp))).mono HB.out.size))).2.1.cell 1))) hS0 hS0 ?_
      go_frame
      refine late_take [7] (i := 2) (some 34) rfl rfl rfl (by kernel_rfl) (by kernel_rfl) (by kernel_rfl) (by kernel_rfl) (by kernel_rfl) (fun L W h => h.off (by decide)) (.int .i64 k) (fun _ _ _ h => h) (fun L W hl hW => exec_move (.tmp 5) rfl _ rfl) hS0 hS0 ?_
      go_frame
      refine late_take [7] (i := 3) (some 35) rfl rfl rfl (by kernel_rfl) (by kernel_rfl) (by kernel_rfl) (by kernel_rfl) (by kernel_rfl) (fun L W h => h.off (by decide)) (.pointer (some ⟨b6, o6 + k * 16, none⟩)) (fun _ _ _ h => h) (fun L W hl hW => exec_atD (.tmp 33) (.tmp 34) rfl b6 o6 _ c k hkn rfl rfl) hS0 hS0 ?_
      go_frame
      refine late_take [7] (i := 4) (some 36) rfl rfl rfl (by kernel_rfl) (by kernel_rfl) (by kernel_rfl) (by kernel_rfl) (by kernel_rfl) (fun L W h => h.off (by decide)) (dv y) (fun _ _ _ h => h) (fun L W hl hW => exec_loadD (.tmp 35) rfl _ _ y rfl (range_below' HCY.out (F2.out.next (HB.out.trans ((hW (hl 7 (by simp))).mono HB.out.size))).1)) hS0 hS0 ?_
      go_frame
      refine late_take [7] (i := 5) (some 37) rfl rfl rfl (by kernel_rfl) (by kernel_rfl) (by kernel_rfl) (by kernel_rfl) (by kernel_rfl) (fun L W h => h.off (by decide)) (dv x2) (fun _ _ _ h => h) (fun L W hl hW => exec_loadB (.tmp 4) rfl rfl (HK.out.next (hW (hl 7 (by simp))))) hS0 hS0 ?_
      go_frame
      have hAll : All w1 := HG.out.next (F2.out.next (HB.out.trans (hS1.mono HB.out.size))).1
      refine late_one (i := 6) (by kernel_rfl) (op_call (some 38) rfl rfl rfl rfl Tryd.func20 (by kernel_rfl) (by kernel_rfl) #[dv y, dv x2] rfl (rnode_any y x2 w1 hAll.2.2) ?_)
      rintro e w3 ⟨rfl, hb⟩
      have hS2 := hS1.trans (hb.mono hS1.size)
      rw [HV.out]
      refine ⟨_, rfl, fun _ => hS2, ?_⟩
      go_frame
      refine late_one (i := 7) (by kernel_rfl) (op_store_all rfl rfl rfl 31 (.tmp 4) (.tmp 38) rfl w2.heap.size 31 (dc x2) (dc v) rfl rfl (HK.out.next hS2) (dd_len2 _ _) (dd_size _) (dc_one _) ?_)
      intro w4 hk4 ho4
      refine ⟨fun h => absurd h (by decide), late_done (by kernel_rfl) ?_ _⟩
      go_frame
      have HK4 := Lib.hid hk4
      have HB4 := Lib.hid ((HB.out.trans (hS2.mono HB.out.size)).trans (ho4.below (Nat.le_refl _)))
      clear hS1 hS0 hAll hb hS2 hk4 ho4 HK HB
      go_wp2
      go_roundw
      case rel => exact ⟨k, _, v, rfl, by omega, by rw [HNN.out]; omega, HK4, HB4, HJT⟩
      case measure => simp [intOf]
end Go.Proofs.YtfbemmeonkceiaaDoor
