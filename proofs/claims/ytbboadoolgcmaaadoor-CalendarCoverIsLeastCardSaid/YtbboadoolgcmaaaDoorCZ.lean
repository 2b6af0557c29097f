/- The walk of CalendarCoverIsLeast. -/
import Derived.Test.YtbboadoolgcmaaaDoorCY
namespace Go.Proofs.YtbboadoolgcmaaaDoor
open Go.RowKit Hm Wm Cm

set_option maxRecDepth 1000000 in
set_option maxHeartbeats 1000000 in
theorem least_a (x y a b : Int) (F T : Nat) (L : List I3) (A : Option Addr) (c : Nat) (w : World) (hL : Lens w) (hr : RdB w A L) (hx : 0 ≤ x ∧ x ≤ 4294967295) (hy : 0 ≤ y ∧ y ≤ 4294967295) (ha : x % 1402561 = a) (hb : y % 1402561 = b) (hmi : min a b = (F : Int)) (hma : max a b = (T : Int)) (hFT : F ≤ T) (hTM : T ≤ M) (hc4 : 400 < L.length) : Calls Tryd.prog 8 #[.agg #[.int .u32 x, .int .u32 y], .slice A L.length c] w fun e w' => e = .returned (.bool true) ∧ Below w.heap.size w w' := by
  obtain ⟨W1, hW1⟩ : ∃ W, W = w.alloc (.cells #[.int .u32 x, .int .u32 y] 64) := ⟨_, rfl⟩
  have hb1 := (Below.refl w.heap.size w).alloc (Nat.le_refl _) (.cells #[.int .u32 x, .int .u32 y] 64)
  have hx1 := Blk.new w 64 [.int .u32 x, .int .u32 y]
  have hx1' : Blk W1 w.heap.size 64 [.int .u32 x, .int .u32 y] := by rw [hW1]; exact hx1
  rw [← hW1] at hb1
  have HN := Lib.hid (hL.next hb1)
  have HW := Lib.hid hb1
  have HX2 := Lib.hid hx1'
  have HRD := Lib.hid (hr.below hb1)
  have FS := Lib.hid (fun W h => sanity_any W h)
  have F31 := Lib.hid (fun W h => Cover_yes F T W hFT hTM h)
  obtain ⟨G, hG⟩ : ∃ G, g 4 F T = G := ⟨_, rfl⟩
  have hgr := g_gr (N := 4) hFT hTM
  have hlen := len_gen 4 (by omega) F T hFT hTM (by omega)
  rw [hG] at F31 hgr hlen
  have hfc := fol_cover hgr (by omega) hTM
  have HG := Lib.hid hgr
  have FB := Lib.hid (fun (W : World) (B : Option Addr) (cB : Nat) (h : Lens W) (hr : RdB W B (G.map toI)) => follows_any (G.map toI) B cB F T W h hr (by rw [List.length_map]; omega))
  rw [hfc, List.length_map] at FB
  have HA := Lib.hid ha
  have HB1 := Lib.hid hb
  have HMI := Lib.hid hmi
  have HMA := Lib.hid hma
  have HX := Lib.hid hx
  have HY := Lib.hid hy
  have HTM := Lib.hid hTM
  have c180 : decide ((180 : Int) < (G.length : Int)) = false := decide_eq_false (by omega)
  have c180b : ¬ 180 < G.length := by omega
  have c400 : decide ((400 : Int) < (L.length : Int)) = true := decide_eq_true (by omega)
  clear hL hr hb1 hx1 hx1' hgr hfc hG ha hb hmi hma hx hy hTM
  go_enter Tryd.func8, Tryd.ntmps8
  go_wp2_with fail
  rw [← hW1]
  clear hW1
  refine late_begin (S := fun _ W => Blk W w.heap.size 64 [.int .u32 x, .int .u32 y]) (by kernel_rfl) ?_
  have hN0 := (show Lens W1.drew from HN.out)
  have hW0 := HW.out.drew
  have hX20 := HX2.out.drew
  have hRD0 := HRD.out.below (Below.refl _ _).drew
  generalize W1.drew = u0 at hN0 hW0 hX20 hRD0 ⊢
  clear HN HW HX2 HRD
  refine late_take [] (i := 0) (some 14) rfl rfl (by first | rfl | kernel_rfl) (by kernel_rfl) (by kernel_rfl) (by kernel_rfl) (by kernel_rfl) (by kernel_rfl) (fun Ls W h => h) (.pointer (some ⟨w.heap.size, 0, none⟩)) (fun _ _ _ h => h) (fun Ls W hl0 hW => exec_indexAddr 64 (.tmp 2) (.const (.int .i64 0)) rfl _ _ _ rfl rfl (u2_at0 _ _)) hX20 hX20 ?_
  go_frame
  refine late_take [] (i := 1) (some 15) rfl rfl (by first | rfl | kernel_rfl) (by kernel_rfl) (by kernel_rfl) (by kernel_rfl) (by kernel_rfl) (by kernel_rfl) (fun Ls W h => h) (.int .u32 x) (fun _ _ _ h => h) (fun Ls W hl0 hW => exec_loadU (.tmp 14) rfl (.int .u32 x) rfl (hW.cell 0)) hX20 hX20 ?_
  go_frame
  refine late_take [] (i := 2) (some 16) rfl rfl (by first | rfl | kernel_rfl) (by kernel_rfl) (by kernel_rfl) (by kernel_rfl) (by kernel_rfl) (by kernel_rfl) (fun Ls W h => h) (.int .i64 x) (fun _ _ _ h => h) (fun Ls W hl0 hW => exec_convert _ _ (.tmp 15) rfl _ _ rfl (conv_tick x HX.out.1 HX.out.2 _)) hX20 hX20 ?_
  go_frame
  refine late_take [] (i := 3) (some 17) rfl rfl (by first | rfl | kernel_rfl) (by kernel_rfl) (by kernel_rfl) (by kernel_rfl) (by kernel_rfl) (by kernel_rfl) (fun Ls W h => h) (.int .i64 a) (fun _ _ _ h => h) (fun Ls W hl0 hW => exec_bin .rem _ _ (.tmp 16) (.const (.int .i64 1402561)) rfl _ _ _ rfl rfl (by simp [go_sem]) (rem_tick x a HX.out.1 HA.out _)) hX20 hX20 ?_
  go_frame
  refine late_take [] (i := 4) (some 18) rfl rfl (by first | rfl | kernel_rfl) (by kernel_rfl) (by kernel_rfl) (by kernel_rfl) (by kernel_rfl) (by kernel_rfl) (fun Ls W h => h) (.pointer (some ⟨w.heap.size, 1, none⟩)) (fun _ _ _ h => h) (fun Ls W hl0 hW => exec_indexAddr 64 (.tmp 2) (.const (.int .i64 1)) rfl _ _ _ rfl rfl (u2_at1 _ _)) hX20 hX20 ?_
  go_frame
  refine late_take [] (i := 5) (some 19) rfl rfl (by first | rfl | kernel_rfl) (by kernel_rfl) (by kernel_rfl) (by kernel_rfl) (by kernel_rfl) (by kernel_rfl) (fun Ls W h => h) (.int .u32 y) (fun _ _ _ h => h) (fun Ls W hl0 hW => exec_loadU (.tmp 18) rfl (.int .u32 y) rfl (hW.cell 1)) hX20 hX20 ?_
  go_frame
  refine late_take [] (i := 6) (some 20) rfl rfl (by first | rfl | kernel_rfl) (by kernel_rfl) (by kernel_rfl) (by kernel_rfl) (by kernel_rfl) (by kernel_rfl) (fun Ls W h => h) (.int .i64 y) (fun _ _ _ h => h) (fun Ls W hl0 hW => exec_convert _ _ (.tmp 19) rfl _ _ rfl (conv_tick y HY.out.1 HY.out.2 _)) hX20 hX20 ?_
  go_frame
  refine late_take [] (i := 7) (some 21) rfl rfl (by first | rfl | kernel_rfl) (by kernel_rfl) (by kernel_rfl) (by kernel_rfl) (by kernel_rfl) (by kernel_rfl) (fun Ls W h => h) (.int .i64 b) (fun _ _ _ h => h) (fun Ls W hl0 hW => exec_bin .rem _ _ (.tmp 20) (.const (.int .i64 1402561)) rfl _ _ _ rfl rfl (by simp [go_sem]) (rem_tick y b HY.out.1 HB1.out _)) hX20 hX20 ?_
  go_frame
  refine late_one (i := 8) (by kernel_rfl) (op_valueG (some 5) rfl rfl (by first | rfl | kernel_rfl) (.int .i64 a) (exec_assign (.tmp 17) rfl _ rfl) ⟨hX20, ?_⟩)
  go_frame
  refine late_one (i := 9) (by kernel_rfl) (op_valueG (some 6) rfl rfl (by first | rfl | kernel_rfl) (.int .i64 b) (exec_assign (.tmp 21) rfl _ rfl) ⟨hX20, late_done (by kernel_rfl) ?_ _⟩)
  go_frame
  have HN := Lib.hid hN0
  have HW := Lib.hid hW0
  have HX2 := Lib.hid hX20
  have HRD := Lib.hid hRD0
  clear hN0 hW0 hX20 hRD0
  go_wp2_with (first | (refine wpList_dst 24 rfl ?_; refine wpList_run 24 rfl rfl _ (exec_min (.tmp 22) (.tmp 23) _ rfl .i64 a b (F : Int) rfl rfl HMI.out) ?_; go_frame) | (refine wpList_dst 27 rfl ?_; refine wpList_run 27 rfl rfl _ (exec_max (.tmp 25) (.tmp 26) _ rfl .i64 a b (T : Int) rfl rfl HMA.out) ?_; go_frame))
  refine (F31.out _ HN.out).mono ?_
  rintro e w1 ⟨⟨v, rfl, hr⟩, hb⟩
  replace HN := Lib.hid (HN.out.next hb)
  replace HW := Lib.hid (HW.out.trans (hb.mono HW.out.size))
  replace HX2 := Lib.hid (HX2.out.next hb)
  replace HRD := Lib.hid (HRD.out.below hb)
  obtain ⟨B, cB, rfl, hc, hrd⟩ := hr.reads
  have HRB := Lib.hid hrd
  clear hr hrd
  clear hb
  go_wp2_with fail
  refine (FB.out _ _ _ HN.out HRB.out).mono ?_
  rintro e w2 ⟨rfl, hb⟩
  replace HN := Lib.hid (HN.out.next hb)
  replace HW := Lib.hid (HW.out.trans (hb.mono HW.out.size))
  replace HX2 := Lib.hid (HX2.out.next hb)
  replace HRD := Lib.hid (HRD.out.below hb)
  replace HRB := Lib.hid (HRB.out.below hb)
  clear hb
  go_wp2_with fail
  refine (FS.out _ HN.out).mono ?_
  rintro e w3 ⟨rfl, hb⟩
  replace HN := Lib.hid (HN.out.next hb)
  replace HW := Lib.hid (HW.out.trans (hb.mono HW.out.size))
  replace HX2 := Lib.hid (HX2.out.next hb)
  replace HRD := Lib.hid (HRD.out.below hb)
  replace HRB := Lib.hid (HRB.out.below hb)
  clear hb
  go_wp2
  go_ret
  exact ⟨rfl, HW.out⟩
set_option maxRecDepth 1000000 in
set_option maxHeartbeats 1000000 in
theorem least_b (x y a b : Int) (F T : Nat) (L : List I3) (A : Option Addr) (c : Nat) (w : World) (hL : Lens w) (hr : RdB w A L) (hx : 0 ≤ x ∧ x ≤ 4294967295) (hy : 0 ≤ y ∧ y ≤ 4294967295) (ha : x % 1402561 = a) (hb : y % 1402561 = b) (hmi : min a b = (F : Int)) (hma : max a b = (T : Int)) (hFT : F ≤ T) (hTM : T ≤ M) (hc4 : L.length ≤ 400) (hfo : fol L F T = false) : Calls Tryd.prog 8 #[.agg #[.int .u32 x, .int .u32 y], .slice A L.length c] w fun e w' => e = .returned (.bool true) ∧ Below w.heap.size w w' := by
  obtain ⟨W1, hW1⟩ : ∃ W, W = w.alloc (.cells #[.int .u32 x, .int .u32 y] 64) := ⟨_, rfl⟩
  have hb1 := (Below.refl w.heap.size w).alloc (Nat.le_refl _) (.cells #[.int .u32 x, .int .u32 y] 64)
  have hx1 := Blk.new w 64 [.int .u32 x, .int .u32 y]
  have hx1' : Blk W1 w.heap.size 64 [.int .u32 x, .int .u32 y] := by rw [hW1]; exact hx1
  rw [← hW1] at hb1
  have HN := Lib.hid (hL.next hb1)
  have HW := Lib.hid hb1
  have HX2 := Lib.hid hx1'
  have HRD := Lib.hid (hr.below hb1)
  have FS := Lib.hid (fun W h => sanity_any W h)
  have F31 := Lib.hid (fun W h => Cover_yes F T W hFT hTM h)
  obtain ⟨G, hG⟩ : ∃ G, g 4 F T = G := ⟨_, rfl⟩
  have hgr := g_gr (N := 4) hFT hTM
  have hlen := len_gen 4 (by omega) F T hFT hTM (by omega)
  rw [hG] at F31 hgr hlen
  have hfc := fol_cover hgr (by omega) hTM
  have HG := Lib.hid hgr
  have FB := Lib.hid (fun (W : World) (B : Option Addr) (cB : Nat) (h : Lens W) (hr : RdB W B (G.map toI)) => follows_any (G.map toI) B cB F T W h hr (by rw [List.length_map]; omega))
  rw [hfc, List.length_map] at FB
  have HA := Lib.hid ha
  have HB1 := Lib.hid hb
  have HMI := Lib.hid hmi
  have HMA := Lib.hid hma
  have HX := Lib.hid hx
  have HY := Lib.hid hy
  have HTM := Lib.hid hTM
  have FL := Lib.hid (fun (W : World) (h : Lens W) (hr : RdB W A L) => follows_any L A c F T W h hr (by omega))
  rw [hfo] at FL
  have c180 : decide ((180 : Int) < (G.length : Int)) = false := decide_eq_false (by omega)
  have c180b : ¬ 180 < G.length := by omega
  have c400 : decide ((400 : Int) < (L.length : Int)) = false := decide_eq_false (by omega)
  have c400b : ¬ 400 < L.length := by omega
  clear hL hr hb1 hx1 hx1' hgr hfc hG ha hb hmi hma hx hy hTM hfo
  go_enter Tryd.func8, Tryd.ntmps8
  go_wp2_with fail
  rw [← hW1]
  clear hW1
  refine late_begin (S := fun _ W => Blk W w.heap.size 64 [.int .u32 x, .int .u32 y]) (by kernel_rfl) ?_
  have hN0 := (show Lens W1.drew from HN.out)
  have hW0 := HW.out.drew
  have hX20 := HX2.out.drew
  have hRD0 := HRD.out.below (Below.refl _ _).drew
  generalize W1.drew = u0 at hN0 hW0 hX20 hRD0 ⊢
  clear HN HW HX2 HRD
  refine late_take [] (i := 0) (some 14) rfl rfl (by first | rfl | kernel_rfl) (by kernel_rfl) (by kernel_rfl) (by kernel_rfl) (by kernel_rfl) (by kernel_rfl) (fun Ls W h => h) (.pointer (some ⟨w.heap.size, 0, none⟩)) (fun _ _ _ h => h) (fun Ls W hl0 hW => exec_indexAddr 64 (.tmp 2) (.const (.int .i64 0)) rfl _ _ _ rfl rfl (u2_at0 _ _)) hX20 hX20 ?_
  go_frame
  refine late_take [] (i := 1) (some 15) rfl rfl (by first | rfl | kernel_rfl) (by kernel_rfl) (by kernel_rfl) (by kernel_rfl) (by kernel_rfl) (by kernel_rfl) (fun Ls W h => h) (.int .u32 x) (fun _ _ _ h => h) (fun Ls W hl0 hW => exec_loadU (.tmp 14) rfl (.int .u32 x) rfl (hW.cell 0)) hX20 hX20 ?_
  go_frame
  refine late_take [] (i := 2) (some 16) rfl rfl (by first | rfl | kernel_rfl) (by kernel_rfl) (by kernel_rfl) (by kernel_rfl) (by kernel_rfl) (by kernel_rfl) (fun Ls W h => h) (.int .i64 x) (fun _ _ _ h => h) (fun Ls W hl0 hW => exec_convert _ _ (.tmp 15) rfl _ _ rfl (conv_tick x HX.out.1 HX.out.2 _)) hX20 hX20 ?_
  go_frame
  refine late_take [] (i := 3) (some 17) rfl rfl (by first | rfl | kernel_rfl) (by kernel_rfl) (by kernel_rfl) (by kernel_rfl) (by kernel_rfl) (by kernel_rfl) (fun Ls W h => h) (.int .i64 a) (fun _ _ _ h => h) (fun Ls W hl0 hW => exec_bin .rem _ _ (.tmp 16) (.const (.int .i64 1402561)) rfl _ _ _ rfl rfl (by simp [go_sem]) (rem_tick x a HX.out.1 HA.out _)) hX20 hX20 ?_
  go_frame
  refine late_take [] (i := 4) (some 18) rfl rfl (by first | rfl | kernel_rfl) (by kernel_rfl) (by kernel_rfl) (by kernel_rfl) (by kernel_rfl) (by kernel_rfl) (fun Ls W h => h) (.pointer (some ⟨w.heap.size, 1, none⟩)) (fun _ _ _ h => h) (fun Ls W hl0 hW => exec_indexAddr 64 (.tmp 2) (.const (.int .i64 1)) rfl _ _ _ rfl rfl (u2_at1 _ _)) hX20 hX20 ?_
  go_frame
  refine late_take [] (i := 5) (some 19) rfl rfl (by first | rfl | kernel_rfl) (by kernel_rfl) (by kernel_rfl) (by kernel_rfl) (by kernel_rfl) (by kernel_rfl) (fun Ls W h => h) (.int .u32 y) (fun _ _ _ h => h) (fun Ls W hl0 hW => exec_loadU (.tmp 18) rfl (.int .u32 y) rfl (hW.cell 1)) hX20 hX20 ?_
  go_frame
  refine late_take [] (i := 6) (some 20) rfl rfl (by first | rfl | kernel_rfl) (by kernel_rfl) (by kernel_rfl) (by kernel_rfl) (by kernel_rfl) (by kernel_rfl) (fun Ls W h => h) (.int .i64 y) (fun _ _ _ h => h) (fun Ls W hl0 hW => exec_convert _ _ (.tmp 19) rfl _ _ rfl (conv_tick y HY.out.1 HY.out.2 _)) hX20 hX20 ?_
  go_frame
  refine late_take [] (i := 7) (some 21) rfl rfl (by first | rfl | kernel_rfl) (by kernel_rfl) (by kernel_rfl) (by kernel_rfl) (by kernel_rfl) (by kernel_rfl) (fun Ls W h => h) (.int .i64 b) (fun _ _ _ h => h) (fun Ls W hl0 hW => exec_bin .rem _ _ (.tmp 20) (.const (.int .i64 1402561)) rfl _ _ _ rfl rfl (by simp [go_sem]) (rem_tick y b HY.out.1 HB1.out _)) hX20 hX20 ?_
  go_frame
  refine late_one (i := 8) (by kernel_rfl) (op_valueG (some 5) rfl rfl (by first | rfl | kernel_rfl) (.int .i64 a) (exec_assign (.tmp 17) rfl _ rfl) ⟨hX20, ?_⟩)
  go_frame
  refine late_one (i := 9) (by kernel_rfl) (op_valueG (some 6) rfl rfl (by first | rfl | kernel_rfl) (.int .i64 b) (exec_assign (.tmp 21) rfl _ rfl) ⟨hX20, late_done (by kernel_rfl) ?_ _⟩)
  go_frame
  have HN := Lib.hid hN0
  have HW := Lib.hid hW0
  have HX2 := Lib.hid hX20
  have HRD := Lib.hid hRD0
  clear hN0 hW0 hX20 hRD0
  go_wp2_with (first | (refine wpList_dst 24 rfl ?_; refine wpList_run 24 rfl rfl _ (exec_min (.tmp 22) (.tmp 23) _ rfl .i64 a b (F : Int) rfl rfl HMI.out) ?_; go_frame) | (refine wpList_dst 27 rfl ?_; refine wpList_run 27 rfl rfl _ (exec_max (.tmp 25) (.tmp 26) _ rfl .i64 a b (T : Int) rfl rfl HMA.out) ?_; go_frame))
  refine (F31.out _ HN.out).mono ?_
  rintro e w1 ⟨⟨v, rfl, hr⟩, hb⟩
  replace HN := Lib.hid (HN.out.next hb)
  replace HW := Lib.hid (HW.out.trans (hb.mono HW.out.size))
  replace HX2 := Lib.hid (HX2.out.next hb)
  replace HRD := Lib.hid (HRD.out.below hb)
  obtain ⟨B, cB, rfl, hc, hrd⟩ := hr.reads
  have HRB := Lib.hid hrd
  clear hr hrd
  clear hb
  go_wp2_with fail
  refine (FB.out _ _ _ HN.out HRB.out).mono ?_
  rintro e w2 ⟨rfl, hb⟩
  replace HN := Lib.hid (HN.out.next hb)
  replace HW := Lib.hid (HW.out.trans (hb.mono HW.out.size))
  replace HX2 := Lib.hid (HX2.out.next hb)
  replace HRD := Lib.hid (HRD.out.below hb)
  replace HRB := Lib.hid (HRB.out.below hb)
  clear hb
  go_wp2_with fail
  refine (FL.out _ HN.out HRD.out).mono ?_
  rintro e w3 ⟨rfl, hb⟩
  replace HN := Lib.hid (HN.out.next hb)
  replace HW := Lib.hid (HW.out.trans (hb.mono HW.out.size))
  replace HX2 := Lib.hid (HX2.out.next hb)
  replace HRD := Lib.hid (HRD.out.below hb)
  replace HRB := Lib.hid (HRB.out.below hb)
  clear hb
  go_wp2_with fail
  refine (FS.out _ HN.out).mono ?_
  rintro e w4 ⟨rfl, hb⟩
  replace HN := Lib.hid (HN.out.next hb)
  replace HW := Lib.hid (HW.out.trans (hb.mono HW.out.size))
  replace HX2 := Lib.hid (HX2.out.next hb)
  replace HRD := Lib.hid (HRD.out.below hb)
  replace HRB := Lib.hid (HRB.out.below hb)
  clear hb
  go_wp2
  go_ret
  exact ⟨rfl, HW.out⟩
end Go.Proofs.YtbboadoolgcmaaaDoor
