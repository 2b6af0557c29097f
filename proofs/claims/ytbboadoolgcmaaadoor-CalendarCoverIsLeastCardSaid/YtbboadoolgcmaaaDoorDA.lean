/- The walk of CalendarCoverIsLeast: the loop. -/
import Derived.Test.YtbboadoolgcmaaaDoorCZ
namespace Go.Proofs.YtbboadoolgcmaaaDoor
open Go.RowKit Hm Wm Cm

set_option maxRecDepth 1000000 in
set_option maxHeartbeats 1000000 in
theorem least_c (x y a b : Int) (F T : Nat) (L : List I3) (A : Option Addr) (c : Nat) (w : World) (hL : Lens w) (hr : RdB w A L) (hx : 0 ≤ x ∧ x ≤ 4294967295) (hy : 0 ≤ y ∧ y ≤ 4294967295) (ha : x % 1402561 = a) (hb : y % 1402561 = b) (hmi : min a b = (F : Int)) (hma : max a b = (T : Int)) (hFT : F ≤ T) (hTM : T ≤ M) (hc4 : L.length ≤ 400) (hfo : fol L F T = true) : Calls Tryd.prog 8 #[.agg #[.int .u32 x, .int .u32 y], .slice A L.length c] w fun e w' => e = .returned (.bool true) ∧ Below w.heap.size w w' := by
  obtain ⟨W1, hW1⟩ : ∃ W, W = w.alloc (.cells #[.int .u32 x, .int .u32 y] 64) := ⟨_, rfl⟩
  have hb1 := (Below.refl w.heap.size w).alloc (Nat.le_refl _) (.cells #[.int .u32 x, .int .u32 y] 64)
  have hx1 := Blk.new w 64 [.int .u32 x, .int .u32 y]
  have hx1' : Blk W1 w.heap.size 64 [.int .u32 x, .int .u32 y] := by rw [hW1]; exact hx1
  rw [← hW1] at hb1
  have HN := Lib.hid (hL.next hb1)
  have HW := Lib.hid hb1
  have HX2 := Lib.hid hx1'
  have HRD := Lib.hid (hr.below hb1)
  have FS := Lib.hid (fun W h => sanity_any W h)
  have F31 := Lib.hid (fun W h => Cover_yes F T W hFT hTM h)
  obtain ⟨G, hG⟩ : ∃ G, g 4 F T = G := ⟨_, rfl⟩
  have hgr := g_gr (N := 4) hFT hTM
  have hlen := len_gen 4 (by omega) F T hFT hTM (by omega)
  rw [hG] at F31 hgr hlen
  have hfc := fol_cover hgr (by omega) hTM
  have HG := Lib.hid hgr
  have FB := Lib.hid (fun (W : World) (B : Option Addr) (cB : Nat) (h : Lens W) (hr : RdB W B (G.map toI)) => follows_any (G.map toI) B cB F T W h hr (by rw [List.length_map]; omega))
  rw [hfc, List.length_map] at FB
  have HA := Lib.hid ha
  have HB1 := Lib.hid hb
  have HMI := Lib.hid hmi
  have HMA := Lib.hid hma
  have HX := Lib.hid hx
  have HY := Lib.hid hy
  have HTM := Lib.hid hTM
  have FL := Lib.hid (fun (W : World) (h : Lens W) (hr : RdB W A L) => follows_any L A c F T W h hr (by omega))
  rw [hfo] at FL
  have c180 : decide ((180 : Int) < (G.length : Int)) = false := decide_eq_false (by omega)
  have c180b : ¬ 180 < G.length := by omega
  have c400 : decide ((400 : Int) < (L.length : Int)) = false := decide_eq_false (by omega)
  have c400b : ¬ 400 < L.length := by omega
  clear hL hr hb1 hx1 hx1' hgr hfc hG ha hb hmi hma hx hy hTM
  have HFO := Lib.hid hfo
  clear hfo
  go_enter Tryd.func8, Tryd.ntmps8
  go_wp2_with fail
  rw [← hW1]
  clear hW1
  refine late_begin (S := fun _ W => Blk W w.heap.size 64 [.int .u32 x, .int .u32 y]) (by kernel_rfl) ?_
  have hN0 := (show Lens W1.drew from HN.out)
  have hW0 := HW.out.drew
  have hX20 := HX2.out.drew
  have hRD0 := HRD.out.below (Below.refl _ _).drew
  generalize W1.drew = u0 at hN0 hW0 hX20 hRD0 ⊢
  clear HN HW HX2 HRD
  refine late_take [] (i := 0) (some 14) rfl rfl (by first | rfl | kernel_rfl) (by kernel_rfl) (by kernel_rfl) (by kernel_rfl) (by kernel_rfl) (by kernel_rfl) (fun Ls W h => h) (.pointer (some ⟨w.heap.size, 0, none⟩)) (fun _ _ _ h => h) (fun Ls W hl0 hW => exec_indexAddr 64 (.tmp 2) (.const (.int .i64 0)) rfl _ _ _ rfl rfl (u2_at0 _ _)) hX20 hX20 ?_
  go_frame
  refine late_take [] (i := 1) (some 15) rfl rfl (by first | rfl | kernel_rfl) (by kernel_rfl) (by kernel_rfl) (by kernel_rfl) (by kernel_rfl) (by kernel_rfl) (fun Ls W h => h) (.int .u32 x) (fun _ _ _ h => h) (fun Ls W hl0 hW => exec_loadU (.tmp 14) rfl (.int .u32 x) rfl (hW.cell 0)) hX20 hX20 ?_
  go_frame
  refine late_take [] (i := 2) (some 16) rfl rfl (by first | rfl | kernel_rfl) (by kernel_rfl) (by kernel_rfl) (by kernel_rfl) (by kernel_rfl) (by kernel_rfl) (fun Ls W h => h) (.int .i64 x) (fun _ _ _ h => h) (fun Ls W hl0 hW => exec_convert _ _ (.tmp 15) rfl _ _ rfl (conv_tick x HX.out.1 HX.out.2 _)) hX20 hX20 ?_
  go_frame
  refine late_take [] (i := 3) (some 17) rfl rfl (by first | rfl | kernel_rfl) (by kernel_rfl) (by kernel_rfl) (by kernel_rfl) (by kernel_rfl) (by kernel_rfl) (fun Ls W h => h) (.int .i64 a) (fun _ _ _ h => h) (fun Ls W hl0 hW => exec_bin .rem _ _ (.tmp 16) (.const (.int .i64 1402561)) rfl _ _ _ rfl rfl (by simp [go_sem]) (rem_tick x a HX.out.1 HA.out _)) hX20 hX20 ?_
  go_frame
  refine late_take [] (i := 4) (some 18) rfl rfl (by first | rfl | kernel_rfl) (by kernel_rfl) (by kernel_rfl) (by kernel_rfl) (by kernel_rfl) (by kernel_rfl) (fun Ls W h => h) (.pointer (some ⟨w.heap.size, 1, none⟩)) (fun _ _ _ h => h) (fun Ls W hl0 hW => exec_indexAddr 64 (.tmp 2) (.const (.int .i64 1)) rfl _ _ _ rfl rfl (u2_at1 _ _)) hX20 hX20 ?_
  go_frame
  refine late_take [] (i := 5) (some 19) rfl rfl (by first | rfl | kernel_rfl) (by kernel_rfl) (by kernel_rfl) (by kernel_rfl) (by kernel_rfl) (by kernel_rfl) (fun Ls W h => h) (.int .u32 y) (fun _ _ _ h => h) (fun Ls W hl0 hW => exec_loadU (.tmp 18) rfl (.int .u32 y) rfl (hW.cell 1)) hX20 hX20 ?_
  go_frame
  refine late_take [] (i := 6) (some 20) rfl rfl (by first | rfl | kernel_rfl) (by kernel_rfl) (by kernel_rfl) (by kernel_rfl) (by kernel_rfl) (by kernel_rfl) (fun Ls W h => h) (.int .i64 y) (fun _ _ _ h => h) (fun Ls W hl0 hW => exec_convert _ _ (.tmp 19) rfl _ _ rfl (conv_tick y HY.out.1 HY.out.2 _)) hX20 hX20 ?_
  go_frame
  refine late_take [] (i := 7) (some 21) rfl rfl (by first | rfl | kernel_rfl) (by kernel_rfl) (by kernel_rfl) (by kernel_rfl) (by kernel_rfl) (by kernel_rfl) (fun Ls W h => h) (.int .i64 b) (fun _ _ _ h => h) (fun Ls W hl0 hW => exec_bin .rem _ _ (.tmp 20) (.const (.int .i64 1402561)) rfl _ _ _ rfl rfl (by simp [go_sem]) (rem_tick y b HY.out.1 HB1.out _)) hX20 hX20 ?_
  go_frame
  refine late_one (i := 8) (by kernel_rfl) (op_valueG (some 5) rfl rfl (by first | rfl | kernel_rfl) (.int .i64 a) (exec_assign (.tmp 17) rfl _ rfl) ⟨hX20, ?_⟩)
  go_frame
  refine late_one (i := 9) (by kernel_rfl) (op_valueG (some 6) rfl rfl (by first | rfl | kernel_rfl) (.int .i64 b) (exec_assign (.tmp 21) rfl _ rfl) ⟨hX20, late_done (by kernel_rfl) ?_ _⟩)
  go_frame
  have HN := Lib.hid hN0
  have HW := Lib.hid hW0
  have HX2 := Lib.hid hX20
  have HRD := Lib.hid hRD0
  clear hN0 hW0 hX20 hRD0
  go_wp2_with (first | (refine wpList_dst 24 rfl ?_; refine wpList_run 24 rfl rfl _ (exec_min (.tmp 22) (.tmp 23) _ rfl .i64 a b (F : Int) rfl rfl HMI.out) ?_; go_frame) | (refine wpList_dst 27 rfl ?_; refine wpList_run 27 rfl rfl _ (exec_max (.tmp 25) (.tmp 26) _ rfl .i64 a b (T : Int) rfl rfl HMA.out) ?_; go_frame))
  refine (F31.out _ HN.out).mono ?_
  rintro e w1 ⟨⟨v, rfl, hr⟩, hb⟩
  replace HN := Lib.hid (HN.out.next hb)
  replace HW := Lib.hid (HW.out.trans (hb.mono HW.out.size))
  replace HX2 := Lib.hid (HX2.out.next hb)
  replace HRD := Lib.hid (HRD.out.below hb)
  obtain ⟨B, cB, rfl, hc, hrd⟩ := hr.reads
  have HRB := Lib.hid hrd
  clear hr hrd
  clear hb
  go_wp2_with fail
  refine (FB.out _ _ _ HN.out HRB.out).mono ?_
  rintro e w2 ⟨rfl, hb⟩
  replace HN := Lib.hid (HN.out.next hb)
  replace HW := Lib.hid (HW.out.trans (hb.mono HW.out.size))
  replace HX2 := Lib.hid (HX2.out.next hb)
  replace HRD := Lib.hid (HRD.out.below hb)
  replace HRB := Lib.hid (HRB.out.below hb)
  clear hb
  go_wp2_with fail
  refine (FL.out _ HN.out HRD.out).mono ?_
  rintro e w3 ⟨rfl, hb⟩
  replace HN := Lib.hid (HN.out.next hb)
  replace HW := Lib.hid (HW.out.trans (hb.mono HW.out.size))
  replace HX2 := Lib.hid (HX2.out.next hb)
  replace HRD := Lib.hid (HRD.out.below hb)
  replace HRB := Lib.hid (HRB.out.below hb)
  clear hb
  go_wp2_with fail
  go_loopw [11, 61] (fun av iv wr => ∃ k i p : Nat, iv = .int .i64 k ∧ k ≤ L.length ∧ av = .int .i64 i ∧ i ≤ k ∧ Hid (fol (L.drop k) p T = true) ∧ Hid (At G F k i p) ∧ Hid (RdB wr A L) ∧ Hid (RdB wr B (G.map toI)) ∧ Hid (Lens wr) ∧ Hid (Below w.heap.size w wr)) (fun _ iv _ => L.length - (intOf iv).toNat)
  case atStart => exact ⟨0, 0, F, rfl, Nat.zero_le _, rfl, Nat.le_refl _, HFO, Lib.hid (.inl ⟨rfl, rfl, rfl⟩), HRD, HRB, HN, HW⟩
  case round =>
    clear HRD HRB HN HW HFO HX2
    obtain ⟨k, i, p, rfl, hk, rfl, hik, hfo, hat, HRD, HRB, HN, HW⟩ := hrel
    by_cases hlt : k < L.length
    · obtain ⟨x9, hx9⟩ : ∃ x, L[k]? = some x := ⟨L[k], List.getElem?_eq_getElem hlt⟩
      obtain ⟨K, q, rfl, hK, hpM, hfK, hnK, hpq, hqT, hfo'⟩ := fol_step hx9 hfo.out
      obtain ⟨b9, o9, rfl, hr9⟩ := HRD.out.at (k := k) (x := ((K : Int), (p : Int), (q : Int))) hx9
      have HR9 : Hid (World.rangeAt wr b9 (o9 + k * 3) (b3 (K : Int) (p : Int) (q : Int))) := Lib.hid hr9
      obtain ⟨i2, xb, hxb, h1, h2, h3, h4⟩ := hat.out.step HG.out HTM.out (by omega)
      have hnx := At.next HG.out HTM.out hxb h1 h2 h3 hK hfK (by rw [hnK]; exact hqT)
      rw [hnK] at hnx
      obtain ⟨hq2, hat2⟩ := hnx
      have HAT := Lib.hid hat2
      have HFO := Lib.hid hfo'
      have HXB := Lib.hid hxb
      have H4 := Lib.hid h4
      have H1 := Lib.hid h1
      have H2 := Lib.hid h2
      have HQ2 := Lib.hid hq2
      have hq63 : q ≤ 1402560 := by have := HTM.out; have : M = 1402560 := rfl; omega
      have hp63 : p ≤ 1402560 := by omega
      obtain ⟨bB, oB, rfl, -⟩ := HRB.out.at (k := i2) (x := toI xb) (by rw [List.getElem?_map, hxb]; rfl)
      clear hx9 hr9 hfo hat hfo' hfK hnK h1 h2 h4 hat2 hq2 hxb hpM
      go_wp2_with (first | (refine wpList_dst 63 rfl ?_; refine wpList_run 63 rfl rfl _ (exec_atB (.tmp 59) (.tmp 61) rfl b9 o9 _ c k hlt rfl rfl) ?_; go_frame) | (refine wpList_dst 64 rfl ?_; refine wpList_run 64 rfl rfl _ (exec_load 38 (.tmp 63) rfl _ _ rfl (run_loadAt_mid _ b9 (o9 + k * 3) _ (b3 (K : Int) (p : Int) (q : Int)) _ HR9.out bin_under rfl bn_size)) ?_; go_frame) | (refine wpList_var rfl rfl 38 13 rfl rfl rfl (.tmp 64) rfl bZ (b3 (K : Int) (p : Int) (q : Int)) bn_zero rfl rfl rfl bn_size (b_one _ _ _) ?_; intro v1 HX13 HB; replace HN := Lib.hid (HN.out.next HB.out); replace HW := Lib.hid (HW.out.trans (HB.out.mono HW.out.size)); replace HRD := Lib.hid (HRD.out.below HB.out); replace HRB := Lib.hid (HRB.out.below HB.out); clear HB))
      obtain ⟨g13, hg13⟩ : ∃ g, g = wr.heap.size := ⟨_, rfl⟩
      rw [← hg13] at HX13 ⊢
      clear hg13 HR9
      obtain ⟨wo, rfl⟩ : ∃ wo : World, wo = wr := ⟨_, rfl⟩
      go_frame
      go_loopw [11] (fun av wr => ∃ j : Nat, av = .int .i64 j ∧ Hid (j = i2 ∨ (j + 1 = i2 ∧ ∃ y, G[j]? = some y ∧ y.2.2 ≤ p)) ∧ Hid (Blk wr g13 38 (b3 (K : Int) (p : Int) (q : Int))) ∧ Hid (RdB wr (some ⟨b9, o9, none⟩) L) ∧ Hid (RdB wr (some ⟨bB, oB, none⟩) (G.map toI)) ∧ Hid (Lens wr) ∧ Hid (Below w.heap.size w wr)) (fun av _ => i2 - (intOf av).toNat)
      case atStart => exact ⟨i, rfl, Lib.hid (by rcases H4.out with h | ⟨h, y, hy, hz⟩; exact .inl h.symm; exact .inr ⟨h.symm, y, hy, hz⟩), HX13, HRD, HRB, HN, HW⟩
      case round =>
        clear HX13 HRD HRB HN HW H4
        obtain ⟨j, rfl, hj, HX13, HRD, HRB, HN, HW⟩ := hrel
        rcases hj.out with e | ⟨e, yb, hyb, hye⟩
        · subst e
          obtain ⟨b', o', e1, hr8⟩ := HRB.out.at (k := j) (x := toI xb) (by rw [List.getElem?_map, HXB.out]; rfl)
          injection e1 with e1
          injection e1 with e1 e2
          subst e1 e2
          obtain ⟨m0, s0, e0⟩ := xb
          have HR : Hid (World.rangeAt wr bB (oB + j * 3) (b3 (m0 : Int) (s0 : Int) (e0 : Int))) := Lib.hid hr8
          have hjl : j < G.length := (List.getElem?_eq_some_iff.1 HXB.out).1
          have k1 : s0 ≤ p := H1.out
          have k2 : p < e0 := H2.out
          have k3 : q ≤ e0 := HQ2.out
          have cL : decide ((j : Int) < (G.length : Int)) = true := decide_eq_true (by omega)
          have cE : decide ((e0 : Int) ≤ (p : Int)) = false := decide_eq_false (by omega)
          have cS : decide ((p : Int) < (s0 : Int)) = false := decide_eq_false (by omega)
          have cQ : decide ((e0 : Int) < (q : Int)) = false := decide_eq_false (by omega)
          have cG : decide ((G.length : Int) ≤ (j : Int)) = false := decide_eq_false (by omega)
          have cG2 : ¬ G.length ≤ j := by omega
          clear hr8 hj H1 H2 HQ2 HXB
          go_wp2_with fail
          refine late_begin (S := fun _ W => Blk W g13 38 (b3 (K : Int) (p : Int) (q : Int)) ∧ W.rangeAt bB (oB + j * 3) (b3 (m0 : Int) (s0 : Int) (e0 : Int))) (by kernel_rfl) ?_
          have hN0 := (show Lens wr.drew from HN.out)
          have hW0 := HW.out.drew
          have hX130 := HX13.out.drew
          have hRD0 := HRD.out.below (Below.refl _ _).drew
          have hRB0 := HRB.out.below (Below.refl _ _).drew
          have hR0 := range_below' HR.out (Below.refl _ _).drew
          generalize wr.drew = u0 at hN0 hW0 hX130 hRD0 hRB0 hR0 ⊢
          clear HN HW HX13 HRD HRB HR
          refine late_take [] (i := 0) (some 65) rfl rfl (by first | rfl | kernel_rfl) (by kernel_rfl) (by kernel_rfl) (by kernel_rfl) (by kernel_rfl) (by kernel_rfl) (fun Ls W h => h) (.int .i64 j) (fun _ _ _ h => h) (fun Ls W hl0 hW => exec_move (.tmp 11) rfl _ rfl) ⟨hX130, hR0⟩ ⟨hX130, hR0⟩ ?_
          go_frame
          refine late_take [] (i := 1) (some 66) rfl rfl (by first | rfl | kernel_rfl) (by kernel_rfl) (by kernel_rfl) (by kernel_rfl) (by kernel_rfl) (by kernel_rfl) (fun Ls W h => h) (.slice (some ⟨bB, oB, none⟩) G.length cB) (fun _ _ _ h => h) (fun Ls W hl0 hW => exec_move (.tmp 9) rfl _ rfl) ⟨hX130, hR0⟩ ⟨hX130, hR0⟩ ?_
          go_frame
          refine late_take [] (i := 2) (some 67) rfl rfl (by first | rfl | kernel_rfl) (by kernel_rfl) (by kernel_rfl) (by kernel_rfl) (by kernel_rfl) (by kernel_rfl) (fun Ls W h => h) (.int .i64 G.length) (fun _ _ _ h => h) (fun Ls W hl0 hW => exec_lenD 46 (.tmp 66) rfl (by rw [bn_elem]; exact bs_under) _ _ _ rfl) ⟨hX130, hR0⟩ ⟨hX130, hR0⟩ ?_
          go_frame
          refine late_take [] (i := 3) (some 68) rfl rfl (by first | rfl | kernel_rfl) (by kernel_rfl) (by kernel_rfl) (by kernel_rfl) (by kernel_rfl) (by kernel_rfl) (fun Ls W h => h) (.bool true) (fun _ _ _ h => h) (fun Ls W hl0 hW => exec_lssI _ (.tmp 65) (.tmp 67) _ rfl .i64 j G.length true cL rfl rfl) ⟨hX130, hR0⟩ ⟨hX130, hR0⟩ ?_
          go_frame
          refine late_take [] (i := 4) (some 69) rfl rfl (by first | rfl | kernel_rfl) (by kernel_rfl) (by kernel_rfl) (by kernel_rfl) (by kernel_rfl) (by kernel_rfl) (fun Ls W h => h) (.bool true) (fun _ _ _ h => h) (fun Ls W hl0 hW => exec_move (.tmp 68) rfl _ rfl) ⟨hX130, hR0⟩ ⟨hX130, hR0⟩ ?_
          go_frame
          refine late_take [] (i := 5) (some 70) rfl rfl (by first | rfl | kernel_rfl) (by kernel_rfl) (by kernel_rfl) (by kernel_rfl) (by kernel_rfl) (by kernel_rfl) (fun Ls W h => h) (.slice (some ⟨bB, oB, none⟩) G.length cB) (fun _ _ _ h => h) (fun Ls W hl0 hW => exec_move (.tmp 9) rfl _ rfl) ⟨hX130, hR0⟩ ⟨hX130, hR0⟩ ?_
          go_frame
          refine late_take [] (i := 6) (some 71) rfl rfl (by first | rfl | kernel_rfl) (by kernel_rfl) (by kernel_rfl) (by kernel_rfl) (by kernel_rfl) (by kernel_rfl) (fun Ls W h => h) (.int .i64 j) (fun _ _ _ h => h) (fun Ls W hl0 hW => exec_move (.tmp 11) rfl _ rfl) ⟨hX130, hR0⟩ ⟨hX130, hR0⟩ ?_
          go_frame
          refine late_take [] (i := 7) (some 72) rfl rfl (by first | rfl | kernel_rfl) (by kernel_rfl) (by kernel_rfl) (by kernel_rfl) (by kernel_rfl) (by kernel_rfl) (fun Ls W h => h) (.pointer (some ⟨bB, oB + j * 3, none⟩)) (fun _ _ _ h => h) (fun Ls W hl0 hW => exec_atB (.tmp 70) (.tmp 71) rfl bB oB _ cB j hjl rfl rfl) ⟨hX130, hR0⟩ ⟨hX130, hR0⟩ ?_
          go_frame
          refine late_take [] (i := 8) (some 73) rfl rfl (by first | rfl | kernel_rfl) (by kernel_rfl) (by kernel_rfl) (by kernel_rfl) (by kernel_rfl) (by kernel_rfl) (fun Ls W h => h) (.pointer (some ⟨bB, oB + j * 3 + 2, none⟩)) (fun _ _ _ h => h) (fun Ls W hl0 hW => exec_fieldAddr 38 (.tmp 72) 2 rfl _ _ rfl (bn_fm2 _ _ _)) ⟨hX130, hR0⟩ ⟨hX130, hR0⟩ ?_
          go_frame
          refine late_take [] (i := 9) (some 74) rfl rfl (by first | rfl | kernel_rfl) (by kernel_rfl) (by kernel_rfl) (by kernel_rfl) (by kernel_rfl) (by kernel_rfl) (fun Ls W h => h) (.int .i64 (e0 : Int)) (fun _ _ _ h => h) (fun Ls W hl0 hW => exec_loadI (.tmp 73) rfl (.int .i64 (e0 : Int)) rfl (rg_cell hW.2 2 _ rfl)) ⟨hX130, hR0⟩ ⟨hX130, hR0⟩ ?_
          go_frame
          refine late_take [] (i := 10) (some 75) rfl rfl (by first | rfl | kernel_rfl) (by kernel_rfl) (by kernel_rfl) (by kernel_rfl) (by kernel_rfl) (by kernel_rfl) (fun Ls W h => h) (.pointer (some ⟨g13, 1, none⟩)) (fun _ _ _ h => h) (fun Ls W hl0 hW => exec_fieldAddr 38 (.tmp 13) 1 rfl _ _ rfl (bn_f1 _ _)) ⟨hX130, hR0⟩ ⟨hX130, hR0⟩ ?_
          go_frame
          refine late_take [] (i := 11) (some 76) rfl rfl (by first | rfl | kernel_rfl) (by kernel_rfl) (by kernel_rfl) (by kernel_rfl) (by kernel_rfl) (by kernel_rfl) (fun Ls W h => h) (.int .i64 (p : Int)) (fun _ _ _ h => h) (fun Ls W hl0 hW => exec_loadI (.tmp 75) rfl (.int .i64 (p : Int)) rfl (hW.1.cell 1)) ⟨hX130, hR0⟩ ⟨hX130, hR0⟩ ?_
          go_frame
          refine late_take [] (i := 12) (some 77) rfl rfl (by first | rfl | kernel_rfl) (by kernel_rfl) (by kernel_rfl) (by kernel_rfl) (by kernel_rfl) (by kernel_rfl) (fun Ls W h => h) (.bool false) (fun _ _ _ h => h) (fun Ls W hl0 hW => exec_leqI _ (.tmp 74) (.tmp 76) _ rfl .i64 (e0 : Int) (p : Int) false cE rfl rfl) ⟨hX130, hR0⟩ ⟨hX130, hR0⟩ ?_
          go_frame
          refine late_one (i := 13) (by kernel_rfl) (op_valueG (some 78) rfl rfl (by first | rfl | kernel_rfl) (.bool false) (exec_pickT _ _ _ rfl (.bool false) rfl rfl) ⟨⟨hX130, hR0⟩, late_done (by kernel_rfl) ?_ _⟩)
          go_frame
          have HN := Lib.hid hN0
          have HW := Lib.hid hW0
          have HX13 := Lib.hid hX130
          have HRD := Lib.hid hRD0
          have HRB := Lib.hid hRB0
          have HR := Lib.hid hR0
          clear hN0 hW0 hX130 hRD0 hRB0 hR0
          go_wp2_with fail
          refine late_begin (S := fun _ W => Blk W g13 38 (b3 (K : Int) (p : Int) (q : Int)) ∧ W.rangeAt bB (oB + j * 3) (b3 (m0 : Int) (s0 : Int) (e0 : Int))) (by kernel_rfl) ?_
          have hN0 := (show Lens u0.drew from HN.out)
          have hW0 := HW.out.drew
          have hX130 := HX13.out.drew
          have hRD0 := HRD.out.below (Below.refl _ _).drew
          have hRB0 := HRB.out.below (Below.refl _ _).drew
          have hR0 := range_below' HR.out (Below.refl _ _).drew
          generalize u0.drew = v0 at hN0 hW0 hX130 hRD0 hRB0 hR0 ⊢
          clear HN HW HX13 HRD HRB HR
          refine late_take [] (i := 0) (some 85) rfl rfl (by first | rfl | kernel_rfl) (by kernel_rfl) (by kernel_rfl) (by kernel_rfl) (by kernel_rfl) (by kernel_rfl) (fun Ls W h => h) (.slice (some ⟨bB, oB, none⟩) G.length cB) (fun _ _ _ h => h) (fun Ls W hl0 hW => exec_move (.tmp 9) rfl _ rfl) ⟨hX130, hR0⟩ ⟨hX130, hR0⟩ ?_
          go_frame
          refine late_take [] (i := 1) (some 86) rfl rfl (by first | rfl | kernel_rfl) (by kernel_rfl) (by kernel_rfl) (by kernel_rfl) (by kernel_rfl) (by kernel_rfl) (fun Ls W h => h) (.int .i64 j) (fun _ _ _ h => h) (fun Ls W hl0 hW => exec_move (.tmp 11) rfl _ rfl) ⟨hX130, hR0⟩ ⟨hX130, hR0⟩ ?_
          go_frame
          refine late_take [] (i := 2) (some 87) rfl rfl (by first | rfl | kernel_rfl) (by kernel_rfl) (by kernel_rfl) (by kernel_rfl) (by kernel_rfl) (by kernel_rfl) (fun Ls W h => h) (.pointer (some ⟨bB, oB + j * 3, none⟩)) (fun _ _ _ h => h) (fun Ls W hl0 hW => exec_atB (.tmp 85) (.tmp 86) rfl bB oB _ cB j hjl rfl rfl) ⟨hX130, hR0⟩ ⟨hX130, hR0⟩ ?_
          go_frame
          refine late_take [] (i := 3) (some 88) rfl rfl (by first | rfl | kernel_rfl) (by kernel_rfl) (by kernel_rfl) (by kernel_rfl) (by kernel_rfl) (by kernel_rfl) (fun Ls W h => h) (.pointer (some ⟨bB, oB + j * 3 + 1, none⟩)) (fun _ _ _ h => h) (fun Ls W hl0 hW => exec_fieldAddr 38 (.tmp 87) 1 rfl _ _ rfl (bn_fm1 _ _ _)) ⟨hX130, hR0⟩ ⟨hX130, hR0⟩ ?_
          go_frame
          refine late_take [] (i := 4) (some 89) rfl rfl (by first | rfl | kernel_rfl) (by kernel_rfl) (by kernel_rfl) (by kernel_rfl) (by kernel_rfl) (by kernel_rfl) (fun Ls W h => h) (.int .i64 (s0 : Int)) (fun _ _ _ h => h) (fun Ls W hl0 hW => exec_loadI (.tmp 88) rfl (.int .i64 (s0 : Int)) rfl (rg_cell hW.2 1 _ rfl)) ⟨hX130, hR0⟩ ⟨hX130, hR0⟩ ?_
          go_frame
          refine late_take [] (i := 5) (some 90) rfl rfl (by first | rfl | kernel_rfl) (by kernel_rfl) (by kernel_rfl) (by kernel_rfl) (by kernel_rfl) (by kernel_rfl) (fun Ls W h => h) (.pointer (some ⟨g13, 1, none⟩)) (fun _ _ _ h => h) (fun Ls W hl0 hW => exec_fieldAddr 38 (.tmp 13) 1 rfl _ _ rfl (bn_f1 _ _)) ⟨hX130, hR0⟩ ⟨hX130, hR0⟩ ?_
          go_frame
          refine late_take [] (i := 6) (some 91) rfl rfl (by first | rfl | kernel_rfl) (by kernel_rfl) (by kernel_rfl) (by kernel_rfl) (by kernel_rfl) (by kernel_rfl) (fun Ls W h => h) (.int .i64 (p : Int)) (fun _ _ _ h => h) (fun Ls W hl0 hW => exec_loadI (.tmp 90) rfl (.int .i64 (p : Int)) rfl (hW.1.cell 1)) ⟨hX130, hR0⟩ ⟨hX130, hR0⟩ ?_
          go_frame
          refine late_take [] (i := 7) (some 92) rfl rfl (by first | rfl | kernel_rfl) (by kernel_rfl) (by kernel_rfl) (by kernel_rfl) (by kernel_rfl) (by kernel_rfl) (fun Ls W h => h) (.bool false) (fun _ _ _ h => h) (fun Ls W hl0 hW => exec_gtrI _ (.tmp 89) (.tmp 91) _ rfl .i64 (s0 : Int) (p : Int) false cS rfl rfl) ⟨hX130, hR0⟩ ⟨hX130, hR0⟩ ?_
          go_frame
          refine late_take [] (i := 8) (some 93) rfl rfl (by first | rfl | kernel_rfl) (by kernel_rfl) (by kernel_rfl) (by kernel_rfl) (by kernel_rfl) (by kernel_rfl) (fun Ls W h => h) (.bool false) (fun _ _ _ h => h) (fun Ls W hl0 hW => exec_move (.tmp 92) rfl _ rfl) ⟨hX130, hR0⟩ ⟨hX130, hR0⟩ ?_
          go_frame
          refine late_take [] (i := 9) (some 94) rfl rfl (by first | rfl | kernel_rfl) (by kernel_rfl) (by kernel_rfl) (by kernel_rfl) (by kernel_rfl) (by kernel_rfl) (fun Ls W h => h) (.slice (some ⟨bB, oB, none⟩) G.length cB) (fun _ _ _ h => h) (fun Ls W hl0 hW => exec_move (.tmp 9) rfl _ rfl) ⟨hX130, hR0⟩ ⟨hX130, hR0⟩ ?_
          go_frame
          refine late_take [] (i := 10) (some 95) rfl rfl (by first | rfl | kernel_rfl) (by kernel_rfl) (by kernel_rfl) (by kernel_rfl) (by kernel_rfl) (by kernel_rfl) (fun Ls W h => h) (.int .i64 j) (fun _ _ _ h => h) (fun Ls W hl0 hW => exec_move (.tmp 11) rfl _ rfl) ⟨hX130, hR0⟩ ⟨hX130, hR0⟩ ?_
          go_frame
          refine late_take [] (i := 11) (some 96) rfl rfl (by first | rfl | kernel_rfl) (by kernel_rfl) (by kernel_rfl) (by kernel_rfl) (by kernel_rfl) (by kernel_rfl) (fun Ls W h => h) (.pointer (some ⟨bB, oB + j * 3, none⟩)) (fun _ _ _ h => h) (fun Ls W hl0 hW => exec_atB (.tmp 94) (.tmp 95) rfl bB oB _ cB j hjl rfl rfl) ⟨hX130, hR0⟩ ⟨hX130, hR0⟩ ?_
          go_frame
          refine late_take [] (i := 12) (some 97) rfl rfl (by first | rfl | kernel_rfl) (by kernel_rfl) (by kernel_rfl) (by kernel_rfl) (by kernel_rfl) (by kernel_rfl) (fun Ls W h => h) (.pointer (some ⟨bB, oB + j * 3 + 2, none⟩)) (fun _ _ _ h => h) (fun Ls W hl0 hW => exec_fieldAddr 38 (.tmp 96) 2 rfl _ _ rfl (bn_fm2 _ _ _)) ⟨hX130, hR0⟩ ⟨hX130, hR0⟩ ?_
          go_frame
          refine late_take [] (i := 13) (some 98) rfl rfl (by first | rfl | kernel_rfl) (by kernel_rfl) (by kernel_rfl) (by kernel_rfl) (by kernel_rfl) (by kernel_rfl) (fun Ls W h => h) (.int .i64 (e0 : Int)) (fun _ _ _ h => h) (fun Ls W hl0 hW => exec_loadI (.tmp 97) rfl (.int .i64 (e0 : Int)) rfl (rg_cell hW.2 2 _ rfl)) ⟨hX130, hR0⟩ ⟨hX130, hR0⟩ ?_
          go_frame
          refine late_take [] (i := 14) (some 99) rfl rfl (by first | rfl | kernel_rfl) (by kernel_rfl) (by kernel_rfl) (by kernel_rfl) (by kernel_rfl) (by kernel_rfl) (fun Ls W h => h) (.pointer (some ⟨g13, 2, none⟩)) (fun _ _ _ h => h) (fun Ls W hl0 hW => exec_fieldAddr 38 (.tmp 13) 2 rfl _ _ rfl (bn_f2 _ _)) ⟨hX130, hR0⟩ ⟨hX130, hR0⟩ ?_
          go_frame
          refine late_take [] (i := 15) (some 100) rfl rfl (by first | rfl | kernel_rfl) (by kernel_rfl) (by kernel_rfl) (by kernel_rfl) (by kernel_rfl) (by kernel_rfl) (fun Ls W h => h) (.int .i64 (q : Int)) (fun _ _ _ h => h) (fun Ls W hl0 hW => exec_loadI (.tmp 99) rfl (.int .i64 (q : Int)) rfl (hW.1.cell 2)) ⟨hX130, hR0⟩ ⟨hX130, hR0⟩ ?_
          go_frame
          refine late_take [] (i := 16) (some 101) rfl rfl (by first | rfl | kernel_rfl) (by kernel_rfl) (by kernel_rfl) (by kernel_rfl) (by kernel_rfl) (by kernel_rfl) (fun Ls W h => h) (.bool false) (fun _ _ _ h => h) (fun Ls W hl0 hW => exec_lssI _ (.tmp 98) (.tmp 100) _ rfl .i64 (e0 : Int) (q : Int) false cQ rfl rfl) ⟨hX130, hR0⟩ ⟨hX130, hR0⟩ ?_
          go_frame
          refine late_one (i := 17) (by kernel_rfl) (op_valueG (some 102) rfl rfl (by first | rfl | kernel_rfl) (.bool false) (exec_pickF _ _ _ rfl (.bool false) rfl rfl) ⟨⟨hX130, hR0⟩, late_done (by kernel_rfl) ?_ _⟩)
          go_frame
          have HN := Lib.hid hN0
          have HW := Lib.hid hW0
          have HX13 := Lib.hid hX130
          have HRD := Lib.hid hRD0
          have HRB := Lib.hid hRB0
          have HR := Lib.hid hR0
          clear hN0 hW0 hX130 hRD0 hRB0 hR0
          go_wp2_with fail
          go_roundw
          case rel => exact ⟨k + 1, j, q, by go_num, by omega, rfl, by omega, HFO, HAT, HRD, HRB, HN, HW⟩
          case measure => simp [intOf]; omega
        · obtain ⟨b', o', e1, hr8⟩ := HRB.out.at (k := j) (x := toI yb) (by rw [List.getElem?_map, hyb]; rfl)
          injection e1 with e1
          injection e1 with e1 e2
          subst e1 e2
          obtain ⟨m0, s0, e0⟩ := yb
          have HR : Hid (World.rangeAt wr bB (oB + j * 3) (b3 (m0 : Int) (s0 : Int) (e0 : Int))) := Lib.hid hr8
          have hjl : j < G.length := (List.getElem?_eq_some_iff.1 hyb).1
          have k1 : e0 ≤ p := hye
          have cL : decide ((j : Int) < (G.length : Int)) = true := decide_eq_true (by omega)
          have cE : decide ((e0 : Int) ≤ (p : Int)) = true := decide_eq_true (by omega)
          have HE : Hid (j + 1 = i2) := Lib.hid e
          have hji : j < i2 := by omega
          clear hr8 hj hyb hye e
          go_wp2_with fail
          refine late_begin (S := fun _ W => Blk W g13 38 (b3 (K : Int) (p : Int) (q : Int)) ∧ W.rangeAt bB (oB + j * 3) (b3 (m0 : Int) (s0 : Int) (e0 : Int))) (by kernel_rfl) ?_
          have hN0 := (show Lens wr.drew from HN.out)
          have hW0 := HW.out.drew
          have hX130 := HX13.out.drew
          have hRD0 := HRD.out.below (Below.refl _ _).drew
          have hRB0 := HRB.out.below (Below.refl _ _).drew
          have hR0 := range_below' HR.out (Below.refl _ _).drew
          generalize wr.drew = u0 at hN0 hW0 hX130 hRD0 hRB0 hR0 ⊢
          clear HN HW HX13 HRD HRB HR
          refine late_take [] (i := 0) (some 65) rfl rfl (by first | rfl | kernel_rfl) (by kernel_rfl) (by kernel_rfl) (by kernel_rfl) (by kernel_rfl) (by kernel_rfl) (fun Ls W h => h) (.int .i64 j) (fun _ _ _ h => h) (fun Ls W hl0 hW => exec_move (.tmp 11) rfl _ rfl) ⟨hX130, hR0⟩ ⟨hX130, hR0⟩ ?_
          go_frame
          refine late_take [] (i := 1) (some 66) rfl rfl (by first | rfl | kernel_rfl) (by kernel_rfl) (by kernel_rfl) (by kernel_rfl) (by kernel_rfl) (by kernel_rfl) (fun Ls W h => h) (.slice (some ⟨bB, oB, none⟩) G.length cB) (fun _ _ _ h => h) (fun Ls W hl0 hW => exec_move (.tmp 9) rfl _ rfl) ⟨hX130, hR0⟩ ⟨hX130, hR0⟩ ?_
          go_frame
          refine late_take [] (i := 2) (some 67) rfl rfl (by first | rfl | kernel_rfl) (by kernel_rfl) (by kernel_rfl) (by kernel_rfl) (by kernel_rfl) (by kernel_rfl) (fun Ls W h => h) (.int .i64 G.length) (fun _ _ _ h => h) (fun Ls W hl0 hW => exec_lenD 46 (.tmp 66) rfl (by rw [bn_elem]; exact bs_under) _ _ _ rfl) ⟨hX130, hR0⟩ ⟨hX130, hR0⟩ ?_
          go_frame
          refine late_take [] (i := 3) (some 68) rfl rfl (by first | rfl | kernel_rfl) (by kernel_rfl) (by kernel_rfl) (by kernel_rfl) (by kernel_rfl) (by kernel_rfl) (fun Ls W h => h) (.bool true) (fun _ _ _ h => h) (fun Ls W hl0 hW => exec_lssI _ (.tmp 65) (.tmp 67) _ rfl .i64 j G.length true cL rfl rfl) ⟨hX130, hR0⟩ ⟨hX130, hR0⟩ ?_
          go_frame
          refine late_take [] (i := 4) (some 69) rfl rfl (by first | rfl | kernel_rfl) (by kernel_rfl) (by kernel_rfl) (by kernel_rfl) (by kernel_rfl) (by kernel_rfl) (fun Ls W h => h) (.bool true) (fun _ _ _ h => h) (fun Ls W hl0 hW => exec_move (.tmp 68) rfl _ rfl) ⟨hX130, hR0⟩ ⟨hX130, hR0⟩ ?_
          go_frame
          refine late_take [] (i := 5) (some 70) rfl rfl (by first | rfl | kernel_rfl) (by kernel_rfl) (by kernel_rfl) (by kernel_rfl) (by kernel_rfl) (by kernel_rfl) (fun Ls W h => h) (.slice (some ⟨bB, oB, none⟩) G.length cB) (fun _ _ _ h => h) (fun Ls W hl0 hW => exec_move (.tmp 9) rfl _ rfl) ⟨hX130, hR0⟩ ⟨hX130, hR0⟩ ?_
          go_frame
          refine late_take [] (i := 6) (some 71) rfl rfl (by first | rfl | kernel_rfl) (by kernel_rfl) (by kernel_rfl) (by kernel_rfl) (by kernel_rfl) (by kernel_rfl) (fun Ls W h => h) (.int .i64 j) (fun _ _ _ h => h) (fun Ls W hl0 hW => exec_move (.tmp 11) rfl _ rfl) ⟨hX130, hR0⟩ ⟨hX130, hR0⟩ ?_
          go_frame
          refine late_take [] (i := 7) (some 72) rfl rfl (by first | rfl | kernel_rfl) (by kernel_rfl) (by kernel_rfl) (by kernel_rfl) (by kernel_rfl) (by kernel_rfl) (fun Ls W h => h) (.pointer (some ⟨bB, oB + j * 3, none⟩)) (fun _ _ _ h => h) (fun Ls W hl0 hW => exec_atB (.tmp 70) (.tmp 71) rfl bB oB _ cB j hjl rfl rfl) ⟨hX130, hR0⟩ ⟨hX130, hR0⟩ ?_
          go_frame
          refine late_take [] (i := 8) (some 73) rfl rfl (by first | rfl | kernel_rfl) (by kernel_rfl) (by kernel_rfl) (by kernel_rfl) (by kernel_rfl) (by kernel_rfl) (fun Ls W h => h) (.pointer (some ⟨bB, oB + j * 3 + 2, none⟩)) (fun _ _ _ h => h) (fun Ls W hl0 hW => exec_fieldAddr 38 (.tmp 72) 2 rfl _ _ rfl (bn_fm2 _ _ _)) ⟨hX130, hR0⟩ ⟨hX130, hR0⟩ ?_
          go_frame
          refine late_take [] (i := 9) (some 74) rfl rfl (by first | rfl | kernel_rfl) (by kernel_rfl) (by kernel_rfl) (by kernel_rfl) (by kernel_rfl) (by kernel_rfl) (fun Ls W h => h) (.int .i64 (e0 : Int)) (fun _ _ _ h => h) (fun Ls W hl0 hW => exec_loadI (.tmp 73) rfl (.int .i64 (e0 : Int)) rfl (rg_cell hW.2 2 _ rfl)) ⟨hX130, hR0⟩ ⟨hX130, hR0⟩ ?_
          go_frame
          refine late_take [] (i := 10) (some 75) rfl rfl (by first | rfl | kernel_rfl) (by kernel_rfl) (by kernel_rfl) (by kernel_rfl) (by kernel_rfl) (by kernel_rfl) (fun Ls W h => h) (.pointer (some ⟨g13, 1, none⟩)) (fun _ _ _ h => h) (fun Ls W hl0 hW => exec_fieldAddr 38 (.tmp 13) 1 rfl _ _ rfl (bn_f1 _ _)) ⟨hX130, hR0⟩ ⟨hX130, hR0⟩ ?_
          go_frame
          refine late_take [] (i := 11) (some 76) rfl rfl (by first | rfl | kernel_rfl) (by kernel_rfl) (by kernel_rfl) (by kernel_rfl) (by kernel_rfl) (by kernel_rfl) (fun Ls W h => h) (.int .i64 (p : Int)) (fun _ _ _ h => h) (fun Ls W hl0 hW => exec_loadI (.tmp 75) rfl (.int .i64 (p : Int)) rfl (hW.1.cell 1)) ⟨hX130, hR0⟩ ⟨hX130, hR0⟩ ?_
          go_frame
          refine late_take [] (i := 12) (some 77) rfl rfl (by first | rfl | kernel_rfl) (by kernel_rfl) (by kernel_rfl) (by kernel_rfl) (by kernel_rfl) (by kernel_rfl) (fun Ls W h => h) (.bool true) (fun _ _ _ h => h) (fun Ls W hl0 hW => exec_leqI _ (.tmp 74) (.tmp 76) _ rfl .i64 (e0 : Int) (p : Int) true cE rfl rfl) ⟨hX130, hR0⟩ ⟨hX130, hR0⟩ ?_
          go_frame
          refine late_one (i := 13) (by kernel_rfl) (op_valueG (some 78) rfl rfl (by first | rfl | kernel_rfl) (.bool true) (exec_pickT _ _ _ rfl (.bool true) rfl rfl) ⟨⟨hX130, hR0⟩, late_done (by kernel_rfl) ?_ _⟩)
          go_frame
          have HN := Lib.hid hN0
          have HW := Lib.hid hW0
          have HX13 := Lib.hid hX130
          have HRD := Lib.hid hRD0
          have HRB := Lib.hid hRB0
          have HR := Lib.hid hR0
          clear hN0 hW0 hX130 hRD0 hRB0 hR0
          go_wp2_with fail
          go_roundw
          case rel => exact ⟨j + 1, by go_num, Lib.hid (.inl HE.out), HX13, HRD, HRB, HN, HW⟩
          case measure => simp [intOf]; omega
    · obtain rfl : k = L.length := by omega
      have hpT : p = T := by
        have h := hfo.out
        rw [List.drop_length] at h
        have : (p : Int) = (T : Int) := by simpa [fol] using h
        omega
      subst hpT
      have hdone := hat.out.done HG.out HTM.out
      have cD : decide ((G.length : Int) ≤ (L.length : Int)) = true := decide_eq_true (by omega)
      clear hfo hat
      go_wp2_with fail
      refine (FS.out _ HN.out).mono ?_
      rintro e v5 ⟨rfl, hb⟩
      replace HW := Lib.hid (HW.out.trans (hb.mono HW.out.size))
      clear hb
      go_wp2_with fail
      go_ret
      exact ⟨rfl, HW.out⟩
theorem walk_least (x y : Int) (L : List I3) (A : Option Addr) (c : Nat) (w : World) (hL : Lens w) (hr : RdB w A L) (hx : 0 ≤ x ∧ x ≤ 4294967295) (hy : 0 ≤ y ∧ y ≤ 4294967295) : Calls Tryd.prog 8 #[.agg #[.int .u32 x, .int .u32 y], .slice A L.length c] w fun e w' => e = .returned (.bool true) ∧ Below w.heap.size w w' := by
  have hM : M = 1402560 := rfl
  obtain ⟨F, hF⟩ : ∃ F : Nat, min (x % 1402561) (y % 1402561) = (F : Int) := ⟨(min (x % 1402561) (y % 1402561)).toNat, by omega⟩
  obtain ⟨T, hT⟩ : ∃ T : Nat, max (x % 1402561) (y % 1402561) = (T : Int) := ⟨(max (x % 1402561) (y % 1402561)).toNat, by omega⟩
  have hFT : F ≤ T := by omega
  have hTM : T ≤ M := by omega
  rcases Nat.lt_or_ge 400 L.length with h | h
  · exact least_a x y _ _ F T L A c w hL hr hx hy rfl rfl hF hT hFT hTM h
  · cases hfo : fol L F T
    · exact least_b x y _ _ F T L A c w hL hr hx hy rfl rfl hF hT hFT hTM h hfo
    · exact least_c x y _ _ F T L A c w hL hr hx hy rfl rfl hF hT hFT hTM h hfo
end Go.Proofs.YtbboadoolgcmaaaDoor
