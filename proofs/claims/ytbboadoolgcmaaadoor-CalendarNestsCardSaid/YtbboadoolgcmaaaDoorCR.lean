/- The walk of CalendarNests: the middle levels. -/
import Derived.Test.YtbboadoolgcmaaaDoorCQ
namespace Go.Proofs.YtbboadoolgcmaaaDoor
open Go.RowKit Hm Wm Cm

set_option maxRecDepth 1000000 in
set_option maxHeartbeats 600000 in
theorem nest_m_lt (l t at_ f x zn x2 pf px : Int) (m F X : Nat) (w : World) (hL : Lens w) (hl : 0 ≤ l ∧ l ≤ 255) (ht : 0 ≤ t ∧ t ≤ 4294967295) (hz1 : l % 5 = zn) (hz2 : t % 1402560 = at_) (hat : 0 ≤ at_ ∧ at_ < 1402560) (hf : 0 ≤ f ∧ f ≤ at_) (hx : at_ < x ∧ x < 1402560)
    (hzn : 1 ≤ zn ∧ zn ≤ 3)
    (hp : pf ≤ f ∧ x ≤ px)
    (hm : zn = (m : Int) + 1) (hm3 : m ≤ 3) (hF : f = (F : Int)) (hX : x = (X : Int)) (hXM : X ≤ M) (hFX : F < X) (hbF : Bd m F) (hbX : Bd m X) (hpar : ∀ s, F ≤ s → s < X → fl (m + 1) s = F ∧ nx (m + 1) s = X)
    (h31 : (∀ W, Lens W → Calls Tryd.prog 16 #[.int .i64 zn, .int .i64 at_] W fun e w' => e = .returned (.tuple #[bV zn f x, .int .i64 0]) ∧ Below W.heap.size W w')) (h38 : (∀ W, Lens W → Calls Tryd.prog 22 #[.agg #[.int .i64 (zn), .int .i64 (f), .int .i64 (x)]] W fun e w' => e = .returned (.bool true) ∧ Below W.heap.size W w'))
    (h66 : (∀ W, Lens W → Calls Tryd.prog 16 #[.int .i64 zn, .int .i64 x] W fun e w' => e = .returned (.tuple #[bV zn x x2, .int .i64 0]) ∧ Below W.heap.size W w'))
    (h80 : (∀ W, Lens W → Calls Tryd.prog 18 #[.agg #[.int .i64 (zn), .int .i64 (f), .int .i64 (x)]] W fun e w' => e = .returned (.tuple #[bV (zn + 1) pf px, .int .i64 0]) ∧ Below W.heap.size W w'))
    (h91 : (∀ W, Lens W → Calls Tryd.prog 16 #[.int .i64 (zn + 1), .int .i64 at_] W fun e w' => e = .returned (.tuple #[bV (zn + 1) pf px, .int .i64 0]) ∧ Below W.heap.size W w'))
    (h121 : (∀ W, Lens W → Calls Tryd.prog 20 #[.agg #[.int .i64 (zn), .int .i64 (f), .int .i64 (x)]] W fun e w' => (∃ v, e = .returned (.tuple #[v, .int .i64 0]) ∧ Row w' W.heap.size v (wi m F X)) ∧ Below W.heap.size W w'))
    : Calls Tryd.prog 7 #[.int .u8 l, .int .u32 t] w fun e w' => e = .returned (.bool true) ∧ Below w.heap.size w w' := by
  have HN := Lib.hid hL
  have HW := Lib.hid (Below.refl w.heap.size w)
  have F31 := Lib.hid h31
  have F38 := Lib.hid h38
  have F80 := Lib.hid h80
  have F121 := Lib.hid h121
  have F66 := Lib.hid h66
  have F91 := Lib.hid h91
  have FS := Lib.hid (fun W h => sanity_any W h)
  have HZ1 := Lib.hid hz1
  have HZ2 := Lib.hid hz2
  have HM := Lib.hid hm
  have HF := Lib.hid hF
  have HX := Lib.hid hX
  have HPAR := Lib.hid hpar
  have HBF := Lib.hid hbF
  have HBX := Lib.hid hbX
  obtain ⟨l0, l1⟩ := hl
  obtain ⟨t0, t1⟩ := ht
  obtain ⟨a0, a1⟩ := hat
  obtain ⟨f0, f1⟩ := hf
  obtain ⟨x0, x1⟩ := hx
  obtain ⟨z0, z1⟩ := hzn
  have zt4 : (zn == 4) = false := by rw [beq_eq_false_iff_ne]; omega
  have zt0 : (zn == 0) = false := by rw [beq_eq_false_iff_ne]; omega
  obtain ⟨p0, p1⟩ := hp
  clear hL h31 h38 h80 h121 hz1 hz2 h66 h91 hm hF hX hpar hbF hbX
  have cA : decide (at_ < f) = false := decide_eq_false (by omega)
  have cB : decide (x ≤ at_) = false := decide_eq_false (by omega)
  have cA2 : ¬ at_ < f := by omega
  have cB2 : ¬ x ≤ at_ := by omega
  have cC : decide (x < 1402560) = true := decide_eq_true (by omega)
  have cD : decide (f < pf) = false := decide_eq_false (by omega)
  have cE : decide (px < x) = false := decide_eq_false (by omega)
  have cD2 : ¬ f < pf := by omega
  have cE2 : ¬ px < x := by omega
  go_enter Tryd.func7, Tryd.ntmps7
  go_wp2_with fail
  rw [HZ1.out, HZ2.out]
  refine (F31.out _ HN.out).mono ?_
  rintro e w1 ⟨rfl, hb⟩
  replace HN := Lib.hid (HN.out.next hb)
  replace HW := Lib.hid (HW.out.trans (hb.mono HW.out.size))
  clear hb
  go_wp2_with (first | (refine wpList_var rfl rfl 38 7 rfl rfl rfl (.tmp 32) rfl bZ (b3 (zn) f (x)) bn_zero rfl rfl rfl bn_size (b_one _ _ _) ?_; intro w2 HX7 HB; replace HN := Lib.hid (HN.out.next HB.out); replace HW := Lib.hid (HW.out.trans (HB.out.mono HW.out.size)); clear HB) | (refine wpList_dst 37 rfl ?_; refine wpList_runG 37 rfl rfl _ (exec_load 38 (.tmp 7) rfl _ _ rfl (run_load_part _ 38 _ 0 3 38 (b3 (zn) f (x)) _ HX7.out (by simp) Tryd.underlying38 rfl bn_size)) ?_; go_frame))
  refine (F38.out _ HN.out).mono ?_
  rintro e w3 ⟨rfl, hb⟩
  replace HN := Lib.hid (HN.out.next hb)
  replace HW := Lib.hid (HW.out.trans (hb.mono HW.out.size))
  replace HX7 := Lib.hid (HX7.out.next hb)
  clear hb
  go_wp2_with (first | (refine wpList_dst 42 rfl ?_; refine wpList_runG 42 rfl rfl _ (exec_fieldAddr 38 (.tmp 7) 0 rfl _ _ rfl (bn_f0 _ _)) ?_; go_frame) | (refine wpList_dst 43 rfl ?_; refine wpList_runG 43 rfl rfl _ (exec_loadI (.tmp 42) rfl (.int .i64 (zn)) rfl (HX7.out.cell 0)) ?_; go_frame) | (refine wpList_dst 48 rfl ?_; refine wpList_runG 48 rfl rfl _ (exec_fieldAddr 38 (.tmp 7) 1 rfl _ _ rfl (bn_f1 _ _)) ?_; go_frame) | (refine wpList_dst 49 rfl ?_; refine wpList_runG 49 rfl rfl _ (exec_loadI (.tmp 48) rfl (.int .i64 (f)) rfl (HX7.out.cell 1)) ?_; go_frame) | (refine wpList_dst 54 rfl ?_; refine wpList_runG 54 rfl rfl _ (exec_fieldAddr 38 (.tmp 7) 2 rfl _ _ rfl (bn_f2 _ _)) ?_; go_frame) | (refine wpList_dst 55 rfl ?_; refine wpList_runG 55 rfl rfl _ (exec_loadI (.tmp 54) rfl (.int .i64 (x)) rfl (HX7.out.cell 2)) ?_; go_frame) | (refine wpList_dst 59 rfl ?_; refine wpList_run 59 rfl rfl _ (exec_fieldAddr 38 (.tmp 7) 2 rfl _ _ rfl (bn_f2 _ _)) ?_; go_frame) | (refine wpList_dst 60 rfl ?_; refine wpList_run 60 rfl rfl _ (exec_loadI (.tmp 59) rfl (.int .i64 (x)) rfl (HX7.out.cell 2)) ?_; go_frame) | (refine wpList_dst 64 rfl ?_; refine wpList_run 64 rfl rfl _ (exec_fieldAddr 38 (.tmp 7) 2 rfl _ _ rfl (bn_f2 _ _)) ?_; go_frame) | (refine wpList_dst 65 rfl ?_; refine wpList_run 65 rfl rfl _ (exec_loadI (.tmp 64) rfl (.int .i64 (x)) rfl (HX7.out.cell 2)) ?_; go_frame))
  refine (F66.out _ HN.out).mono ?_
  rintro e w4 ⟨rfl, hb⟩
  replace HN := Lib.hid (HN.out.next hb)
  replace HW := Lib.hid (HW.out.trans (hb.mono HW.out.size))
  replace HX7 := Lib.hid (HX7.out.next hb)
  clear hb
  go_wp2_with (first | (refine wpList_var rfl rfl 38 9 rfl rfl rfl (.tmp 67) rfl bZ (b3 (zn) x x2) bn_zero rfl rfl rfl bn_size (b_one _ _ _) ?_; intro w5 HX9 HB; replace HN := Lib.hid (HN.out.next HB.out); replace HW := Lib.hid (HW.out.trans (HB.out.mono HW.out.size)); replace HX7 := Lib.hid (HX7.out.next HB.out); clear HB) | (refine wpList_dst 72 rfl ?_; refine wpList_runG 72 rfl rfl _ (exec_fieldAddr 38 (.tmp 9) 1 rfl _ _ rfl (bn_f1 _ _)) ?_; go_frame) | (refine wpList_dst 73 rfl ?_; refine wpList_runG 73 rfl rfl _ (exec_loadI (.tmp 72) rfl (.int .i64 (x)) rfl (HX9.out.cell 1)) ?_; go_frame) | (refine wpList_dst 74 rfl ?_; refine wpList_runG 74 rfl rfl _ (exec_fieldAddr 38 (.tmp 7) 2 rfl _ _ rfl (bn_f2 _ _)) ?_; go_frame) | (refine wpList_dst 75 rfl ?_; refine wpList_runG 75 rfl rfl _ (exec_loadI (.tmp 74) rfl (.int .i64 (x)) rfl (HX7.out.cell 2)) ?_; go_frame) | (refine wpList_dst 79 rfl ?_; refine wpList_run 79 rfl rfl _ (exec_load 38 (.tmp 7) rfl _ _ rfl (run_load_part _ 38 _ 0 3 38 (b3 (zn) f (x)) _ HX7.out (by simp) Tryd.underlying38 rfl bn_size)) ?_; go_frame))
  refine (F80.out _ HN.out).mono ?_
  rintro e w6 ⟨rfl, hb⟩
  replace HN := Lib.hid (HN.out.next hb)
  replace HW := Lib.hid (HW.out.trans (hb.mono HW.out.size))
  replace HX7 := Lib.hid (HX7.out.next hb)
  replace HX9 := Lib.hid (HX9.out.next hb)
  clear hb
  go_wp2_with (first | (refine wpList_var rfl rfl 38 11 rfl rfl rfl (.tmp 81) rfl bZ (b3 (zn + 1) pf px) bn_zero rfl rfl rfl bn_size (b_one _ _ _) ?_; intro w7 HX11 HB; replace HN := Lib.hid (HN.out.next HB.out); replace HW := Lib.hid (HW.out.trans (HB.out.mono HW.out.size)); replace HX7 := Lib.hid (HX7.out.next HB.out); replace HX9 := Lib.hid (HX9.out.next HB.out); clear HB))
  refine (F91.out _ HN.out).mono ?_
  rintro e w8 ⟨rfl, hb⟩
  replace HN := Lib.hid (HN.out.next hb)
  replace HW := Lib.hid (HW.out.trans (hb.mono HW.out.size))
  replace HX7 := Lib.hid (HX7.out.next hb)
  replace HX9 := Lib.hid (HX9.out.next hb)
  replace HX11 := Lib.hid (HX11.out.next hb)
  clear hb
  go_wp2_with (first | (refine wpList_var rfl rfl 38 13 rfl rfl rfl (.tmp 92) rfl bZ (b3 (zn + 1) pf px) bn_zero rfl rfl rfl bn_size (b_one _ _ _) ?_; intro w9 HX13 HB; replace HN := Lib.hid (HN.out.next HB.out); replace HW := Lib.hid (HW.out.trans (HB.out.mono HW.out.size)); replace HX7 := Lib.hid (HX7.out.next HB.out); replace HX9 := Lib.hid (HX9.out.next HB.out); replace HX11 := Lib.hid (HX11.out.next HB.out); clear HB) | (refine wpList_dst 101 rfl ?_; refine wpList_runG 101 rfl rfl _ (exec_load 38 (.tmp 11) rfl _ _ rfl (run_load_part _ 38 _ 0 3 38 (b3 (zn + 1) pf px) _ HX11.out (by simp) Tryd.underlying38 rfl bn_size)) ?_; go_frame) | (refine wpList_dst 102 rfl ?_; refine wpList_runG 102 rfl rfl _ (exec_load 38 (.tmp 13) rfl _ _ rfl (run_load_part _ 38 _ 0 3 38 (b3 (zn + 1) pf px) _ HX13.out (by simp) Tryd.underlying38 rfl bn_size)) ?_; go_frame) | (refine wpList_dst 103 rfl ?_; refine wpList_runG 103 rfl rfl _ (exec_bin .neq 38 _ (.tmp 101) (.tmp 102) rfl _ _ _ rfl rfl (bn_guard _ _ _ _ _ _) (bn_nsame (zn + 1) pf px _)) ?_; go_frame) | (refine wpList_dst 106 rfl ?_; refine wpList_runG 106 rfl rfl _ (exec_fieldAddr 38 (.tmp 11) 1 rfl _ _ rfl (bn_f1 _ _)) ?_; go_frame) | (refine wpList_dst 107 rfl ?_; refine wpList_runG 107 rfl rfl _ (exec_loadI (.tmp 106) rfl (.int .i64 (pf)) rfl (HX11.out.cell 1)) ?_; go_frame) | (refine wpList_dst 108 rfl ?_; refine wpList_runG 108 rfl rfl _ (exec_fieldAddr 38 (.tmp 7) 1 rfl _ _ rfl (bn_f1 _ _)) ?_; go_frame) | (refine wpList_dst 109 rfl ?_; refine wpList_runG 109 rfl rfl _ (exec_loadI (.tmp 108) rfl (.int .i64 (f)) rfl (HX7.out.cell 1)) ?_; go_frame) | (refine wpList_dst 113 rfl ?_; refine wpList_runG 113 rfl rfl _ (exec_fieldAddr 38 (.tmp 11) 2 rfl _ _ rfl (bn_f2 _ _)) ?_; go_frame) | (refine wpList_dst 114 rfl ?_; refine wpList_runG 114 rfl rfl _ (exec_loadI (.tmp 113) rfl (.int .i64 (px)) rfl (HX11.out.cell 2)) ?_; go_frame) | (refine wpList_dst 115 rfl ?_; refine wpList_runG 115 rfl rfl _ (exec_fieldAddr 38 (.tmp 7) 2 rfl _ _ rfl (bn_f2 _ _)) ?_; go_frame) | (refine wpList_dst 116 rfl ?_; refine wpList_runG 116 rfl rfl _ (exec_loadI (.tmp 115) rfl (.int .i64 (x)) rfl (HX7.out.cell 2)) ?_; go_frame) | (refine wpList_dst 120 rfl ?_; refine wpList_run 120 rfl rfl _ (exec_load 38 (.tmp 7) rfl _ _ rfl (run_load_part _ 38 _ 0 3 38 (b3 (zn) f (x)) _ HX7.out (by simp) Tryd.underlying38 rfl bn_size)) ?_; go_frame))
  refine (F121.out _ HN.out).mono ?_
  rintro e w10 ⟨⟨v, rfl, hr⟩, hb⟩
  replace HN := Lib.hid (HN.out.next hb)
  replace HW := Lib.hid (HW.out.trans (hb.mono HW.out.size))
  replace HX7 := Lib.hid (HX7.out.next hb)
  replace HX9 := Lib.hid (HX9.out.next hb)
  replace HX11 := Lib.hid (HX11.out.next hb)
  replace HX13 := Lib.hid (HX13.out.next hb)
  obtain ⟨A, c, rfl, hc, hrd⟩ := hr.reads
  have HRD := Lib.hid hrd
  clear hr hrd
  clear hb
  have hlen := wi_len m F X hXM
  have hMM : M = 1402560 := rfl
  obtain ⟨L, hLL⟩ : ∃ L, wi m F X = L := ⟨_, rfl⟩
  rw [hLL] at HRD hlen ⊢
  have HLL := Lib.hid hLL
  clear hLL
  go_wp2_with (first | (refine wpList_dst 136 rfl ?_; refine wpList_run 136 rfl rfl _ (exec_fieldAddr 38 (.tmp 7) 1 rfl _ _ rfl (bn_f1 _ _)) ?_; go_frame) | (refine wpList_dst 137 rfl ?_; refine wpList_run 137 rfl rfl _ (exec_loadI (.tmp 136) rfl (.int .i64 (f)) rfl (HX7.out.cell 1)) ?_; go_frame))
  obtain ⟨g7, hg7⟩ : ∃ g, g = w1.heap.size := ⟨_, rfl⟩
  rw [← hg7] at HX7 ⊢
  clear hg7
  go_loopw [17, 140] (fun fv iv wr => ∃ k : Nat, iv = .int .i64 k ∧ k ≤ L.length ∧ Hid (fv = .int .i64 ((cur (L.take k) F : Nat) : Int)) ∧ Hid (RdB wr A (L.map toI)) ∧ Hid (Blk wr g7 38 (b3 (zn) f (x))) ∧ Hid (Lens wr) ∧ Hid (Below w.heap.size w wr)) (fun _ iv _ => L.length - (intOf iv).toNat)
  case atStart => exact ⟨0, rfl, Nat.zero_le _, Lib.hid (by rw [HF.out]; rfl), HRD, HX7, HN, HW⟩
  case round =>
    clear HRD HX7 HN HW
    obtain ⟨k, rfl, hk, hcur, HRD, HX7, HN, HW⟩ := hrel
    rw [hcur.out]
    by_cases hlt : k < L.length
    · obtain ⟨x9, hx9⟩ : ∃ x, L[k]? = some x := ⟨L[k], List.getElem?_eq_getElem hlt⟩
      have hat9 := wi_at hXM HBF.out (by rw [HLL.out]; exact hx9)
      rw [HLL.out] at hat9
      obtain ⟨y1, y2, y3, y4, y5, y6, y7, y8⟩ := hat9
      obtain ⟨b9, o9, rfl, hr9⟩ := HRD.out.at (k := k) (x := toI x9) (by rw [List.getElem?_map, hx9]; rfl)
      rw [y7]
      have HY8 := Lib.hid y8
      obtain ⟨m9, s9, t9⟩ := x9
      simp only at y1 y2 y3 y4 y5 y6 HY8
      obtain rfl : m9 = m := y1
      have hfs := fl_of (by omega) y2
      have hpp := HPAR.out s9 y4 y5
      have hok : okB ((m9 : Nat) : Int) ((s9 : Nat) : Int) ((t9 : Nat) : Int) = true := by
        rw [okB_iff]
        exact ⟨m9, s9, by omega, by omega, rfl, rfl, hfs, by rw [y3]⟩
      have FV := Lib.hid (fun W h => valid_any ((m9 : Nat) : Int) ((s9 : Nat) : Int) ((t9 : Nat) : Int) W h)
      rw [hok] at FV
      have FP := Lib.hid (fun W h => parent_raw ((m9 : Nat) : Int) ((s9 : Nat) : Int) ((t9 : Nat) : Int) f (x) hok (by rw [beq_eq_false_iff_ne]; omega) (by omega) (fun X' h' => by
        have h2 := find_any (m9 + 1) s9 X' h' (by omega) (by omega)
        unfold fV at h2
        rw [hpp.1, hpp.2, ← HF.out, ← HX.out, show ((m9 + 1 : Nat) : Int) = (m9 : Int) + 1 from rfl] at h2
        exact h2) W h)
      rw [← HM.out] at FP
      have hr10 : World.rangeAt wr b9 (o9 + k * 3) (b3 ((m9 : Nat) : Int) ((s9 : Nat) : Int) ((t9 : Nat) : Int)) := hr9
      have hm1 : (m9 : Int) = zn - 1 := by have := HM.out; omega
      rw [hm1] at FP FV hr10
      have HR9 := Lib.hid hr10
      have hs9 : s9 ≤ 1402560 := by omega
      have ht9 : t9 ≤ 1402560 := by omega
      clear hx9 y2 y3 y4 y5 y6 y7 y8 hfs hpp hok hr9 hr10 hcur hm1
      go_wp2_with (first | (refine wpList_dst 142 rfl ?_; refine wpList_run 142 rfl rfl _ (exec_atB (.tmp 138) (.tmp 140) rfl b9 o9 _ c k hlt rfl rfl) ?_; go_frame) | (refine wpList_dst 143 rfl ?_; refine wpList_run 143 rfl rfl _ (exec_load 38 (.tmp 142) rfl _ _ rfl (run_loadAt_mid _ b9 (o9 + k * 3) _ (b3 (zn - 1) ((s9 : Nat) : Int) ((t9 : Nat) : Int)) _ HR9.out bin_under rfl bn_size)) ?_; go_frame) | (refine wpList_var rfl rfl 38 19 rfl rfl rfl (.tmp 143) rfl bZ (b3 (zn - 1) ((s9 : Nat) : Int) ((t9 : Nat) : Int)) bn_zero rfl rfl rfl bn_size (b_one _ _ _) ?_; intro v1 HX19 HB; replace HN := Lib.hid (HN.out.next HB.out); replace HW := Lib.hid (HW.out.trans (HB.out.mono HW.out.size)); replace HX7 := Lib.hid (HX7.out.next HB.out); replace HRD := Lib.hid (HRD.out.below HB.out); clear HB) | (refine wpList_dst 145 rfl ?_; refine wpList_run 145 rfl rfl _ (exec_load 38 (.tmp 19) rfl _ _ rfl (run_load_part _ 38 _ 0 3 38 (b3 (zn - 1) ((s9 : Nat) : Int) ((t9 : Nat) : Int)) _ HX19.out (by simp) Tryd.underlying38 rfl bn_size)) ?_; go_frame))
      refine (FP.out _ HN.out).mono ?_
      rintro e v2 ⟨rfl, hb⟩
      replace HN := Lib.hid (HN.out.next hb)
      replace HW := Lib.hid (HW.out.trans (hb.mono HW.out.size))
      replace HX7 := Lib.hid (HX7.out.next hb)
      replace HRD := Lib.hid (HRD.out.below hb)
      replace HX19 := Lib.hid (HX19.out.next hb)
      clear hb
      go_wp2_with (first | (refine wpList_var rfl rfl 38 20 rfl rfl rfl (.tmp 147) rfl bZ (b3 (zn) f (x)) bn_zero rfl rfl rfl bn_size (b_one _ _ _) ?_; intro v3 HX20 HB; replace HN := Lib.hid (HN.out.next HB.out); replace HW := Lib.hid (HW.out.trans (HB.out.mono HW.out.size)); replace HX7 := Lib.hid (HX7.out.next HB.out); replace HRD := Lib.hid (HRD.out.below HB.out); replace HX19 := Lib.hid (HX19.out.next HB.out); clear HB) | (refine wpList_dst 149 rfl ?_; refine wpList_run 149 rfl rfl _ (exec_fieldAddr 38 (.tmp 19) 0 rfl _ _ rfl (bn_f0 _ _)) ?_; go_frame) | (refine wpList_dst 150 rfl ?_; refine wpList_run 150 rfl rfl _ (exec_loadI (.tmp 149) rfl (.int .i64 (zn - 1)) rfl (HX19.out.cell 0)) ?_; go_frame) | (refine wpList_dst 155 rfl ?_; refine wpList_runG 155 rfl rfl _ (exec_fieldAddr 38 (.tmp 19) 1 rfl _ _ rfl (bn_f1 _ _)) ?_; go_frame) | (refine wpList_dst 156 rfl ?_; refine wpList_runG 156 rfl rfl _ (exec_loadI (.tmp 155) rfl (.int .i64 ((s9 : Nat) : Int)) rfl (HX19.out.cell 1)) ?_; go_frame) | (refine wpList_dst 161 rfl ?_; refine wpList_runG 161 rfl rfl _ (exec_load 38 (.tmp 19) rfl _ _ rfl (run_load_part _ 38 _ 0 3 38 (b3 (zn - 1) ((s9 : Nat) : Int) ((t9 : Nat) : Int)) _ HX19.out (by simp) Tryd.underlying38 rfl bn_size)) ?_; go_frame))
      refine (FV.out _ HN.out).mono ?_
      rintro e v4 ⟨rfl, hb⟩
      replace HN := Lib.hid (HN.out.next hb)
      replace HW := Lib.hid (HW.out.trans (hb.mono HW.out.size))
      replace HX7 := Lib.hid (HX7.out.next hb)
      replace HRD := Lib.hid (HRD.out.below hb)
      replace HX19 := Lib.hid (HX19.out.next hb)
      replace HX20 := Lib.hid (HX20.out.next hb)
      clear hb
      go_wp2_with (first | (refine wpList_dst 170 rfl ?_; refine wpList_runG 170 rfl rfl _ (exec_load 38 (.tmp 20) rfl _ _ rfl (run_load_part _ 38 _ 0 3 38 (b3 (zn) f (x)) _ HX20.out (by simp) Tryd.underlying38 rfl bn_size)) ?_; go_frame) | (refine wpList_dst 171 rfl ?_; refine wpList_runG 171 rfl rfl _ (exec_load 38 (.tmp 7) rfl _ _ rfl (run_load_part _ 38 _ 0 3 38 (b3 (zn) f (x)) _ HX7.out (by simp) Tryd.underlying38 rfl bn_size)) ?_; go_frame) | (refine wpList_dst 172 rfl ?_; refine wpList_runG 172 rfl rfl _ (exec_bin .neq 38 _ (.tmp 170) (.tmp 171) rfl _ _ _ rfl rfl (bn_guard _ _ _ _ _ _) (bn_nsame (zn) f (x) _)) ?_; go_frame) | (refine wpList_dst 174 rfl ?_; refine wpList_run 174 rfl rfl _ (exec_fieldAddr 38 (.tmp 19) 2 rfl _ _ rfl (bn_f2 _ _)) ?_; go_frame) | (refine wpList_dst 175 rfl ?_; refine wpList_run 175 rfl rfl _ (exec_loadI (.tmp 174) rfl (.int .i64 ((t9 : Nat) : Int)) rfl (HX19.out.cell 2)) ?_; go_frame))
      go_roundw
      case rel => exact ⟨k + 1, by go_num, by omega, Lib.hid (by rw [HY8.out]), HRD, HX7, HN, HW⟩
      case measure => simp [intOf]; omega
    · obtain rfl : k = L.length := by omega
      have hend : cur (L.take L.length) F = X := by
        rw [List.take_of_length_le (Nat.le_refl _), ← HLL.out]
        exact cur_full hXM hFX HBF.out HBX.out
      rw [hend, ← HX.out]
      clear hend hcur
      go_wp2_with fail
      refine (FS.out _ HN.out).mono ?_
      rintro e v5 ⟨rfl, hb⟩
      replace HW := Lib.hid (HW.out.trans (hb.mono HW.out.size))
      replace HX7 := Lib.hid (HX7.out.next hb)
      clear hb
      go_wp2_with (first | (refine wpList_dst 184 rfl ?_; refine wpList_runG 184 rfl rfl _ (exec_fieldAddr 38 (.tmp 7) 2 rfl _ _ rfl (bn_f2 _ _)) ?_; go_frame) | (refine wpList_dst 185 rfl ?_; refine wpList_runG 185 rfl rfl _ (exec_loadI (.tmp 184) rfl (.int .i64 (x)) rfl (HX7.out.cell 2)) ?_; go_frame))
      go_ret
      exact ⟨rfl, HW.out⟩
set_option maxRecDepth 1000000 in
set_option maxHeartbeats 600000 in
theorem nest_m_eq (l t at_ f x zn pf px : Int) (m F X : Nat) (w : World) (hL : Lens w) (hl : 0 ≤ l ∧ l ≤ 255) (ht : 0 ≤ t ∧ t ≤ 4294967295) (hz1 : l % 5 = zn) (hz2 : t % 1402560 = at_) (hat : 0 ≤ at_ ∧ at_ < 1402560) (hf : 0 ≤ f ∧ f ≤ at_) (hx : at_ < x ∧ x = 1402560)
    (hzn : 1 ≤ zn ∧ zn ≤ 3)
    (hp : pf ≤ f ∧ x ≤ px)
    (hm : zn = (m : Int) + 1) (hm3 : m ≤ 3) (hF : f = (F : Int)) (hX : x = (X : Int)) (hXM : X ≤ M) (hFX : F < X) (hbF : Bd m F) (hbX : Bd m X) (hpar : ∀ s, F ≤ s → s < X → fl (m + 1) s = F ∧ nx (m + 1) s = X)
    (h31 : (∀ W, Lens W → Calls Tryd.prog 16 #[.int .i64 zn, .int .i64 at_] W fun e w' => e = .returned (.tuple #[bV zn f x, .int .i64 0]) ∧ Below W.heap.size W w')) (h38 : (∀ W, Lens W → Calls Tryd.prog 22 #[.agg #[.int .i64 (zn), .int .i64 (f), .int .i64 (x)]] W fun e w' => e = .returned (.bool true) ∧ Below W.heap.size W w'))
    (h80 : (∀ W, Lens W → Calls Tryd.prog 18 #[.agg #[.int .i64 (zn), .int .i64 (f), .int .i64 (x)]] W fun e w' => e = .returned (.tuple #[bV (zn + 1) pf px, .int .i64 0]) ∧ Below W.heap.size W w'))
    (h91 : (∀ W, Lens W → Calls Tryd.prog 16 #[.int .i64 (zn + 1), .int .i64 at_] W fun e w' => e = .returned (.tuple #[bV (zn + 1) pf px, .int .i64 0]) ∧ Below W.heap.size W w'))
    (h121 : (∀ W, Lens W → Calls Tryd.prog 20 #[.agg #[.int .i64 (zn), .int .i64 (f), .int .i64 (x)]] W fun e w' => (∃ v, e = .returned (.tuple #[v, .int .i64 0]) ∧ Row w' W.heap.size v (wi m F X)) ∧ Below W.heap.size W w'))
    : Calls Tryd.prog 7 #[.int .u8 l, .int .u32 t] w fun e w' => e = .returned (.bool true) ∧ Below w.heap.size w w' := by
  have HN := Lib.hid hL
  have HW := Lib.hid (Below.refl w.heap.size w)
  have F31 := Lib.hid h31
  have F38 := Lib.hid h38
  have F80 := Lib.hid h80
  have F121 := Lib.hid h121
  have F91 := Lib.hid h91
  have FS := Lib.hid (fun W h => sanity_any W h)
  have HZ1 := Lib.hid hz1
  have HZ2 := Lib.hid hz2
  have HM := Lib.hid hm
  have HF := Lib.hid hF
  have HX := Lib.hid hX
  have HPAR := Lib.hid hpar
  have HBF := Lib.hid hbF
  have HBX := Lib.hid hbX
  obtain ⟨l0, l1⟩ := hl
  obtain ⟨t0, t1⟩ := ht
  obtain ⟨a0, a1⟩ := hat
  obtain ⟨f0, f1⟩ := hf
  obtain ⟨x0, x1⟩ := hx
  subst x1
  obtain ⟨z0, z1⟩ := hzn
  have zt4 : (zn == 4) = false := by rw [beq_eq_false_iff_ne]; omega
  have zt0 : (zn == 0) = false := by rw [beq_eq_false_iff_ne]; omega
  obtain ⟨p0, p1⟩ := hp
  clear hL h31 h38 h80 h121 hz1 hz2 h91 hm hF hX hpar hbF hbX
  have cA : decide (at_ < f) = false := decide_eq_false (by omega)
  have cB : decide (1402560 ≤ at_) = false := decide_eq_false (by omega)
  have cA2 : ¬ at_ < f := by omega
  have cB2 : ¬ 1402560 ≤ at_ := by omega
  have cD : decide (f < pf) = false := decide_eq_false (by omega)
  have cE : decide (px < 1402560) = false := decide_eq_false (by omega)
  have cD2 : ¬ f < pf := by omega
  have cE2 : ¬ px < 1402560 := by omega
  go_enter Tryd.func7, Tryd.ntmps7
  go_wp2_with fail
  rw [HZ1.out, HZ2.out]
  refine (F31.out _ HN.out).mono ?_
  rintro e w1 ⟨rfl, hb⟩
  replace HN := Lib.hid (HN.out.next hb)
  replace HW := Lib.hid (HW.out.trans (hb.mono HW.out.size))
  clear hb
  go_wp2_with (first | (refine wpList_var rfl rfl 38 7 rfl rfl rfl (.tmp 32) rfl bZ (b3 (zn) f (1402560)) bn_zero rfl rfl rfl bn_size (b_one _ _ _) ?_; intro w2 HX7 HB; replace HN := Lib.hid (HN.out.next HB.out); replace HW := Lib.hid (HW.out.trans (HB.out.mono HW.out.size)); clear HB) | (refine wpList_dst 37 rfl ?_; refine wpList_runG 37 rfl rfl _ (exec_load 38 (.tmp 7) rfl _ _ rfl (run_load_part _ 38 _ 0 3 38 (b3 (zn) f (1402560)) _ HX7.out (by simp) Tryd.underlying38 rfl bn_size)) ?_; go_frame))
  refine (F38.out _ HN.out).mono ?_
  rintro e w3 ⟨rfl, hb⟩
  replace HN := Lib.hid (HN.out.next hb)
  replace HW := Lib.hid (HW.out.trans (hb.mono HW.out.size))
  replace HX7 := Lib.hid (HX7.out.next hb)
  clear hb
  go_wp2_with (first | (refine wpList_dst 42 rfl ?_; refine wpList_runG 42 rfl rfl _ (exec_fieldAddr 38 (.tmp 7) 0 rfl _ _ rfl (bn_f0 _ _)) ?_; go_frame) | (refine wpList_dst 43 rfl ?_; refine wpList_runG 43 rfl rfl _ (exec_loadI (.tmp 42) rfl (.int .i64 (zn)) rfl (HX7.out.cell 0)) ?_; go_frame) | (refine wpList_dst 48 rfl ?_; refine wpList_runG 48 rfl rfl _ (exec_fieldAddr 38 (.tmp 7) 1 rfl _ _ rfl (bn_f1 _ _)) ?_; go_frame) | (refine wpList_dst 49 rfl ?_; refine wpList_runG 49 rfl rfl _ (exec_loadI (.tmp 48) rfl (.int .i64 (f)) rfl (HX7.out.cell 1)) ?_; go_frame) | (refine wpList_dst 54 rfl ?_; refine wpList_runG 54 rfl rfl _ (exec_fieldAddr 38 (.tmp 7) 2 rfl _ _ rfl (bn_f2 _ _)) ?_; go_frame) | (refine wpList_dst 55 rfl ?_; refine wpList_runG 55 rfl rfl _ (exec_loadI (.tmp 54) rfl (.int .i64 (1402560)) rfl (HX7.out.cell 2)) ?_; go_frame) | (refine wpList_dst 59 rfl ?_; refine wpList_run 59 rfl rfl _ (exec_fieldAddr 38 (.tmp 7) 2 rfl _ _ rfl (bn_f2 _ _)) ?_; go_frame) | (refine wpList_dst 60 rfl ?_; refine wpList_run 60 rfl rfl _ (exec_loadI (.tmp 59) rfl (.int .i64 (1402560)) rfl (HX7.out.cell 2)) ?_; go_frame) | (refine wpList_dst 79 rfl ?_; refine wpList_run 79 rfl rfl _ (exec_load 38 (.tmp 7) rfl _ _ rfl (run_load_part _ 38 _ 0 3 38 (b3 (zn) f (1402560)) _ HX7.out (by simp) Tryd.underlying38 rfl bn_size)) ?_; go_frame))
  refine (F80.out _ HN.out).mono ?_
  rintro e w4 ⟨rfl, hb⟩
  replace HN := Lib.hid (HN.out.next hb)
  replace HW := Lib.hid (HW.out.trans (hb.mono HW.out.size))
  replace HX7 := Lib.hid (HX7.out.next hb)
  clear hb
  go_wp2_with (first | (refine wpList_var rfl rfl 38 11 rfl rfl rfl (.tmp 81) rfl bZ (b3 (zn + 1) pf px) bn_zero rfl rfl rfl bn_size (b_one _ _ _) ?_; intro w5 HX11 HB; replace HN := Lib.hid (HN.out.next HB.out); replace HW := Lib.hid (HW.out.trans (HB.out.mono HW.out.size)); replace HX7 := Lib.hid (HX7.out.next HB.out); clear HB))
  refine (F91.out _ HN.out).mono ?_
  rintro e w6 ⟨rfl, hb⟩
  replace HN := Lib.hid (HN.out.next hb)
  replace HW := Lib.hid (HW.out.trans (hb.mono HW.out.size))
  replace HX7 := Lib.hid (HX7.out.next hb)
  replace HX11 := Lib.hid (HX11.out.next hb)
  clear hb
  go_wp2_with (first | (refine wpList_var rfl rfl 38 13 rfl rfl rfl (.tmp 92) rfl bZ (b3 (zn + 1) pf px) bn_zero rfl rfl rfl bn_size (b_one _ _ _) ?_; intro w7 HX13 HB; replace HN := Lib.hid (HN.out.next HB.out); replace HW := Lib.hid (HW.out.trans (HB.out.mono HW.out.size)); replace HX7 := Lib.hid (HX7.out.next HB.out); replace HX11 := Lib.hid (HX11.out.next HB.out); clear HB) | (refine wpList_dst 101 rfl ?_; refine wpList_runG 101 rfl rfl _ (exec_load 38 (.tmp 11) rfl _ _ rfl (run_load_part _ 38 _ 0 3 38 (b3 (zn + 1) pf px) _ HX11.out (by simp) Tryd.underlying38 rfl bn_size)) ?_; go_frame) | (refine wpList_dst 102 rfl ?_; refine wpList_runG 102 rfl rfl _ (exec_load 38 (.tmp 13) rfl _ _ rfl (run_load_part _ 38 _ 0 3 38 (b3 (zn + 1) pf px) _ HX13.out (by simp) Tryd.underlying38 rfl bn_size)) ?_; go_frame) | (refine wpList_dst 103 rfl ?_; refine wpList_runG 103 rfl rfl _ (exec_bin .neq 38 _ (.tmp 101) (.tmp 102) rfl _ _ _ rfl rfl (bn_guard _ _ _ _ _ _) (bn_nsame (zn + 1) pf px _)) ?_; go_frame) | (refine wpList_dst 106 rfl ?_; refine wpList_runG 106 rfl rfl _ (exec_fieldAddr 38 (.tmp 11) 1 rfl _ _ rfl (bn_f1 _ _)) ?_; go_frame) | (refine wpList_dst 107 rfl ?_; refine wpList_runG 107 rfl rfl _ (exec_loadI (.tmp 106) rfl (.int .i64 (pf)) rfl (HX11.out.cell 1)) ?_; go_frame) | (refine wpList_dst 108 rfl ?_; refine wpList_runG 108 rfl rfl _ (exec_fieldAddr 38 (.tmp 7) 1 rfl _ _ rfl (bn_f1 _ _)) ?_; go_frame) | (refine wpList_dst 109 rfl ?_; refine wpList_runG 109 rfl rfl _ (exec_loadI (.tmp 108) rfl (.int .i64 (f)) rfl (HX7.out.cell 1)) ?_; go_frame) | (refine wpList_dst 113 rfl ?_; refine wpList_runG 113 rfl rfl _ (exec_fieldAddr 38 (.tmp 11) 2 rfl _ _ rfl (bn_f2 _ _)) ?_; go_frame) | (refine wpList_dst 114 rfl ?_; refine wpList_runG 114 rfl rfl _ (exec_loadI (.tmp 113) rfl (.int .i64 (px)) rfl (HX11.out.cell 2)) ?_; go_frame) | (refine wpList_dst 115 rfl ?_; refine wpList_runG 115 rfl rfl _ (exec_fieldAddr 38 (.tmp 7) 2 rfl _ _ rfl (bn_f2 _ _)) ?_; go_frame) | (refine wpList_dst 116 rfl ?_; refine wpList_runG 116 rfl rfl _ (exec_loadI (.tmp 115) rfl (.int .i64 (1402560)) rfl (HX7.out.cell 2)) ?_; go_frame) | (refine wpList_dst 120 rfl ?_; refine wpList_run 120 rfl rfl _ (exec_load 38 (.tmp 7) rfl _ _ rfl (run_load_part _ 38 _ 0 3 38 (b3 (zn) f (1402560)) _ HX7.out (by simp) Tryd.underlying38 rfl bn_size)) ?_; go_frame))
  refine (F121.out _ HN.out).mono ?_
  rintro e w8 ⟨⟨v, rfl, hr⟩, hb⟩
  replace HN := Lib.hid (HN.out.next hb)
  replace HW := Lib.hid (HW.out.trans (hb.mono HW.out.size))
  replace HX7 := Lib.hid (HX7.out.next hb)
  replace HX11 := Lib.hid (HX11.out.next hb)
  replace HX13 := Lib.hid (HX13.out.next hb)
  obtain ⟨A, c, rfl, hc, hrd⟩ := hr.reads
  have HRD := Lib.hid hrd
  clear hr hrd
  clear hb
  have hlen := wi_len m F X hXM
  have hMM : M = 1402560 := rfl
  obtain ⟨L, hLL⟩ : ∃ L, wi m F X = L := ⟨_, rfl⟩
  rw [hLL] at HRD hlen ⊢
  have HLL := Lib.hid hLL
  clear hLL
  go_wp2_with (first | (refine wpList_dst 136 rfl ?_; refine wpList_run 136 rfl rfl _ (exec_fieldAddr 38 (.tmp 7) 1 rfl _ _ rfl (bn_f1 _ _)) ?_; go_frame) | (refine wpList_dst 137 rfl ?_; refine wpList_run 137 rfl rfl _ (exec_loadI (.tmp 136) rfl (.int .i64 (f)) rfl (HX7.out.cell 1)) ?_; go_frame))
  obtain ⟨g7, hg7⟩ : ∃ g, g = w1.heap.size := ⟨_, rfl⟩
  rw [← hg7] at HX7 ⊢
  clear hg7
  go_loopw [17, 140] (fun fv iv wr => ∃ k : Nat, iv = .int .i64 k ∧ k ≤ L.length ∧ Hid (fv = .int .i64 ((cur (L.take k) F : Nat) : Int)) ∧ Hid (RdB wr A (L.map toI)) ∧ Hid (Blk wr g7 38 (b3 (zn) f (1402560))) ∧ Hid (Lens wr) ∧ Hid (Below w.heap.size w wr)) (fun _ iv _ => L.length - (intOf iv).toNat)
  case atStart => exact ⟨0, rfl, Nat.zero_le _, Lib.hid (by rw [HF.out]; rfl), HRD, HX7, HN, HW⟩
  case round =>
    clear HRD HX7 HN HW
    obtain ⟨k, rfl, hk, hcur, HRD, HX7, HN, HW⟩ := hrel
    rw [hcur.out]
    by_cases hlt : k < L.length
    · obtain ⟨x9, hx9⟩ : ∃ x, L[k]? = some x := ⟨L[k], List.getElem?_eq_getElem hlt⟩
      have hat9 := wi_at hXM HBF.out (by rw [HLL.out]; exact hx9)
      rw [HLL.out] at hat9
      obtain ⟨y1, y2, y3, y4, y5, y6, y7, y8⟩ := hat9
      obtain ⟨b9, o9, rfl, hr9⟩ := HRD.out.at (k := k) (x := toI x9) (by rw [List.getElem?_map, hx9]; rfl)
      rw [y7]
      have HY8 := Lib.hid y8
      obtain ⟨m9, s9, t9⟩ := x9
      simp only at y1 y2 y3 y4 y5 y6 HY8
      obtain rfl : m9 = m := y1
      have hfs := fl_of (by omega) y2
      have hpp := HPAR.out s9 y4 y5
      have hok : okB ((m9 : Nat) : Int) ((s9 : Nat) : Int) ((t9 : Nat) : Int) = true := by
        rw [okB_iff]
        exact ⟨m9, s9, by omega, by omega, rfl, rfl, hfs, by rw [y3]⟩
      have FV := Lib.hid (fun W h => valid_any ((m9 : Nat) : Int) ((s9 : Nat) : Int) ((t9 : Nat) : Int) W h)
      rw [hok] at FV
      have FP := Lib.hid (fun W h => parent_raw ((m9 : Nat) : Int) ((s9 : Nat) : Int) ((t9 : Nat) : Int) f (1402560) hok (by rw [beq_eq_false_iff_ne]; omega) (by omega) (fun X' h' => by
        have h2 := find_any (m9 + 1) s9 X' h' (by omega) (by omega)
        unfold fV at h2
        rw [hpp.1, hpp.2, ← HF.out, ← HX.out, show ((m9 + 1 : Nat) : Int) = (m9 : Int) + 1 from rfl] at h2
        exact h2) W h)
      rw [← HM.out] at FP
      have hr10 : World.rangeAt wr b9 (o9 + k * 3) (b3 ((m9 : Nat) : Int) ((s9 : Nat) : Int) ((t9 : Nat) : Int)) := hr9
      have hm1 : (m9 : Int) = zn - 1 := by have := HM.out; omega
      rw [hm1] at FP FV hr10
      have HR9 := Lib.hid hr10
      have hs9 : s9 ≤ 1402560 := by omega
      have ht9 : t9 ≤ 1402560 := by omega
      clear hx9 y2 y3 y4 y5 y6 y7 y8 hfs hpp hok hr9 hr10 hcur hm1
      go_wp2_with (first | (refine wpList_dst 142 rfl ?_; refine wpList_run 142 rfl rfl _ (exec_atB (.tmp 138) (.tmp 140) rfl b9 o9 _ c k hlt rfl rfl) ?_; go_frame) | (refine wpList_dst 143 rfl ?_; refine wpList_run 143 rfl rfl _ (exec_load 38 (.tmp 142) rfl _ _ rfl (run_loadAt_mid _ b9 (o9 + k * 3) _ (b3 (zn - 1) ((s9 : Nat) : Int) ((t9 : Nat) : Int)) _ HR9.out bin_under rfl bn_size)) ?_; go_frame) | (refine wpList_var rfl rfl 38 19 rfl rfl rfl (.tmp 143) rfl bZ (b3 (zn - 1) ((s9 : Nat) : Int) ((t9 : Nat) : Int)) bn_zero rfl rfl rfl bn_size (b_one _ _ _) ?_; intro v1 HX19 HB; replace HN := Lib.hid (HN.out.next HB.out); replace HW := Lib.hid (HW.out.trans (HB.out.mono HW.out.size)); replace HX7 := Lib.hid (HX7.out.next HB.out); replace HRD := Lib.hid (HRD.out.below HB.out); clear HB) | (refine wpList_dst 145 rfl ?_; refine wpList_run 145 rfl rfl _ (exec_load 38 (.tmp 19) rfl _ _ rfl (run_load_part _ 38 _ 0 3 38 (b3 (zn - 1) ((s9 : Nat) : Int) ((t9 : Nat) : Int)) _ HX19.out (by simp) Tryd.underlying38 rfl bn_size)) ?_; go_frame))
      refine (FP.out _ HN.out).mono ?_
      rintro e v2 ⟨rfl, hb⟩
      replace HN := Lib.hid (HN.out.next hb)
      replace HW := Lib.hid (HW.out.trans (hb.mono HW.out.size))
      replace HX7 := Lib.hid (HX7.out.next hb)
      replace HRD := Lib.hid (HRD.out.below hb)
      replace HX19 := Lib.hid (HX19.out.next hb)
      clear hb
      go_wp2_with (first | (refine wpList_var rfl rfl 38 20 rfl rfl rfl (.tmp 147) rfl bZ (b3 (zn) f (1402560)) bn_zero rfl rfl rfl bn_size (b_one _ _ _) ?_; intro v3 HX20 HB; replace HN := Lib.hid (HN.out.next HB.out); replace HW := Lib.hid (HW.out.trans (HB.out.mono HW.out.size)); replace HX7 := Lib.hid (HX7.out.next HB.out); replace HRD := Lib.hid (HRD.out.below HB.out); replace HX19 := Lib.hid (HX19.out.next HB.out); clear HB) | (refine wpList_dst 149 rfl ?_; refine wpList_run 149 rfl rfl _ (exec_fieldAddr 38 (.tmp 19) 0 rfl _ _ rfl (bn_f0 _ _)) ?_; go_frame) | (refine wpList_dst 150 rfl ?_; refine wpList_run 150 rfl rfl _ (exec_loadI (.tmp 149) rfl (.int .i64 (zn - 1)) rfl (HX19.out.cell 0)) ?_; go_frame) | (refine wpList_dst 155 rfl ?_; refine wpList_runG 155 rfl rfl _ (exec_fieldAddr 38 (.tmp 19) 1 rfl _ _ rfl (bn_f1 _ _)) ?_; go_frame) | (refine wpList_dst 156 rfl ?_; refine wpList_runG 156 rfl rfl _ (exec_loadI (.tmp 155) rfl (.int .i64 ((s9 : Nat) : Int)) rfl (HX19.out.cell 1)) ?_; go_frame) | (refine wpList_dst 161 rfl ?_; refine wpList_runG 161 rfl rfl _ (exec_load 38 (.tmp 19) rfl _ _ rfl (run_load_part _ 38 _ 0 3 38 (b3 (zn - 1) ((s9 : Nat) : Int) ((t9 : Nat) : Int)) _ HX19.out (by simp) Tryd.underlying38 rfl bn_size)) ?_; go_frame))
      refine (FV.out _ HN.out).mono ?_
      rintro e v4 ⟨rfl, hb⟩
      replace HN := Lib.hid (HN.out.next hb)
      replace HW := Lib.hid (HW.out.trans (hb.mono HW.out.size))
      replace HX7 := Lib.hid (HX7.out.next hb)
      replace HRD := Lib.hid (HRD.out.below hb)
      replace HX19 := Lib.hid (HX19.out.next hb)
      replace HX20 := Lib.hid (HX20.out.next hb)
      clear hb
      go_wp2_with (first | (refine wpList_dst 170 rfl ?_; refine wpList_runG 170 rfl rfl _ (exec_load 38 (.tmp 20) rfl _ _ rfl (run_load_part _ 38 _ 0 3 38 (b3 (zn) f (1402560)) _ HX20.out (by simp) Tryd.underlying38 rfl bn_size)) ?_; go_frame) | (refine wpList_dst 171 rfl ?_; refine wpList_runG 171 rfl rfl _ (exec_load 38 (.tmp 7) rfl _ _ rfl (run_load_part _ 38 _ 0 3 38 (b3 (zn) f (1402560)) _ HX7.out (by simp) Tryd.underlying38 rfl bn_size)) ?_; go_frame) | (refine wpList_dst 172 rfl ?_; refine wpList_runG 172 rfl rfl _ (exec_bin .neq 38 _ (.tmp 170) (.tmp 171) rfl _ _ _ rfl rfl (bn_guard _ _ _ _ _ _) (bn_nsame (zn) f (1402560) _)) ?_; go_frame) | (refine wpList_dst 174 rfl ?_; refine wpList_run 174 rfl rfl _ (exec_fieldAddr 38 (.tmp 19) 2 rfl _ _ rfl (bn_f2 _ _)) ?_; go_frame) | (refine wpList_dst 175 rfl ?_; refine wpList_run 175 rfl rfl _ (exec_loadI (.tmp 174) rfl (.int .i64 ((t9 : Nat) : Int)) rfl (HX19.out.cell 2)) ?_; go_frame))
      go_roundw
      case rel => exact ⟨k + 1, by go_num, by omega, Lib.hid (by rw [HY8.out]), HRD, HX7, HN, HW⟩
      case measure => simp [intOf]; omega
    · obtain rfl : k = L.length := by omega
      have hend : cur (L.take L.length) F = X := by
        rw [List.take_of_length_le (Nat.le_refl _), ← HLL.out]
        exact cur_full hXM hFX HBF.out HBX.out
      rw [hend, ← HX.out]
      clear hend hcur
      go_wp2_with fail
      refine (FS.out _ HN.out).mono ?_
      rintro e v5 ⟨rfl, hb⟩
      replace HW := Lib.hid (HW.out.trans (hb.mono HW.out.size))
      replace HX7 := Lib.hid (HX7.out.next hb)
      clear hb
      go_wp2_with (first | (refine wpList_dst 184 rfl ?_; refine wpList_runG 184 rfl rfl _ (exec_fieldAddr 38 (.tmp 7) 2 rfl _ _ rfl (bn_f2 _ _)) ?_; go_frame) | (refine wpList_dst 185 rfl ?_; refine wpList_runG 185 rfl rfl _ (exec_loadI (.tmp 184) rfl (.int .i64 (1402560)) rfl (HX7.out.cell 2)) ?_; go_frame))
      go_ret
      exact ⟨rfl, HW.out⟩
end Go.Proofs.YtbboadoolgcmaaaDoor
