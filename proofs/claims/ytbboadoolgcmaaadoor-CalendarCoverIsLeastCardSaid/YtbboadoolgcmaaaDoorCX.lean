/- Blocks that follow one another. -/
import Derived.Test.YtbboadoolgcmaaaDoorCM
namespace Go.Proofs.YtbboadoolgcmaaaDoor
open Go.RowKit Hm Wm Cm

/-- Blocks of the calendar that follow one another from f to t. -/
def fol : List I3 → Int → Int → Bool
  | [], f, t => f == t
  | (l, a, b) :: r, f, t => a == f && okB l a b && fol r b t
theorem fol_at {L : List I3} {k : Nat} {l a b : Int} (h : L[k]? = some (l, a, b)) (f t : Int) : fol (L.drop k) f t = (a == f && okB l a b && fol (L.drop (k + 1)) b t) := by
  obtain ⟨hk, e⟩ := List.getElem?_eq_some_iff.1 h
  rw [List.drop_eq_getElem_cons hk, e]
  rfl
set_option maxRecDepth 1000000 in
set_option maxHeartbeats 600000 in
theorem follows_any (L : List I3) (A : Option Addr) (c : Nat) (f t : Int) (w : World) (hN : Lens w) (hr : RdB w A L) (hl : L.length ≤ 1000) :
    Calls Tryd.prog 30 #[.slice A L.length c, .int .i64 f, .int .i64 t] w fun e w' => e = .returned (.bool (fol L f t)) ∧ Below w.heap.size w w' := by
  have HRD := Lib.hid hr
  have HN := Lib.hid hN
  have HW := Lib.hid (Below.refl w.heap.size w)
  clear hN hr
  go_enter Tryd.func30, Tryd.ntmps30
  go_wp2_with fail
  go_loopw [1, 11] (fun fv iv wr => ∃ (k : Nat) (f1 : Int), iv = .int .i64 k ∧ k ≤ L.length ∧ fv = .int .i64 f1 ∧ Hid (fol (L.drop k) f1 t = fol L f t) ∧ Hid (RdB wr A L) ∧ Hid (Lens wr) ∧ Hid (Below w.heap.size w wr)) (fun _ iv _ => L.length - (intOf iv).toNat)
  case atStart => exact ⟨0, f, rfl, Nat.zero_le _, rfl, Lib.hid rfl, HRD, HN, HW⟩
  case round =>
    clear HRD HN HW
    obtain ⟨k, f1, rfl, hk, rfl, hfo, HRD, HN, HW⟩ := hrel
    by_cases hlt : k < L.length
    · obtain ⟨x9, hx9⟩ : ∃ x, L[k]? = some x := ⟨L[k], List.getElem?_eq_getElem hlt⟩
      obtain ⟨b9, o9, rfl, hr9⟩ := HRD.out.at (k := k) (x := x9) hx9
      obtain ⟨lv, a, b⟩ := x9
      have hf9 := fol_at hx9 f1 t
      rw [hfo.out] at hf9
      have hr10 : World.rangeAt wr b9 (o9 + k * 3) (b3 lv a b) := hr9
      have HR9 := Lib.hid hr10
      have FV := Lib.hid (fun W h => valid_any lv a b W h)
      clear hx9 hr9 hr10 hfo
      by_cases ha : a = f1
      · subst ha
        rw [beq_self_eq_true, Bool.true_and] at hf9
        cases hv : okB lv a b
        · rw [hv] at FV hf9
          rw [Bool.false_and] at hf9
          have HQ := Lib.hid hf9
          clear hf9 hv
          go_wp2_with (first | (refine wpList_dst 13 rfl ?_; refine wpList_run 13 rfl rfl _ (exec_atB (.tmp 9) (.tmp 11) rfl b9 o9 _ c k hlt rfl rfl) ?_; go_frame) | (refine wpList_dst 14 rfl ?_; refine wpList_run 14 rfl rfl _ (exec_load 38 (.tmp 13) rfl _ _ rfl (run_loadAt_mid _ b9 (o9 + k * 3) _ (b3 lv a b) _ HR9.out bin_under rfl bn_size)) ?_; go_frame) | (refine wpList_var rfl rfl 38 8 rfl rfl rfl (.tmp 14) rfl bZ (b3 lv a b) bn_zero rfl rfl rfl bn_size (b_one _ _ _) ?_; intro v1 HX8 HB; replace HN := Lib.hid (HN.out.next HB.out); replace HW := Lib.hid (HW.out.trans (HB.out.mono HW.out.size)); replace HRD := Lib.hid (HRD.out.below HB.out); clear HB) | (refine wpList_dst 15 rfl ?_; refine wpList_run 15 rfl rfl _ (exec_fieldAddr 38 (.tmp 8) 1 rfl _ _ rfl (bn_f1 _ _)) ?_; go_frame) | (refine wpList_dst 16 rfl ?_; refine wpList_run 16 rfl rfl _ (exec_loadI (.tmp 15) rfl (.int .i64 (a)) rfl (HX8.out.cell 1)) ?_; go_frame) | (refine wpList_dst 20 rfl ?_; refine wpList_runG 20 rfl rfl _ (exec_load 38 (.tmp 8) rfl _ _ rfl (run_load_part _ 38 _ 0 3 38 (b3 lv a b) _ HX8.out (by simp) Tryd.underlying38 rfl bn_size)) ?_; go_frame))
          refine (FV.out _ HN.out).mono ?_
          rintro e v2 ⟨rfl, hb⟩
          replace HW := Lib.hid (HW.out.trans (hb.mono HW.out.size))
          clear hb
          go_wp2_with fail
          go_ret
          exact ⟨congrArg (fun b => Ending.returned (Value.bool b)) HQ.out.symm, HW.out⟩
        · rw [hv] at FV hf9
          rw [Bool.true_and] at hf9
          have HF9 := Lib.hid hf9
          clear hf9 hv
          go_wp2_with (first | (refine wpList_dst 13 rfl ?_; refine wpList_run 13 rfl rfl _ (exec_atB (.tmp 9) (.tmp 11) rfl b9 o9 _ c k hlt rfl rfl) ?_; go_frame) | (refine wpList_dst 14 rfl ?_; refine wpList_run 14 rfl rfl _ (exec_load 38 (.tmp 13) rfl _ _ rfl (run_loadAt_mid _ b9 (o9 + k * 3) _ (b3 lv a b) _ HR9.out bin_under rfl bn_size)) ?_; go_frame) | (refine wpList_var rfl rfl 38 8 rfl rfl rfl (.tmp 14) rfl bZ (b3 lv a b) bn_zero rfl rfl rfl bn_size (b_one _ _ _) ?_; intro v1 HX8 HB; replace HN := Lib.hid (HN.out.next HB.out); replace HW := Lib.hid (HW.out.trans (HB.out.mono HW.out.size)); replace HRD := Lib.hid (HRD.out.below HB.out); clear HB) | (refine wpList_dst 15 rfl ?_; refine wpList_run 15 rfl rfl _ (exec_fieldAddr 38 (.tmp 8) 1 rfl _ _ rfl (bn_f1 _ _)) ?_; go_frame) | (refine wpList_dst 16 rfl ?_; refine wpList_run 16 rfl rfl _ (exec_loadI (.tmp 15) rfl (.int .i64 (a)) rfl (HX8.out.cell 1)) ?_; go_frame) | (refine wpList_dst 20 rfl ?_; refine wpList_runG 20 rfl rfl _ (exec_load 38 (.tmp 8) rfl _ _ rfl (run_load_part _ 38 _ 0 3 38 (b3 lv a b) _ HX8.out (by simp) Tryd.underlying38 rfl bn_size)) ?_; go_frame))
          refine (FV.out _ HN.out).mono ?_
          rintro e v2 ⟨rfl, hb⟩
          replace HN := Lib.hid (HN.out.next hb)
          replace HW := Lib.hid (HW.out.trans (hb.mono HW.out.size))
          replace HRD := Lib.hid (HRD.out.below hb)
          replace HX8 := Lib.hid (HX8.out.next hb)
          clear hb
          go_wp2_with (first | (refine wpList_dst 24 rfl ?_; refine wpList_run 24 rfl rfl _ (exec_fieldAddr 38 (.tmp 8) 2 rfl _ _ rfl (bn_f2 _ _)) ?_; go_frame) | (refine wpList_dst 25 rfl ?_; refine wpList_run 25 rfl rfl _ (exec_loadI (.tmp 24) rfl (.int .i64 (b)) rfl (HX8.out.cell 2)) ?_; go_frame))
          go_roundw
          case rel => exact ⟨k + 1, b, by go_num, by omega, rfl, Lib.hid HF9.out.symm, HRD, HN, HW⟩
          case measure => simp [intOf]; omega
      · have ha' : (a == f1) = false := by rw [beq_eq_false_iff_ne]; exact ha
        rw [ha', Bool.false_and, Bool.false_and] at hf9
        have HQ := Lib.hid hf9
        have HA := Lib.hid ha
        clear hf9 FV
        go_wp2_with (first | (refine wpList_dst 13 rfl ?_; refine wpList_run 13 rfl rfl _ (exec_atB (.tmp 9) (.tmp 11) rfl b9 o9 _ c k hlt rfl rfl) ?_; go_frame) | (refine wpList_dst 14 rfl ?_; refine wpList_run 14 rfl rfl _ (exec_load 38 (.tmp 13) rfl _ _ rfl (run_loadAt_mid _ b9 (o9 + k * 3) _ (b3 lv a b) _ HR9.out bin_under rfl bn_size)) ?_; go_frame) | (refine wpList_var rfl rfl 38 8 rfl rfl rfl (.tmp 14) rfl bZ (b3 lv a b) bn_zero rfl rfl rfl bn_size (b_one _ _ _) ?_; intro v1 HX8 HB; replace HN := Lib.hid (HN.out.next HB.out); replace HW := Lib.hid (HW.out.trans (HB.out.mono HW.out.size)); replace HRD := Lib.hid (HRD.out.below HB.out); clear HB) | (refine wpList_dst 15 rfl ?_; refine wpList_run 15 rfl rfl _ (exec_fieldAddr 38 (.tmp 8) 1 rfl _ _ rfl (bn_f1 _ _)) ?_; go_frame) | (refine wpList_dst 16 rfl ?_; refine wpList_run 16 rfl rfl _ (exec_loadI (.tmp 15) rfl (.int .i64 (a)) rfl (HX8.out.cell 1)) ?_; go_frame) | (refine wpList_dst 20 rfl ?_; refine wpList_runG 20 rfl rfl _ (exec_load 38 (.tmp 8) rfl _ _ rfl (run_load_part _ 38 _ 0 3 38 (b3 lv a b) _ HX8.out (by simp) Tryd.underlying38 rfl bn_size)) ?_; go_frame))
        go_ret
        exact ⟨congrArg (fun b => Ending.returned (Value.bool b)) HQ.out.symm, HW.out⟩
    · obtain rfl : k = L.length := by omega
      rw [List.drop_length] at hfo
      have HQ : Hid (fol L f t = (f1 == t)) := Lib.hid hfo.out.symm
      clear hfo
      go_wp2_with fail
      go_ret
      exact ⟨congrArg (fun b => Ending.returned (Value.bool b)) HQ.out.symm, HW.out⟩
end Go.Proofs.YtbboadoolgcmaaaDoor
