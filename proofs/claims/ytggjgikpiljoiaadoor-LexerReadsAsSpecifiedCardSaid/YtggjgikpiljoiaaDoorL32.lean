/- The walk of LexerPrintsAsSpecified. -/
import Derived.Test.YtggjgikpiljoiaaDoorL31
namespace Go.Proofs.YtggjgikpiljoiaaDoor
open Go.RowKit Hm Wm Lx

set_option maxRecDepth 100000 in
set_option maxHeartbeats 1500000 in
theorem walk_prints (A : Option Addr) (cap : Nat) (l : List TI) (w : World) (hE : Env w) (hr : RdT w A l) (hln : l.length ≤ 9223372036854775807) (hv : ∀ x ∈ l, -9223372036854775808 ≤ x.v ∧ x.v ≤ 9223372036854775807) :
    Calls Tryd.prog 4 #[.slice A l.length cap] w fun e w' => e = .returned (.bool true) ∧ Below w.heap.size w w' := by
  have HE := Lib.hid hE
  have HR := Lib.hid hr
  have HV := Lib.hid hv
  have HW := Lib.hid (Below.refl w.heap.size w)
  clear hE hr hv
  rcases Nat.lt_or_ge 200 l.length with h | h
  · have h1 : decide ((200 : Int) < (l.length : Int)) = true := decide_eq_true (by omega)
    have h1n : decide (200 < l.length) = true := decide_eq_true h
    go_enter Tryd.func4, Tryd.ntmps4
    go_wp2_with (first | ((with_reducible refine (sanity_any _ HE.out).mono ?_); rintro e wy ⟨rfl, hb⟩; replace HE := Lib.hid (HE.out.next hb); replace HW := Lib.hid (HW.out.trans (hb.mono HW.out.size)); clear hb))
    go_ret
    exact ⟨rfl, HW.out⟩
  · have h1 : decide ((200 : Int) < (l.length : Int)) = false := decide_eq_false (by omega)
    have h1n : decide (200 < l.length) = false := decide_eq_false (by omega)
    go_enter Tryd.func4, Tryd.ntmps4
    go_wp2_with fail
    go_loopw [3] (fun a wr => ∃ k : Nat, a = .int .i64 k ∧ k ≤ l.length ∧ Hid (∀ j x, j < k → l[j]? = some x → x.s.size ≤ 400) ∧ wr = w) (fun a _ => l.length - (intOf a).toNat)
    case atStart => exact ⟨0, rfl, Nat.zero_le _, Lib.hid (fun j x hj => by omega), rfl⟩
    case round =>
      obtain ⟨k, rfl, hk, HS, rfl⟩ := hrel
      clear h1 h1n
      by_cases hlt : k < l.length
      · obtain ⟨x, hx⟩ : ∃ x, l[k]? = some x := ⟨l[k], List.getElem?_eq_getElem hlt⟩
        have HX := Lib.hid hx
        obtain ⟨b, off, hA, hc⟩ := HR.out.at hx
        subst hA
        have HC := Lib.hid hc
        have h1 : decide ((k : Int) < (l.length : Int)) = true := decide_eq_true (by omega)
        have h1n : decide (k < l.length) = true := decide_eq_true hlt
        clear hx hc
        obtain ⟨xk, xa, xs, xv⟩ := x
        have g1 : ∀ b, decide ((400 : Int) < (xs.size : Int)) = b → decide (400 < xs.size) = b := fun b hb => by rw [← hb]; exact decide_eq_decide.2 (by omega)
        by_cases hs : xs.size ≤ 400
        · have m1 : decide ((400 : Int) < (xs.size : Int)) = false := decide_eq_false (by omega)
          have m1n := g1 _ m1
          clear g1
          go_wp2_with (first | (refine wpList_dst 16 rfl ?_; refine wpList_run 16 rfl rfl _ (exec_atT (.tmp 14) (.tmp 15) rfl b off _ cap k hlt rfl rfl) ?_; go_frame) | (refine wpList_dst 17 rfl ?_; refine wpList_run 17 rfl rfl _ (exec_fieldAddr 33 (.tmp 16) 2 rfl _ _ rfl (tk_f b (off + k * 4) 2 (by decide) _)) ?_; go_frame) | (refine wpList_dst 18 rfl ?_; refine wpList_run 18 rfl rfl _ (exec_load 9 (.tmp 17) rfl _ (.string xs) rfl (run_load_cell str_flat (HC.out 2 (.string xs) rfl))) ?_; go_frame))
          go_roundw
          case rel => exact ⟨k + 1, by go_num, by omega, Lib.hid (fun j x hj hx => by
            rcases Nat.lt_or_ge j k with h2 | h2
            · exact HS.out j x h2 hx
            · obtain rfl : j = k := by omega
              have e := HX.out.symm.trans hx
              injection e with e
              rw [← e]; exact hs), by first | rfl | trivial⟩
          case measure => simp [intOf]; omega
        · have m1 : decide ((400 : Int) < (xs.size : Int)) = true := decide_eq_true (by omega)
          have m1n := g1 _ m1
          clear g1
          go_wp2_with (first | (refine wpList_dst 16 rfl ?_; refine wpList_run 16 rfl rfl _ (exec_atT (.tmp 14) (.tmp 15) rfl b off _ cap k hlt rfl rfl) ?_; go_frame) | (refine wpList_dst 17 rfl ?_; refine wpList_run 17 rfl rfl _ (exec_fieldAddr 33 (.tmp 16) 2 rfl _ _ rfl (tk_f b (off + k * 4) 2 (by decide) _)) ?_; go_frame) | (refine wpList_dst 18 rfl ?_; refine wpList_run 18 rfl rfl _ (exec_load 9 (.tmp 17) rfl _ (.string xs) rfl (run_load_cell str_flat (HC.out 2 (.string xs) rfl))) ?_; go_frame) | ((with_reducible refine (sanity_any _ HE.out).mono ?_); rintro e wy ⟨rfl, hb⟩; replace HE := Lib.hid (HE.out.next hb); replace HW := Lib.hid (HW.out.trans (hb.mono HW.out.size)); clear hb))
          go_ret
          exact ⟨rfl, HW.out⟩
      · obtain rfl : k = l.length := by omega
        have h1 : decide ((l.length : Int) < (l.length : Int)) = false := decide_eq_false (by omega)
        have hall : ∀ x ∈ l, x.s.size ≤ 400 := fun x hx => by
          obtain ⟨i, hi⟩ := List.getElem?_of_mem hx
          exact HS.out i x (List.getElem?_eq_some_iff.1 hi).1 hi
        have htl := text_len l hall HV.out l.length (Nat.le_refl _)
        rw [List.take_length] at htl
        have HT := Lib.hid (fun (W : World) (hE : Env W) (hr : RdT W A l) => text_of A cap l W hr hE (by omega) (fun x hx => by have := hall x hx; omega) HV.out (by omega))
        have HT2 := Lib.hid (fun (W : World) (hr : RdT W A l) => rtext_any A cap l W hr (by omega) hall HV.out)
        clear hall htl HV HS
        generalize textI l = X at HT HT2
        go_wp2_with (first | ((with_reducible refine (sanity_any _ HE.out).mono ?_); rintro e wy ⟨rfl, hb⟩; replace HE := Lib.hid (HE.out.next hb); replace HW := Lib.hid (HW.out.trans (hb.mono HW.out.size)); replace HR := Lib.hid (HR.out.below hb); clear hb) | ((with_reducible refine (HT.out _ HE.out HR.out).mono ?_); rintro e w2 ⟨rfl, hb⟩; replace HE := Lib.hid (HE.out.next hb); replace HW := Lib.hid (HW.out.trans (hb.mono HW.out.size)); replace HR := Lib.hid (HR.out.below hb); clear hb) | ((with_reducible refine (HT2.out _ HR.out).mono ?_); rintro e w2 ⟨rfl, hb⟩; replace HE := Lib.hid (HE.out.next hb); replace HW := Lib.hid (HW.out.trans (hb.mono HW.out.size)); replace HR := Lib.hid (HR.out.below hb); clear hb) | (refine wpList_dst 28 rfl ?_; refine wpList_runG 28 rfl rfl _ (exec_bin .eql 9 _ (.tmp 25) (.tmp 27) rfl (.string (sb X)) (.string (sb X)) _ rfl rfl rfl (str_same _ _)) ?_; go_frame))
        go_ret
        exact ⟨rfl, HW.out⟩
end Go.Proofs.YtggjgikpiljoiaaDoor
