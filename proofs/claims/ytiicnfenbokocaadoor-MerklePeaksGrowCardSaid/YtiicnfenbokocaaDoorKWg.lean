/- The walk of MerklePeaksGrow. -/
import Derived.Test.YtiicnfenbokocaaDoorKW0
namespace Go.Proofs.YtiicnfenbokocaaDoor
open Go.RowKit Hm Wm

set_option maxRecDepth 1000000 in
set_option maxHeartbeats 4000000 in
theorem walkGrow_out (A : Option Addr) (n c : Nat) (w : World) (hg : All w) (h : 40 < n) :
    Calls Tryd.prog 7 #[.slice A n c] w fun e w' => e = .returned (.bool true) ∧ Below w.heap.size w w' := by
  have d1 : decide ((40 : Int) < (n : Int)) = true := decide_eq_true (by omega)
  have HS := Lib.hid (sanity_any w hg)
  clear h hg
  go_enter Tryd.func7, Tryd.ntmps7
  go_wp2_with fail
  refine HS.out.mono ?_
  rintro e w1 ⟨rfl, hb⟩
  have HB := Lib.hid hb
  clear hb
  go_wp2
  go_ret
  exact ⟨rfl, HB.out⟩

/-- The peaks in their variable, after k elements. -/
def PkV (l : List Dg) (g k : Nat) (W : World) : Prop := ∃ A c tops, Blk W g 43 (pkc k (.slice A tops.length c)) ∧ PkD tops (l.take k) ∧ RdD W A tops ∧ tops.length ≤ c
theorem PkV.begin (l : List Dg) (w : World) : PkV l w.heap.size 0 (w.alloc (.cells (pkc 0 (.slice none 0 0)).toArray 43)) :=
  ⟨none, 0, [], Blk.new w 43 (pkc 0 (.slice none 0 0)), PkD.nil, Rd.nil _ _, Nat.le_refl _⟩

set_option maxRecDepth 1000000 in
set_option maxHeartbeats 4000000 in
theorem walkGrow_in (A : Option Addr) (c : Nat) (l : List Dg) (w : World) (hg : All w) (hr : RdD w A l) (hc : l.length ≤ c) (hn : l.length ≤ 40) :
    Calls Tryd.prog 7 #[.slice A l.length c] w fun e w' => e = .returned (.bool true) ∧ Below w.heap.size w w' := by
  have d1 : decide ((40 : Int) < (l.length : Int)) = false := decide_eq_false (by omega)
  have HG := Lib.hid hg
  have HR := Lib.hid hr
  have HN := Lib.hid hn
  have HCC := Lib.hid hc
  clear hg hr
  go_enter Tryd.func7, Tryd.ntmps7
  go_wp2_with (refine wpList_alloc_zero rfl 43 rfl (pkc 0 (.slice none 0 0)) pk_zero ?_)
  have HP := Lib.hid (PkV.begin l w)
  have HB := Lib.hid ((Below.refl w.heap.size w).alloc (Nat.le_refl _) (.cells (pkc 0 (.slice none 0 0)).toArray 43))
  generalize w.alloc (.cells (pkc 0 (.slice none 0 0)).toArray 43) = x0 at HP HB ⊢
  go_loopw [4] (fun i wr => ∃ k : Nat, i = .int .i64 k ∧ k ≤ l.length ∧ Hid (Below w.heap.size w wr) ∧ Hid (PkV l w.heap.size k wr)) (fun i _ => l.length + 1 - (intOf i).toNat)
  case atStart => exact ⟨0, rfl, by omega, HB, HP⟩
  case round =>
    clear HB HP x0
    obtain ⟨k, rfl, hk, B, HP⟩ := hrel
    obtain ⟨A1, c1, tops, hP, hD, hT, hc1⟩ := HP.out
    have GL := Lib.hid (HG.out.next B.out)
    have R := Lib.hid (HR.out.next B.out)
    have KP := Lib.hid hP
    have RT := Lib.hid hT
    have HC1 := Lib.hid hc1
    have HD := Lib.hid hD
    have e0 : (l.take k).length = k := by rw [List.length_take]; omega
    have hcall := fun W (h1 : All W) (h2 : RdD W A1 tops) => topP_any (l.take k) A1 c1 tops W h1 hD h2 (by omega) hc1
    rw [e0] at hcall
    have HTOP := Lib.hid hcall
    have htl : tops.length ≤ 64 := by rw [hD.len]; exact pop_le 64 _
    have HTL := Lib.hid htl
    have hroot := fun W (h1 : All W) (h2 : RdD W A l) => root_any (l.take k).length (l.take k) A c W (Nat.le_refl _) (by rw [e0]; omega) (by rw [e0]; omega) h1.1 (h2.take k)
    rw [e0] at hroot
    have HROOT := Lib.hid hroot
    have HLEN := Lib.hid e0
    have d2 : decide ((k : Int) ≤ (l.length : Int)) = true := decide_eq_true (by omega)
    have d3 : decide (k ≤ l.length) = true := decide_eq_true hk
    obtain ⟨d, hd⟩ : ∃ d, rootD (l.take k) = d := ⟨_, rfl⟩
    rw [hd] at HTOP HROOT
    clear hP hT hc1 hD e0 hcall htl hroot hd HP
    go_wp2_with (refine wpList_load_all rfl _ (.tmp 3) rfl w.heap.size _ (pkc k (.slice A1 tops.length c1)) _ rfl KP.out Tryd.underlying43 rfl pk_size ?_)
    refine (HTOP.out _ GL.out RT.out).mono ?_
    rintro e w1 ⟨rfl, hb⟩
    replace GL := Lib.hid (GL.out.next hb)
    replace R := Lib.hid (R.out.next hb)
    replace KP := Lib.hid (KP.out.next hb)
    replace RT := Lib.hid (RT.out.next hb)
    replace B := Lib.hid (B.out.trans (hb.mono B.out.size))
    clear hb
    go_wp2_with (refine wpList_var rfl rfl 31 5 rfl rfl rfl (.tmp 23) rfl (zb 16) (dc d) dg_zero rfl rfl (dd_len _) (dd_size _) (dc_one _) ?_; intro x5 KD D; replace GL := Lib.hid (GL.out.next D.out); replace R := Lib.hid (R.out.next D.out); replace KP := Lib.hid (KP.out.next D.out); replace RT := Lib.hid (RT.out.next D.out); replace B := Lib.hid (B.out.trans (D.out.mono B.out.size)); clear D)
    refine wp_region_held_drew (S := fun W => Below x5.heap.size x5 W) (by kernel_rfl) (Below.refl _ _).drew (fun hS => ?_)
    generalize x5.drew = w1 at hS ⊢
    refine reg_takeG (i := 0) (some 25) rfl rfl rfl (by kernel_rfl) (by kernel_rfl) (by kernel_rfl) (.int .i64 0) (fun _ _ _ h => h) (fun W hW => exec_move (.tmp 6) rfl _ rfl) hS ?_
    go_frame
    refine reg_valueG (i := 1) (some 26) rfl rfl rfl (by kernel_rfl) (.bool false) (exec_neqI _ (.tmp 25) (.const (.int .i64 0)) _ rfl .i64 0 0 rfl rfl) hS ?_
    go_frame
    refine reg_valueG (i := 2) (some 27) rfl rfl rfl (by kernel_rfl) (.bool false) (exec_move (.tmp 26) rfl _ rfl) hS ?_
    go_frame
    refine reg_takeG (i := 3) (some 28) rfl rfl rfl (by kernel_rfl) (by kernel_rfl) (by kernel_rfl) (dv d) (fun _ _ _ h => h) (fun W hW => exec_loadB (.tmp 5) rfl rfl (KD.out.next hW)) hS ?_
    go_frame
    refine reg_takeG (i := 4) (some 29) rfl rfl rfl (by kernel_rfl) (by kernel_rfl) (by kernel_rfl) (.slice A l.length c) (fun _ _ _ h => h) (fun W hW => exec_move (.tmp 0) rfl _ rfl) hS ?_
    go_frame
    refine reg_takeG (i := 5) (some 30) rfl rfl rfl (by kernel_rfl) (by kernel_rfl) (by kernel_rfl) (.int .i64 k) (fun _ _ _ h => h) (fun W hW => exec_move (.tmp 4) rfl _ rfl) hS ?_
    go_frame
    refine reg_takeG (i := 6) (some 31) rfl rfl rfl (by kernel_rfl) (by kernel_rfl) (by kernel_rfl) (.slice A k c) (fun _ _ _ h => h) (fun W hW => exec_hiD (.tmp 29) (.tmp 30) rfl A l.length c k hk hc rfl rfl) hS ?_
    go_frame
    refine reg_callG (i := 7) (some 32) rfl rfl rfl (by kernel_rfl) rfl Tryd.func15 (by kernel_rfl) (by kernel_rfl) #[.slice A k c] rfl (HROOT.out w1 (GL.out.next hS) (R.out.next hS)) ?_
    rintro e w2 ⟨rfl, hb⟩
    have hS2 := hS.trans (hb.mono hS.size)
    refine ⟨_, rfl, hS2, ?_⟩
    go_frame
    clear hb
    refine reg_valueG (i := 8) (some 33) rfl rfl rfl (by kernel_rfl) (.bool false) (exec_sameNeD (.tmp 28) (.tmp 32) _ rfl d rfl rfl) hS2 ?_
    go_frame
    refine reg_valueG (i := 9) (some 34) rfl rfl rfl (by kernel_rfl) (.bool false) (exec_pickF (.tmp 27) (.const (.bool true)) (.tmp 33) rfl _ rfl rfl) hS2 ?_
    go_frame
    refine reg_valueG (i := 10) (some 35) rfl rfl rfl (by kernel_rfl) (.bool false) (exec_move (.tmp 34) rfl _ rfl) hS2 ?_
    go_frame
    refine reg_takeG (i := 11) (some 36) rfl rfl rfl (by kernel_rfl) (by kernel_rfl) (by kernel_rfl) (.pointer (some ⟨w.heap.size, 0, none⟩)) (fun _ _ _ h => h) (fun W hW => exec_fieldAddr _ (.tmp 3) 0 rfl _ _ rfl (pk_field0 _ W)) hS2 ?_
    go_frame
    refine reg_takeG (i := 12) (some 37) rfl rfl rfl (by kernel_rfl) (by kernel_rfl) (by kernel_rfl) (.int .i64 k) (fun _ _ _ h => h) (fun W hW => exec_load 3 (.tmp 36) rfl _ _ rfl (run_load_cell int_flat ((KP.out.next hW).cell 0))) hS2 ?_
    go_frame
    refine reg_takeG (i := 13) (some 38) rfl rfl rfl (by kernel_rfl) (by kernel_rfl) (by kernel_rfl) (.int .i64 k) (fun _ _ _ h => h) (fun W hW => exec_move (.tmp 4) rfl _ rfl) hS2 ?_
    go_frame
    refine reg_valueG (i := 14) (some 39) rfl rfl rfl (by kernel_rfl) (.bool ((k : Int) != (k : Int))) (exec_neqI _ (.tmp 37) (.tmp 38) _ rfl .i64 k k rfl rfl) hS2 ?_
    go_frame
    rw [show ((k : Int) != (k : Int)) = false from by simp]
    refine reg_valueG (i := 15) (some 40) rfl rfl rfl (by kernel_rfl) (.bool false) (exec_pickF (.tmp 35) (.const (.bool true)) (.tmp 39) rfl _ rfl rfl) hS2 ?_
    go_frame
    refine wpAnyH_done (by kernel_rfl) ?_ _
    replace GL := Lib.hid (GL.out.next hS2)
    replace R := Lib.hid (R.out.next hS2)
    replace KP := Lib.hid (KP.out.next hS2)
    replace RT := Lib.hid (RT.out.next hS2)
    replace KD := Lib.hid (KD.out.next hS2)
    replace B := Lib.hid (B.out.trans (hS2.mono B.out.size))
    clear hS hS2
    by_cases hlt : k < l.length
    case neg =>
      have hkl : k = l.length := by omega
      subst hkl
      have d4 : ((l.length : Int) == (l.length : Int)) = true := by simp
      go_wp2_with fail
      refine (sanity_any _ GL.out).mono ?_
      rintro e w1 ⟨rfl, hb⟩
      replace GL := Lib.hid (GL.out.next hb)
      replace R := Lib.hid (R.out.next hb)
      replace KP := Lib.hid (KP.out.next hb)
      replace RT := Lib.hid (RT.out.next hb)
      replace KD := Lib.hid (KD.out.next hb)
      replace B := Lib.hid (B.out.trans (hb.mono B.out.size))
      clear hb
      go_wp2
      go_ret
      exact ⟨rfl, B.out⟩
    case pos =>
      have d4 : ((k : Int) == (l.length : Int)) = false := by rw [beq_eq_false_iff_ne]; omega
      have d5 : (k == l.length) = false := by rw [beq_eq_false_iff_ne]; omega
      obtain ⟨a, ha⟩ : ∃ a, l[k]? = some a := ⟨l[k], List.getElem?_eq_getElem hlt⟩
      have hgrow := HD.out.grow (by rw [HLEN.out]; omega) a
      rw [HLEN.out] at hgrow
      have e1 : l.take k ++ [a] = l.take (k + 1) := by
        obtain ⟨h1, h2⟩ := List.getElem?_eq_some_iff.1 ha
        rw [List.take_succ_eq_append_getElem h1, h2]
      rw [e1] at hgrow
      have hca := fun W (h1 : All W) (h2 : RdD W A1 tops) => append_any k A1 c1 tops a W h1.1 h1.2.1 h2 (by omega) (by have := HD.out.len; rw [HLEN.out] at this; exact this) HC1.out
      obtain ⟨T5, hT5⟩ : ∃ T, appD tops k a = T := ⟨_, rfl⟩
      rw [hT5] at hgrow hca
      have HGR := Lib.hid hgrow
      have HCA := Lib.hid hca
      have HAT := Lib.hid ha
      clear hgrow hca ha e1 hT5
      go_wp2_with (first | (refine wpList_emptyD rfl rfl ?_; intro Y hoY hbY; have hc1 : Y.cell? ⟨w.heap.size, 1, none⟩ = some (.slice A1 tops.length c1) := (KP.out.next hbY).cell 1) | (refine wpList_appD rfl (.tmp 45) (.tmp 47) rfl w2.heap.size _ [] rfl hoY.out A1 c1 tops rfl (RT.out.next hbY) hbY.size (by have := HTL.out; simp; omega) ?_; intro v7 Z hoZ hbZ'; rw [List.nil_append] at hoZ; have hb := hbY.trans (hbZ'.mono (Nat.le_refl _)); replace GL := Lib.hid (GL.out.next hb); replace R := Lib.hid (R.out.next hb); replace KP := Lib.hid (KP.out.next hb); replace RT := Lib.hid (RT.out.next hb); replace KD := Lib.hid (KD.out.next hb); replace B := Lib.hid (B.out.trans (hb.mono B.out.size)); obtain ⟨A7, c7, rfl, hr7, -⟩ := newD_of_row hoZ; have R7 := Lib.hid hr7; clear hoZ hbZ' hb hbY hoY hc1 hr7))
      obtain ⟨b4, o4, rfl, hc4⟩ := R.out.at HAT.out
      have HC4 := Lib.hid hc4
      have HPP : Hid (Blk Z w.heap.size 43 (pkc k (.slice A1 tops.length c1))) := KP
      clear hc4
      refine wp_region_held_drew (S := fun W => Below Z.heap.size Z W) (by kernel_rfl) (Below.refl _ _).drew (fun hS => ?_)
      generalize Z.drew = w1 at hS ⊢
      refine reg_takeG (i := 0) (some 50) rfl rfl rfl (by kernel_rfl) (by kernel_rfl) (by kernel_rfl) (pkV k (.slice A1 tops.length c1)) (fun _ _ _ h => h) (fun W hW => exec_loadP (.tmp 3) rfl _ _ _ rfl (HPP.out.next hW)) hS ?_
      go_frame
      refine reg_takeG (i := 1) (some 51) rfl rfl rfl (by kernel_rfl) (by kernel_rfl) (by kernel_rfl) (.slice (some ⟨b4, o4, none⟩) l.length c) (fun _ _ _ h => h) (fun W hW => exec_move (.tmp 0) rfl _ rfl) hS ?_
      go_frame
      refine reg_takeG (i := 2) (some 52) rfl rfl rfl (by kernel_rfl) (by kernel_rfl) (by kernel_rfl) (.int .i64 k) (fun _ _ _ h => h) (fun W hW => exec_move (.tmp 4) rfl _ rfl) hS ?_
      go_frame
      refine reg_takeG (i := 3) (some 53) rfl rfl rfl (by kernel_rfl) (by kernel_rfl) (by kernel_rfl) (.pointer (some ⟨b4, o4 + k * 16, none⟩)) (fun _ _ _ h => h) (fun W hW => exec_atD (.tmp 51) (.tmp 52) rfl b4 o4 l.length c k hlt rfl rfl) hS ?_
      go_frame
      refine reg_takeG (i := 4) (some 54) rfl rfl rfl (by kernel_rfl) (by kernel_rfl) (by kernel_rfl) (dv a) (fun _ _ _ h => h) (fun W hW => exec_loadD (.tmp 53) rfl _ _ a rfl (range_below' HC4.out hW)) hS ?_
      go_frame
      refine reg_twoG (i := 5) (k := 9) rfl rfl rfl rfl (by kernel_rfl) ?_ ?_
      · refine opG_call (some 55) rfl rfl Tryd.func25 (by kernel_rfl) (by kernel_rfl) #[pkV k (.slice A1 tops.length c1), dv a] rfl (HCA.out w1 (GL.out.next hS) (RT.out.next hS)) ?_
        rintro e w5 ⟨v5, rfl, ⟨A5, c5, rfl, hr5, hc5⟩, hb5⟩
        have hS5 := hS.trans (hb5.mono hS.size)
        refine ⟨_, rfl, hS5, ?_⟩
        go_frame
        refine reg_takeG (i := 6) (some 49) rfl rfl rfl (by kernel_rfl) (by kernel_rfl) (by kernel_rfl) (.tuple #[pkV ((k : Int) + 1) (.slice A5 T5.length c5), .int .i64 0]) (fun _ _ _ h => h) (fun W hW => exec_move (.tmp 55) rfl _ rfl) hS5 ?_
        go_frame
        refine reg_takeG (i := 7) (some 56) rfl rfl rfl (by kernel_rfl) (by kernel_rfl) (by kernel_rfl) (pkV ((k : Int) + 1) (.slice A5 T5.length c5)) (fun _ _ _ h => h) (fun W hW => exec_extract (.tmp 49) 0 rfl _ _ rfl rfl) hS5 ?_
        go_frame
        refine reg_takeG (i := 8) (some 57) rfl rfl rfl (by kernel_rfl) (by kernel_rfl) (by kernel_rfl) (.int .i64 0) (fun _ _ _ h => h) (fun W hW => exec_extract (.tmp 49) 1 rfl _ _ rfl rfl) hS5 ?_
        go_frame
        have hQ := Blk.new w5 43 (pkc 0 (.slice none 0 0))
        have hal := (Below.refl w5.heap.size w5).alloc (Nat.le_refl _) (.cells (pkc 0 (.slice none 0 0)).toArray 43)
        have hS6 := hS5.trans (hal.mono hS5.size)
        have hr6 := hr5.next hal
        refine reg_allocG (i := 9) (some 8) rfl rfl rfl (by kernel_rfl) 43 rfl (pkc 0 (.slice none 0 0)) pk_zero ⟨hS6, ?_⟩
        go_frame
        have hz5 := hS5.size
        generalize w5.alloc (.cells (pkc 0 (.slice none 0 0)).toArray 43) = w6 at hQ hal hS6 hr6 ⊢
        clear hal
        refine reg_store_all (i := 10) rfl rfl rfl (by kernel_rfl) 43 (.tmp 8) (.tmp 56) rfl w5.heap.size 43 (pkc 0 (.slice none 0 0)) (pkc ((k : Int) + 1) (.slice A5 T5.length c5)) rfl rfl hQ rfl pk_size (pkc_one _ _ _ _) ?_
        intro w7 hk7 ho7
        have hr7 := hr6.pk hQ ho7
        have hS7 := hS6.trans (ho7.below (B := Z.heap.size) hz5)
        refine ⟨hS7, ?_⟩
        go_frame
        refine reg_valueG (i := 11) (some 9) rfl rfl rfl (by kernel_rfl) (.int .i64 0) (exec_assign (.tmp 57) rfl _ rfl) hS7 ?_
        go_frame
        refine wpAnyH_done (by kernel_rfl) ?_ _
        have HR7 := Lib.hid hr7
        have HK7 := Lib.hid hk7
        have HS7 := Lib.hid hS7
        have HC5 := Lib.hid hc5
        clear hz5 hr7 hk7 hS7 hc5 hS6 hS5 hS hr5 hr6 hb5 ho7 hQ
        have HB7 := Lib.hid HS7.out
        clear HS7
        replace GL := Lib.hid (GL.out.next HB7.out)
        replace R := Lib.hid (R.out.next HB7.out)
        replace KP := Lib.hid (KP.out.next HB7.out)
        replace RT := Lib.hid (RT.out.next HB7.out)
        replace KD := Lib.hid (KD.out.next HB7.out)
        replace R7 := Lib.hid (R7.out.next HB7.out)
        replace B := Lib.hid (B.out.trans (HB7.out.mono B.out.size))
        have hc0 : w7.cell? ⟨w.heap.size, 0, none⟩ = some (.int .i64 k) := KP.out.cell 0
        have hc1 : w7.cell? ⟨w.heap.size, 1, none⟩ = some (.slice A1 tops.length c1) := KP.out.cell 1
        go_wp2_with fail
        have hcall := same_any A1 A7 c1 c7 tops tops w7 RT.out R7.out (by have := HTL.out; omega)
        rw [decide_eq_true rfl] at hcall
        refine hcall.mono ?_
        rintro e y ⟨rfl, hb⟩
        replace GL := Lib.hid (GL.out.next hb)
        replace R := Lib.hid (R.out.next hb)
        replace KP := Lib.hid (KP.out.next hb)
        replace RT := Lib.hid (RT.out.next hb)
        replace KD := Lib.hid (KD.out.next hb)
        replace R7 := Lib.hid (R7.out.next hb)
        replace HK7 := Lib.hid (HK7.out.next hb)
        replace HR7 := Lib.hid (HR7.out.next hb)
        replace B := Lib.hid (B.out.trans (hb.mono B.out.size))
        clear hb hcall hc0 hc1
        have hc0 : y.cell? ⟨w.heap.size, 0, none⟩ = some (.int .i64 k) := KP.out.cell 0
        have hne : ((k : Int) != (k : Int)) = false := by simp
        go_wp2_with (first | (refine wpList_load_all rfl _ (.tmp 8) rfl w5.heap.size _ (pkc ((k : Int) + 1) (.slice A5 T5.length c5)) _ rfl HK7.out Tryd.underlying43 rfl pk_size ?_) | (refine wpList_store_all rfl _ (.tmp 3) (.tmp 73) rfl w.heap.size _ (pkc k (.slice A1 tops.length c1)) (pkc ((k : Int) + 1) (.slice A5 T5.length c5)) rfl rfl KP.out rfl pk_size (pkc_one _ _ _ _) ?_; intro w8 HB8 ho8; clear hc0))
        go_roundw
        case rel => exact ⟨k + 1, by go_num, by omega, Lib.hid (B.out.trans (ho8.below (Nat.le_refl _))), Lib.hid ⟨A5, c5, T5, HB8.out, HGR.out, HR7.out.pk KP.out ho8, HC5.out⟩⟩
        case measure => simp [intOf]; omega
      · refine opG_alloc (some 8) rfl 43 rfl (pkc 0 (.slice none 0 0)) pk_zero ?_
        have hQ1 := Blk.new w1 43 (pkc 0 (.slice none 0 0))
        have hal := (Below.refl w1.heap.size w1).alloc (Nat.le_refl _) (.cells (pkc 0 (.slice none 0 0)).toArray 43)
        have hS1 := hS.trans (hal.mono hS.size)
        have hz5 := hS.size
        generalize w1.alloc (.cells (pkc 0 (.slice none 0 0)).toArray 43) = w2 at hQ1 hal hS1 ⊢
        refine ⟨hS1, ?_⟩
        go_frame
        refine reg_callG (i := 5) (some 55) rfl rfl rfl (by kernel_rfl) rfl Tryd.func25 (by kernel_rfl) (by kernel_rfl) #[pkV k (.slice A1 tops.length c1), dv a] rfl (HCA.out w2 (GL.out.next hS1) (RT.out.next hS1)) ?_
        rintro e w5 ⟨v5, rfl, ⟨A5, c5, rfl, hr5, hc5⟩, hb5⟩
        have hS5 := hS1.trans (hb5.mono hS1.size)
        have hQ := hQ1.next hb5
        refine ⟨_, rfl, hS5, ?_⟩
        go_frame
        clear hQ1 hal hS1
        refine reg_takeG (i := 6) (some 49) rfl rfl rfl (by kernel_rfl) (by kernel_rfl) (by kernel_rfl) (.tuple #[pkV ((k : Int) + 1) (.slice A5 T5.length c5), .int .i64 0]) (fun _ _ _ h => h) (fun W hW => exec_move (.tmp 55) rfl _ rfl) hS5 ?_
        go_frame
        refine reg_takeG (i := 7) (some 56) rfl rfl rfl (by kernel_rfl) (by kernel_rfl) (by kernel_rfl) (pkV ((k : Int) + 1) (.slice A5 T5.length c5)) (fun _ _ _ h => h) (fun W hW => exec_extract (.tmp 49) 0 rfl _ _ rfl rfl) hS5 ?_
        go_frame
        refine reg_takeG (i := 8) (some 57) rfl rfl rfl (by kernel_rfl) (by kernel_rfl) (by kernel_rfl) (.int .i64 0) (fun _ _ _ h => h) (fun W hW => exec_extract (.tmp 49) 1 rfl _ _ rfl rfl) hS5 ?_
        go_frame
        have hS6 := hS5
        have hr6 := hr5
        refine reg_store_all (i := 10) rfl rfl rfl (by kernel_rfl) 43 (.tmp 8) (.tmp 56) rfl w1.heap.size 43 (pkc 0 (.slice none 0 0)) (pkc ((k : Int) + 1) (.slice A5 T5.length c5)) rfl rfl hQ rfl pk_size (pkc_one _ _ _ _) ?_
        intro w7 hk7 ho7
        have hr7 := hr6.pk hQ ho7
        have hS7 := hS6.trans (ho7.below (B := Z.heap.size) hz5)
        refine ⟨hS7, ?_⟩
        go_frame
        refine reg_valueG (i := 11) (some 9) rfl rfl rfl (by kernel_rfl) (.int .i64 0) (exec_assign (.tmp 57) rfl _ rfl) hS7 ?_
        go_frame
        refine wpAnyH_done (by kernel_rfl) ?_ _
        have HR7 := Lib.hid hr7
        have HK7 := Lib.hid hk7
        have HS7 := Lib.hid hS7
        have HC5 := Lib.hid hc5
        clear hz5 hr7 hk7 hS7 hc5 hS6 hS5 hS hr5 hr6 hb5 ho7 hQ
        have HB7 := Lib.hid HS7.out
        clear HS7
        replace GL := Lib.hid (GL.out.next HB7.out)
        replace R := Lib.hid (R.out.next HB7.out)
        replace KP := Lib.hid (KP.out.next HB7.out)
        replace RT := Lib.hid (RT.out.next HB7.out)
        replace KD := Lib.hid (KD.out.next HB7.out)
        replace R7 := Lib.hid (R7.out.next HB7.out)
        replace B := Lib.hid (B.out.trans (HB7.out.mono B.out.size))
        have hc0 : w7.cell? ⟨w.heap.size, 0, none⟩ = some (.int .i64 k) := KP.out.cell 0
        have hc1 : w7.cell? ⟨w.heap.size, 1, none⟩ = some (.slice A1 tops.length c1) := KP.out.cell 1
        go_wp2_with fail
        have hcall := same_any A1 A7 c1 c7 tops tops w7 RT.out R7.out (by have := HTL.out; omega)
        rw [decide_eq_true rfl] at hcall
        refine hcall.mono ?_
        rintro e y ⟨rfl, hb⟩
        replace GL := Lib.hid (GL.out.next hb)
        replace R := Lib.hid (R.out.next hb)
        replace KP := Lib.hid (KP.out.next hb)
        replace RT := Lib.hid (RT.out.next hb)
        replace KD := Lib.hid (KD.out.next hb)
        replace R7 := Lib.hid (R7.out.next hb)
        replace HK7 := Lib.hid (HK7.out.next hb)
        replace HR7 := Lib.hid (HR7.out.next hb)
        replace B := Lib.hid (B.out.trans (hb.mono B.out.size))
        clear hb hcall hc0 hc1
        have hc0 : y.cell? ⟨w.heap.size, 0, none⟩ = some (.int .i64 k) := KP.out.cell 0
        have hne : ((k : Int) != (k : Int)) = false := by simp
        go_wp2_with (first | (refine wpList_load_all rfl _ (.tmp 8) rfl w1.heap.size _ (pkc ((k : Int) + 1) (.slice A5 T5.length c5)) _ rfl HK7.out Tryd.underlying43 rfl pk_size ?_) | (refine wpList_store_all rfl _ (.tmp 3) (.tmp 73) rfl w.heap.size _ (pkc k (.slice A1 tops.length c1)) (pkc ((k : Int) + 1) (.slice A5 T5.length c5)) rfl rfl KP.out rfl pk_size (pkc_one _ _ _ _) ?_; intro w8 HB8 ho8; clear hc0))
        go_roundw
        case rel => exact ⟨k + 1, by go_num, by omega, Lib.hid (B.out.trans (ho8.below (Nat.le_refl _))), Lib.hid ⟨A5, c5, T5, HB8.out, HGR.out, HR7.out.pk KP.out ho8, HC5.out⟩⟩
        case measure => simp [intOf]; omega

theorem walkGrow (A : Option Addr) (c : Nat) (l : List Dg) (w : World) (hg : All w) (hr : RdD w A l) (hc : l.length ≤ c) :
    Calls Tryd.prog 7 #[.slice A l.length c] w fun e w' => e = .returned (.bool true) ∧ Below w.heap.size w w' := by
  rcases Nat.lt_or_ge 40 l.length with h | h
  · exact walkGrow_out A l.length c w hg h
  · exact walkGrow_in A c l w hg hr hc h
end Go.Proofs.YtiicnfenbokocaaDoor
