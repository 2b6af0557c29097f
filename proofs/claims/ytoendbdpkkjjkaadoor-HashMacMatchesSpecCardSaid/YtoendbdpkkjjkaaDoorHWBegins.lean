/- The walk of HashExpandBegins. -/
import Derived.Test.YtoendbdpkkjjkaaDoorHWKeys
namespace Go.Proofs.YtoendbdpkkjjkaaDoor
open Go.RowKit Hm Wm

theorem expand_part (seed : List UInt8) (m n : Nat) (h : m ≤ n) : (expand seed n).take m = expand seed m := by
  have e := ex_take seed m ((n + 31) / 32) (by omega)
  unfold expand at e ⊢
  rw [List.take_take, Nat.min_eq_left h, e]
theorem expand_head (seed : List UInt8) (m : Nat) (h : 1 ≤ m) : (expand seed m).take (min m 32) = (Hm.hmac seed [0]).take (min m 32) := by
  obtain ⟨r, hr⟩ := ex_more seed 1 ((m + 31) / 32 - 1)
  rw [show 1 + ((m + 31) / 32 - 1) = (m + 31) / 32 from by omega] at hr
  have e1 : ex seed 1 = Hm.hmac seed [0] := by
    show [] ++ Hm.hmac seed (enc ((0 : Nat) : Int)) = _
    rw [List.nil_append]
    rfl
  unfold expand
  rw [List.take_take, hr, e1, List.take_append_of_le_length (by rw [hmac_len]; omega)]
  congr 1; omega
theorem run_load_u8 (W : World) (p : Addr) (v : Value) (h : W.cell? p = some v) : (Instr.loadAt 5 (.pointer (some p))).run Tryd.prog W = .ok v W := by
  simp [go_sem, h]
theorem run_pair0 (W : World) (b : Nat) : (Instr.indexAt 47 (.pointer (some ⟨b, 0, none⟩)) (.int .i64 0)).run Tryd.prog W = .ok (.pointer (some ⟨b, 0, none⟩)) W := by kernel_rfl
theorem run_pair1 (W : World) (b : Nat) : (Instr.indexAt 47 (.pointer (some ⟨b, 0, none⟩)) (.int .i64 1)).run Tryd.prog W = .ok (.pointer (some ⟨b, 1, none⟩)) W := by kernel_rfl
theorem run_u8_int (W : World) (k : Nat) (h : k < 256) : (convert 5 3 (.int .u8 k)).run Tryd.prog W = .ok (.int .i64 k) W := by
  rw [run_convert_int W 5 3 .u8 k (by kernel_rfl) (by kernel_rfl)]
  rw [show Tryd.prog.intKind 3 = .i64 from by kernel_rfl, IntWalk.i64_in _ (by omega)]
theorem run_one_add (W : World) (k : Nat) (h : k < 256) : (binOp .add 3 (.int .i64 1) (.int .i64 k)).run Tryd.prog W = .ok (.int .i64 ((k + 1 : Nat) : Int)) W := by
  simp [binOp, go_sem]
  rw [IntKind.wrap_i64]; omega

set_option maxRecDepth 100000 in
set_option maxHeartbeats 1000000 in
theorem walkBegins_out (seed : ByteArray) (x y : Int) (w : World) (hg : Glob w) (h : 400 < seed.size) :
    Calls Tryd.prog 11 #[.string seed, .agg #[.int .u8 x, .int .u8 y]] w fun e w' => e = .returned (.bool true) ∧ Below w.heap.size w w' := by
  have HG := Lib.hid (glob_new hg (.cells #[.int .u8 x, .int .u8 y] 47))
  have d1 : decide ((400 : Int) < (seed.size : Int)) = true := by simp; omega
  have HB0 := Lib.hid ((Below.refl w.heap.size w).alloc (Nat.le_refl _) (.cells #[.int .u8 x, .int .u8 y] 47))
  clear hg h
  go_enter Tryd.func11, Tryd.ntmps11
  go_wp2_with fail
  refine (hsanity_any _ HG.out).mono ?_
  rintro e w1 ⟨rfl, hb1⟩
  have HB := Lib.hid (HB0.out.trans (hb1.mono HB0.out.size))
  clear hb1 HB0
  go_wp2
  go_ret
  exact ⟨rfl, HB.out⟩

set_option maxRecDepth 100000 in
set_option maxHeartbeats 1000000 in
theorem walkBegins_in (seed : ByteArray) (x y : Nat) (w : World) (hg : Glob w) (h : seed.size ≤ 400) (hx : x < 256) (hy : y < 256) :
    Calls Tryd.prog 11 #[.string seed, .agg #[.int .u8 x, .int .u8 y]] w fun e w' => e = .returned (.bool true) ∧ Below w.heap.size w w' := by
  have HG := Lib.hid (glob_new hg (.cells #[.int .u8 x, .int .u8 y] 47))
  have d1 : decide ((400 : Int) < (seed.size : Int)) = false := by simp; omega
  have HB0 := Lib.hid ((Below.refl w.heap.size w).alloc (Nat.le_refl _) (.cells #[.int .u8 x, .int .u8 y] 47))
  have HK0 := Lib.hid (Blk.new w 47 [.int .u8 x, .int .u8 y])
  have HSS := Lib.hid (show seed.size ≤ 1000000 by omega)
  obtain ⟨p, hp⟩ : ∃ p, min x y = p := ⟨_, rfl⟩
  obtain ⟨q, hq⟩ : ∃ q, max x y = q := ⟨_, rfl⟩
  have HP := Lib.hid (show min (x : Int) (y : Int) = (p : Int) by omega)
  have HQ := Lib.hid (show max (x : Int) (y : Int) = (q : Int) by omega)
  have HPL := Lib.hid (show p < 256 by omega)
  have HQL := Lib.hid (show q < 256 by omega)
  have HPQ := Lib.hid (show p ≤ q by omega)
  clear hg h hx hy hp hq
  go_enter Tryd.func11, Tryd.ntmps11
  go_wp2_with fail
  refine (hsanity_any _ HG.out).mono ?_
  rintro e w1 ⟨rfl, hb1⟩
  have G1 := Lib.hid (HG.out.next hb1)
  have B1 := Lib.hid (HB0.out.trans (hb1.mono HB0.out.size))
  have K1 := Lib.hid (HK0.out.next hb1)
  clear hb1 HG HB0 HK0
  go_wp2_with fail
  refine wp_region_held_drew (S := fun W => W = w1.drew) (by kernel_rfl) rfl (fun hS => ?_)
  have G2 := Lib.hid G1.out.drew
  have B2 := Lib.hid B1.out.drew
  have K2 := Lib.hid K1.out.drew
  have c0 : w1.drew.cell? ⟨w.heap.size, 0, none⟩ = some (.int .u8 x) := by rw [K2.out.cell 0]; rfl
  have c1 : w1.drew.cell? ⟨w.heap.size, 1, none⟩ = some (.int .u8 y) := by rw [K2.out.cell 1]; rfl
  have C0 := Lib.hid c0
  have C1 := Lib.hid c1
  generalize w1.drew = w2 at hS G2 B2 K2 C0 C1 ⊢
  clear c0 c1 G1 B1 K1
  refine reg_takeG (i := 0) (some 16) rfl rfl rfl (by kernel_rfl) (by kernel_rfl) (by kernel_rfl) (.pointer (some ⟨w.heap.size, 0, none⟩)) (fun _ _ _ h => h) (fun W hW => exec_indexAddr 47 (.tmp 3) (.const (.int .i64 0)) rfl _ _ _ rfl rfl (run_pair0 W w.heap.size)) hS ?_
  go_frame
  refine reg_takeG (i := 1) (some 17) rfl rfl rfl (by kernel_rfl) (by kernel_rfl) (by kernel_rfl) (.int .u8 x) (fun _ _ _ h => h) (fun W hW => exec_load 5 (.tmp 16) rfl _ _ rfl (run_load_u8 W _ _ (by rw [hW]; exact C0.out))) hS ?_
  go_frame
  refine reg_takeG (i := 2) (some 18) rfl rfl rfl (by kernel_rfl) (by kernel_rfl) (by kernel_rfl) (.pointer (some ⟨w.heap.size, 1, none⟩)) (fun _ _ _ h => h) (fun W hW => exec_indexAddr 47 (.tmp 3) (.const (.int .i64 1)) rfl _ _ _ rfl rfl (run_pair1 W w.heap.size)) hS ?_
  go_frame
  refine reg_takeG (i := 3) (some 19) rfl rfl rfl (by kernel_rfl) (by kernel_rfl) (by kernel_rfl) (.int .u8 y) (fun _ _ _ h => h) (fun W hW => exec_load 5 (.tmp 18) rfl _ _ rfl (run_load_u8 W _ _ (by rw [hW]; exact C1.out))) hS ?_
  go_frame
  refine reg_takeG (i := 4) (some 20) rfl rfl rfl (by kernel_rfl) (by kernel_rfl) (by kernel_rfl) (.int .u8 p) (fun _ _ _ h => h) (fun W hW => exec_min (.tmp 17) (.tmp 19) _ rfl .u8 x y p rfl rfl HP.out) hS ?_
  go_frame
  refine reg_takeG (i := 5) (some 21) rfl rfl rfl (by kernel_rfl) (by kernel_rfl) (by kernel_rfl) (.int .i64 p) (fun _ _ _ h => h) (fun W hW => exec_convert 5 3 (.tmp 20) rfl _ _ rfl (run_u8_int W p HPL.out)) hS ?_
  go_frame
  refine reg_takeG (i := 6) (some 22) rfl rfl rfl (by kernel_rfl) (by kernel_rfl) (by kernel_rfl) (.int .i64 ((p + 1 : Nat) : Int)) (fun _ _ _ h => h) (fun W hW => exec_bin .add 3 _ (.const (.int .i64 1)) (.tmp 21) rfl _ _ _ rfl rfl rfl (run_one_add W p HPL.out)) hS ?_
  go_frame
  refine reg_takeG (i := 7) (some 23) rfl rfl rfl (by kernel_rfl) (by kernel_rfl) (by kernel_rfl) (.pointer (some ⟨w.heap.size, 0, none⟩)) (fun _ _ _ h => h) (fun W hW => exec_indexAddr 47 (.tmp 3) (.const (.int .i64 0)) rfl _ _ _ rfl rfl (run_pair0 W w.heap.size)) hS ?_
  go_frame
  refine reg_takeG (i := 8) (some 24) rfl rfl rfl (by kernel_rfl) (by kernel_rfl) (by kernel_rfl) (.int .u8 x) (fun _ _ _ h => h) (fun W hW => exec_load 5 (.tmp 23) rfl _ _ rfl (run_load_u8 W _ _ (by rw [hW]; exact C0.out))) hS ?_
  go_frame
  refine reg_takeG (i := 9) (some 25) rfl rfl rfl (by kernel_rfl) (by kernel_rfl) (by kernel_rfl) (.pointer (some ⟨w.heap.size, 1, none⟩)) (fun _ _ _ h => h) (fun W hW => exec_indexAddr 47 (.tmp 3) (.const (.int .i64 1)) rfl _ _ _ rfl rfl (run_pair1 W w.heap.size)) hS ?_
  go_frame
  refine reg_takeG (i := 10) (some 26) rfl rfl rfl (by kernel_rfl) (by kernel_rfl) (by kernel_rfl) (.int .u8 y) (fun _ _ _ h => h) (fun W hW => exec_load 5 (.tmp 25) rfl _ _ rfl (run_load_u8 W _ _ (by rw [hW]; exact C1.out))) hS ?_
  go_frame
  refine reg_takeG (i := 11) (some 27) rfl rfl rfl (by kernel_rfl) (by kernel_rfl) (by kernel_rfl) (.int .u8 q) (fun _ _ _ h => h) (fun W hW => exec_max (.tmp 24) (.tmp 26) _ rfl .u8 x y q rfl rfl HQ.out) hS ?_
  go_frame
  refine reg_takeG (i := 12) (some 28) rfl rfl rfl (by kernel_rfl) (by kernel_rfl) (by kernel_rfl) (.int .i64 q) (fun _ _ _ h => h) (fun W hW => exec_convert 5 3 (.tmp 27) rfl _ _ rfl (run_u8_int W q HQL.out)) hS ?_
  go_frame
  refine reg_takeG (i := 13) (some 29) rfl rfl rfl (by kernel_rfl) (by kernel_rfl) (by kernel_rfl) (.int .i64 ((q + 1 : Nat) : Int)) (fun _ _ _ h => h) (fun W hW => exec_bin .add 3 _ (.const (.int .i64 1)) (.tmp 28) rfl _ _ _ rfl rfl rfl (run_one_add W q HQL.out)) hS ?_
  go_frame
  refine reg_takeG (i := 14) (some 6) rfl rfl rfl (by kernel_rfl) (by kernel_rfl) (by kernel_rfl) (.int .i64 ((p + 1 : Nat) : Int)) (fun _ _ _ h => h) (fun W hW => exec_assign (.tmp 22) rfl _ rfl) hS ?_
  go_frame
  refine reg_takeG (i := 15) (some 7) rfl rfl rfl (by kernel_rfl) (by kernel_rfl) (by kernel_rfl) (.int .i64 ((q + 1 : Nat) : Int)) (fun _ _ _ h => h) (fun W hW => exec_assign (.tmp 29) rfl _ rfl) hS ?_
  go_frame
  refine wpAnyH_done (by kernel_rfl) ?_ _
  obtain ⟨m, hm⟩ : ∃ m, p + 1 = m := ⟨_, rfl⟩
  obtain ⟨n, hn⟩ : ∃ n, q + 1 = n := ⟨_, rfl⟩
  have HM := Lib.hid (show 1 ≤ m ∧ m ≤ n ∧ n ≤ 256 by have := HPQ.out; have := HQL.out; omega)
  rw [hm, hn]
  clear hm hn hS C0 C1 K2 HP HQ HPL HQL HPQ
  go_wp2_with fail
  refine (expand_any seed m w2 G2.out HSS.out (by have := HM.out; omega) (by have := HM.out; omega)).mono ?_
  rintro e w3 ⟨rfl, hb3⟩
  have G3 := Lib.hid (G2.out.next hb3)
  have B3 := Lib.hid (B2.out.trans (hb3.mono B2.out.size))
  clear hb3 G2 B2
  obtain ⟨SD, hSD⟩ : ∃ SD, seed.data.toList = SD := ⟨_, rfl⟩
  rw [hSD]
  obtain ⟨X, hX⟩ : ∃ X, expand SD m = X := ⟨_, rfl⟩
  have hXs : (sb X).size = m := by rw [sb_size, ← hX, expand_len]
  rw [hX]
  have HX := Lib.hid hX
  have HXS := Lib.hid hXs
  have HSD := Lib.hid hSD
  clear hX hXs hSD
  go_wp2_with fail
  refine (expand_any seed n w3 G3.out HSS.out (by have := HM.out; omega) (by have := HM.out; omega)).mono ?_
  rintro e w4 ⟨rfl, hb4⟩
  have G4 := Lib.hid (G3.out.next hb4)
  have B4 := Lib.hid (B3.out.trans (hb4.mono B3.out.size))
  rw [HSD.out]
  obtain ⟨Y, hY⟩ : ∃ Y, expand SD n = Y := ⟨_, rfl⟩
  have hYs : (sb Y).size = n := by rw [sb_size, ← hY, expand_len]
  have hXs := HXS.out
  rw [hY, show ({ data := X.toArray } : ByteArray) = sb X from rfl, show ({ data := Y.toArray } : ByteArray) = sb Y from rfl]
  have HY := Lib.hid hY
  clear hb4 G3 B3 hY
  go_wp2_with fail
  refine (hmac_any seed { data := #[0] } w4 G4.out HSS.out (by decide)).mono ?_
  rintro e w5 ⟨rfl, hb5⟩
  rw [HSD.out]
  obtain ⟨h, hh⟩ : ∃ h, Hm.hmac SD ({ data := #[0] } : ByteArray).data.toList = h := ⟨_, rfl⟩
  have hl : h.length = 32 := by rw [← hh, hmac_len]
  rw [hh]
  have HH := Lib.hid (show Hm.hmac SD [0] = h from hh)
  have HL := Lib.hid hl
  have G5 := Lib.hid (G4.out.next hb5)
  have B5 := Lib.hid (B4.out.trans (hb5.mono B4.out.size))
  have hYS := Lib.hid hYs
  clear hb5 G4 B4 hh hl hYs hXs
  go_wp2_with fail
  refine (bytes32_any h w5 HL.out).mono ?_
  rintro e w6 ⟨rfl, hb6⟩
  have B6 := Lib.hid (B5.out.trans (hb6.mono B5.out.size))
  have hcut : Y.take m = X := by rw [← HY.out, ← HX.out]; exact expand_part SD m n HM.out.2.1
  obtain ⟨r, hr⟩ : ∃ r, min m 32 = r := ⟨_, rfl⟩
  have hcut2 : X.take r = h.take r := by rw [← HX.out, ← HH.out, ← hr]; exact expand_head SD m HM.out.1
  have hYl : m ≤ Y.length := by rw [← HY.out, expand_len]; exact HM.out.2.1
  have hXl : r ≤ X.length := by rw [← HX.out, expand_len]; omega
  have hhl : r ≤ h.length := by rw [HL.out]; omega
  have hr2 : min (m : Int) 32 = (r : Int) := by omega
  have C1 := Lib.hid hcut
  have C2 := Lib.hid hcut2
  have L1 := Lib.hid hYl
  have L2 := Lib.hid hXl
  have L3 := Lib.hid hhl
  have R := Lib.hid hr2
  clear hb6 G5 B5 hcut hcut2 hYl hXl hhl hr hr2
  go_wp2_with fail
  refine wp_region_held_drew (S := fun W => W = w6.drew) (by kernel_rfl) rfl (fun hS => ?_)
  have B7 := Lib.hid B6.out.drew
  generalize w6.drew = w7 at hS B7 ⊢
  refine reg_takeG (i := 0) (some 49) rfl rfl rfl (by kernel_rfl) (by kernel_rfl) (by kernel_rfl) (.bool true) (fun _ _ _ h => h) (fun W hW => exec_move (.tmp 5) rfl _ rfl) hS ?_
  go_frame
  refine reg_takeG (i := 1) (some 50) rfl rfl rfl (by kernel_rfl) (by kernel_rfl) (by kernel_rfl) (.bool true) (fun _ _ _ h => h) (fun W hW => exec_move (.tmp 49) rfl _ rfl) hS ?_
  go_frame
  refine reg_takeG (i := 2) (some 51) rfl rfl rfl (by kernel_rfl) (by kernel_rfl) (by kernel_rfl) (.string (sb Y)) (fun _ _ _ h => h) (fun W hW => exec_move (.tmp 9) rfl _ rfl) hS ?_
  go_frame
  refine reg_takeG (i := 3) (some 52) rfl rfl rfl (by kernel_rfl) (by kernel_rfl) (by kernel_rfl) (.int .i64 m) (fun _ _ _ h => h) (fun W hW => exec_move (.tmp 6) rfl _ rfl) hS ?_
  go_frame
  refine reg_takeG (i := 4) (some 53) rfl rfl rfl (by kernel_rfl) (by kernel_rfl) (by kernel_rfl) (.string (sb (Y.take m))) (fun _ _ _ h => h) (fun W hW => exec_slice_hi 9 (.tmp 51) (.tmp 52) rfl _ _ _ rfl rfl (run_str_hi W Y m L1.out)) hS ?_
  go_frame
  rw [C1.out]
  refine reg_takeG (i := 5) (some 54) rfl rfl rfl (by kernel_rfl) (by kernel_rfl) (by kernel_rfl) (.string (sb X)) (fun _ _ _ h => h) (fun W hW => exec_move (.tmp 8) rfl _ rfl) hS ?_
  go_frame
  refine reg_takeG (i := 6) (some 55) rfl rfl rfl (by kernel_rfl) (by kernel_rfl) (by kernel_rfl) (.bool (decide (X = X))) (fun _ _ _ h => h) (fun W hW => exec_bin .eql 9 _ (.tmp 53) (.tmp 54) rfl _ _ _ rfl rfl rfl (run_eql_str W X X)) hS ?_
  go_frame
  refine reg_takeG (i := 7) (some 56) rfl rfl rfl (by kernel_rfl) (by kernel_rfl) (by kernel_rfl) (.bool true) (fun _ _ _ h => h) (fun W hW => exec_pick (.tmp 50) (.tmp 55) (.const (.bool false)) rfl _ rfl rfl) hS ?_
  go_frame
  refine reg_takeG (i := 8) (some 57) rfl rfl rfl (by kernel_rfl) (by kernel_rfl) (by kernel_rfl) (.bool true) (fun _ _ _ h => h) (fun W hW => exec_move (.tmp 56) rfl _ rfl) hS ?_
  go_frame
  refine reg_takeG (i := 9) (some 58) rfl rfl rfl (by kernel_rfl) (by kernel_rfl) (by kernel_rfl) (.string (sb X)) (fun _ _ _ h => h) (fun W hW => exec_move (.tmp 8) rfl _ rfl) hS ?_
  go_frame
  refine reg_takeG (i := 10) (some 59) rfl rfl rfl (by kernel_rfl) (by kernel_rfl) (by kernel_rfl) (.int .i64 m) (fun _ _ _ h => h) (fun W hW => exec_move (.tmp 6) rfl _ rfl) hS ?_
  go_frame
  refine reg_takeG (i := 11) (some 60) rfl rfl rfl (by kernel_rfl) (by kernel_rfl) (by kernel_rfl) (.int .i64 r) (fun _ _ _ h => h) (fun W hW => exec_min (.tmp 59) (.const (.int .i64 32)) _ rfl .i64 m 32 r rfl rfl R.out) hS ?_
  go_frame
  refine reg_takeG (i := 12) (some 61) rfl rfl rfl (by kernel_rfl) (by kernel_rfl) (by kernel_rfl) (.string (sb (X.take r))) (fun _ _ _ h => h) (fun W hW => exec_slice_hi 9 (.tmp 58) (.tmp 60) rfl _ _ _ rfl rfl (run_str_hi W X r L2.out)) hS ?_
  go_frame
  rw [C2.out]
  refine reg_takeG (i := 13) (some 62) rfl rfl rfl (by kernel_rfl) (by kernel_rfl) (by kernel_rfl) (.string (sb h)) (fun _ _ _ h => h) (fun W hW => exec_move (.tmp 10) rfl _ rfl) hS ?_
  go_frame
  refine reg_takeG (i := 14) (some 63) rfl rfl rfl (by kernel_rfl) (by kernel_rfl) (by kernel_rfl) (.int .i64 m) (fun _ _ _ h => h) (fun W hW => exec_move (.tmp 6) rfl _ rfl) hS ?_
  go_frame
  refine reg_takeG (i := 15) (some 64) rfl rfl rfl (by kernel_rfl) (by kernel_rfl) (by kernel_rfl) (.int .i64 r) (fun _ _ _ h => h) (fun W hW => exec_min (.tmp 63) (.const (.int .i64 32)) _ rfl .i64 m 32 r rfl rfl R.out) hS ?_
  go_frame
  refine reg_takeG (i := 16) (some 65) rfl rfl rfl (by kernel_rfl) (by kernel_rfl) (by kernel_rfl) (.string (sb (h.take r))) (fun _ _ _ h => h) (fun W hW => exec_slice_hi 9 (.tmp 62) (.tmp 64) rfl _ _ _ rfl rfl (run_str_hi W h r L3.out)) hS ?_
  go_frame
  refine reg_takeG (i := 17) (some 66) rfl rfl rfl (by kernel_rfl) (by kernel_rfl) (by kernel_rfl) (.bool (decide (h.take r = h.take r))) (fun _ _ _ h => h) (fun W hW => exec_bin .eql 9 _ (.tmp 61) (.tmp 65) rfl _ _ _ rfl rfl rfl (run_eql_str W _ _)) hS ?_
  go_frame
  refine reg_takeG (i := 18) (some 67) rfl rfl rfl (by kernel_rfl) (by kernel_rfl) (by kernel_rfl) (.bool true) (fun _ _ _ h => h) (fun W hW => exec_pick (.tmp 57) (.tmp 66) (.const (.bool false)) rfl _ rfl rfl) hS ?_
  go_frame
  refine reg_takeG (i := 19) (some 4) rfl rfl rfl (by kernel_rfl) (by kernel_rfl) (by kernel_rfl) (.bool true) (fun _ _ _ h => h) (fun W hW => exec_assign (.tmp 67) rfl _ rfl) hS ?_
  go_frame
  refine wpAnyH_done (by kernel_rfl) ?_ _
  clear hS
  go_wp2
  go_ret
  exact ⟨rfl, B7.out⟩

theorem walkBegins (seed : ByteArray) (x y : Nat) (w : World) (hg : Glob w) (hx : x < 256) (hy : y < 256) :
    Calls Tryd.prog 11 #[.string seed, .agg #[.int .u8 x, .int .u8 y]] w fun e w' => e = .returned (.bool true) ∧ Below w.heap.size w w' := by
  by_cases h : 400 < seed.size
  · exact walkBegins_out seed x y w hg h
  · exact walkBegins_in seed x y w hg (by omega) hx hy
end Go.Proofs.YtoendbdpkkjjkaaDoor
