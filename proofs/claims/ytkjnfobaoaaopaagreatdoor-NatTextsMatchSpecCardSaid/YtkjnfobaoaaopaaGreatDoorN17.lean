/- down. -/
import Derived.Test.YtkjnfobaoaaopaaGreatDoorN16
namespace Go.Proofs.YtkjnfobaoaaopaaGreatDoor
open Go.RowKit Hm Wm Wn

/-- A row, shifted down. -/
def dnL : List Nat → Nat → List Nat
  | [], _ => []
  | x :: r, s => (x / 2 ^ s + r.headD 0 * 2 ^ (64 - s) % B) :: dnL r s
theorem dnL_len : ∀ (l : List Nat) (s : Nat), (dnL l s).length = l.length
  | [], _ => rfl
  | _ :: r, s => by rw [dnL, List.length_cons, List.length_cons, dnL_len r s]
theorem dn_two {s : Nat} (hs : s ≤ 64) : 2 ^ s * 2 ^ (64 - s) = B := by
  rw [← Nat.pow_add, show s + (64 - s) = 64 by omega]
  rfl
theorem dn_mod {s h : Nat} (hs : s ≤ 64) : h * 2 ^ (64 - s) % B = h % 2 ^ s * 2 ^ (64 - s) := by rw [← dn_two hs, Nat.mul_mod_mul_right]
theorem dnL_num : ∀ (l : List Nat) (s : Nat), s ≤ 64 → num (dnL l s) = num l / 2 ^ s
  | [], s, _ => by simp [dnL, num]
  | x :: r, s, hs => by
    rw [dnL, num, num, dnL_num r s hs, dn_mod hs]
    have hp := Nat.two_pow_pos s
    have hh : num r % 2 ^ s = r.headD 0 % 2 ^ s := by
      cases r with
      | nil => rfl
      | cons y t =>
        rw [num, List.headD_cons, ← dn_two hs, Nat.mul_assoc, Nat.add_mul_mod_self_left]
    rw [← hh]
    have h1 := Nat.div_add_mod (num r) (2 ^ s)
    rw [← dn_two hs, Nat.mul_assoc, Nat.mul_assoc, Nat.add_mul_div_left _ _ hp]
    conv => rhs; rw [← h1, Nat.mul_add]
    rw [Nat.mul_left_comm (2 ^ (64 - s)) (2 ^ s), Nat.mul_comm (2 ^ (64 - s)) (num r % 2 ^ s)]
    omega
theorem dn_word {s x h : Nat} (hs : s ≤ 64) (hx : x < B) : x / 2 ^ s < 2 ^ (64 - s) ∧ x / 2 ^ s + h % 2 ^ s * 2 ^ (64 - s) < B := by
  have h1 : x / 2 ^ s < 2 ^ (64 - s) := Nat.div_lt_of_lt_mul (by rw [dn_two hs]; exact hx)
  refine ⟨h1, ?_⟩
  have h2 := Nat.mod_lt h (Nat.two_pow_pos s)
  have h3 := Nat.mul_le_mul_right (2 ^ (64 - s)) (Nat.succ_le_of_lt h2)
  rw [dn_two hs, Nat.succ_mul] at h3
  omega
theorem dnL_dig : ∀ (l : List Nat) (s : Nat), s ≤ 64 → Dig l → Dig (dnL l s)
  | [], _, _, _ => fun _ h => by cases h
  | x :: r, s, hs, hd => by
    intro d hd2
    rw [dnL, List.mem_cons] at hd2
    rcases hd2 with rfl | hd2
    · rw [dn_mod hs]
      exact (dn_word hs (hd x (List.mem_cons_self ..))).2
    · exact dnL_dig r s hs (fun y hy => hd y (List.mem_cons_of_mem _ hy)) d hd2
theorem run_orC (x y s a : Nat) (w : World) (hx : a * 2 ^ s = x) (hy : y < 2 ^ s) (hz : y + x < B) : (binOp .or 53 (.int .u64 y) (.int .u64 x)).run Tryz.prog w = .ok (.int .u64 ((y + x : Nat) : Int)) w := by
  have h1 : bits .or .u64 (y : Int) (x : Int) = ((y + x : Nat) : Int) := by
    unfold B at hz
    rw [bits_or_u64_nat y _ (by omega) (by omega), Nat.or_comm, Nat.add_comm]
    congr 1
    rw [← hx, ← Nat.shiftLeft_eq, Nat.shiftLeft_add_eq_or_of_lt hy]
  simp [binOp, go_sem]
  exact h1
theorem run_incI (i : Nat) (h : i ≤ 1000000) (w : World) : (binOp .add 3 (.int .i64 i) (.int .i64 1)).run Tryz.prog w = .ok (.int .i64 ((i + 1 : Nat) : Int)) w := by
  simp [binOp, go_sem]
  simp [IntKind.wrap, IntKind.bits, IntKind.signed]; omega
theorem run_backI (s : Nat) (h : s ≤ 64) (w : World) : (binOp .sub 3 (.int .i64 64) (.int .i64 s)).run Tryz.prog w = .ok (.int .i64 ((64 - s : Nat) : Int)) w := by
  simp [binOp, go_sem]
  simp [IntKind.wrap, IntKind.bits, IntKind.signed]; omega
/-- What stands in the loop of down. -/
def DnR (w : World) (g : Nat) (X : List Nat) (s : Nat) (iv : Value) (wr : World) : Prop :=
  ∃ (i : Nat) (dn : List Nat), iv = .int .i64 i ∧ i ≤ X.length ∧ Hid (dn.length = i) ∧ Hid (dn ++ dnL (X.drop i) s = dnL X s) ∧ Hid (Blk wr g 53 (ws (dn ++ X.drop i))) ∧ Hid (Only g w wr)
set_option maxRecDepth 100000 in
set_option maxHeartbeats 400000 in
theorem down_any (g c : Nat) (X : List Nat) (s : Nat) (w : World) (hk : Blk w g 53 (ws X)) (hX : Dig X) (hs : s < 64) (hl : X.length ≤ 100001) :
    Calls Tryz.prog 60 #[.slice (some ⟨g, 0, none⟩) X.length c, .int .i64 s] w fun e w' => e = .returned (.slice (some ⟨g, 0, none⟩) X.length c) ∧ Blk w' g 53 (ws (dnL X s)) ∧ Only g w w' := by
  have HK := Lib.hid hk
  have HX := Lib.hid hX
  clear hk hX
  go_enter Tryz.func60, Tryz.ntmps60
  go_wp2_with fail
  go_loopw [8] (DnR w g X s) (fun iv _ => X.length - (intOf iv).toNat)
  case atStart => exact ⟨0, [], rfl, Nat.zero_le _, rfl, Lib.hid (by simp), Lib.hid (by simpa using HK.out), Lib.hid (Only.refl _ _)⟩
  case round =>
    obtain ⟨i, dn, rfl, hi, HDN, HD, HB, HO⟩ := hrel
    by_cases hlt : i < X.length
    · have d1 : decide ((i : Int) < (X.length : Int)) = true := decide_eq_true (by omega)
      have d1' : decide (i < X.length) = true := decide_eq_true hlt
      have hxd : X.drop i = X[i] :: X.drop (i + 1) := List.drop_eq_getElem_cons hlt
      have hxB := HX.out _ (List.getElem_mem hlt)
      obtain ⟨x, hx⟩ : ∃ x, X[i] = x := ⟨_, rfl⟩
      rw [hx] at hxd hxB
      obtain ⟨x', hx'⟩ : ∃ x', x / 2 ^ s = x' := ⟨_, rfl⟩
      have hB := HB.out
      have hD := HD.out
      rw [hxd] at hB hD
      have hgm := get_mid [] dn (X.drop (i + 1)) [] x
      have hst := set_mid [] dn (X.drop (i + 1)) [] x x'
      have hgm2 := get_mid [] dn (X.drop (i + 1)) [] x'
      simp only [List.nil_append, List.append_nil, List.length_nil, Nat.zero_add, HDN.out] at hgm hst hgm2
      have hcell : wr.cell? ⟨g, i, none⟩ = some (.int .u64 x) := by
        rw [hB.cell i]
        unfold ws
        rw [List.getElem?_map, hgm]
        rfl
      have hlen : i < (dn ++ x :: X.drop (i + 1)).length := by rw [List.length_append, HDN.out, List.length_cons]; omega
      have HSR := Lib.hid (fun W => run_shrI x x' s W (by omega) hx')
      have hwd := dn_word (h := (X.drop (i + 1)).headD 0) (s := s) (by omega) hxB
      rw [hx'] at hwd
      rw [dnL, hx'] at hD
      by_cases hlast : i + 1 < X.length
      · have d2 : decide ((i : Int) + 1 < (X.length : Int)) = true := decide_eq_true (by omega)
        have d2' : decide (i + 1 < X.length) = true := decide_eq_true hlast
        have hyd : X.drop (i + 1) = X[i + 1] :: X.drop (i + 1 + 1) := List.drop_eq_getElem_cons hlast
        obtain ⟨y, hy⟩ : ∃ y, X[i + 1] = y := ⟨_, rfl⟩
        rw [hy] at hyd
        have hyh : (X.drop (i + 1)).headD 0 = y := by rw [hyd]; rfl
        rw [hyh] at hD hwd
        rw [← dn_mod (s := s) (by omega)] at hwd
        obtain ⟨z, hz⟩ : ∃ z, y * 2 ^ (64 - s) % B = z := ⟨_, rfl⟩
        have hz2 := dn_mod (s := s) (h := y) (by omega)
        rw [hz] at hD hwd hz2
        have HSL := Lib.hid (fun W => run_shlI y z (64 - s) W (by omega) hz)
        have HOR := Lib.hid (fun W => run_orC z x' (64 - s) (y % 2 ^ s) W hz2.symm hwd.1 hwd.2)
        have hst2 := set_mid [] dn (X.drop (i + 1)) [] x' (x' + z)
        have hgm3 : (dn ++ x' :: X.drop (i + 1))[i + 1]? = some y := by
          rw [List.getElem?_append_right (by rw [HDN.out]; omega), HDN.out, show i + 1 - i = 0 + 1 by omega, List.getElem?_cons_succ, hyd]
          rfl
        simp only [List.nil_append, List.append_nil, List.length_nil, Nat.zero_add, HDN.out] at hst2
        have hst3 : dn ++ [x'] ++ X.drop (i + 1) = dn ++ x' :: X.drop (i + 1) := by simp
        rw [hst3] at hst
        have hlen2 : i < (dn ++ x' :: X.drop (i + 1)).length := by rw [List.length_append, HDN.out, List.length_cons]; omega
        have HD2 := Lib.hid (show (dn ++ [x' + z]) ++ dnL (X.drop (i + 1)) s = dnL X s by rw [← hD]; simp)
        have HDN2 := Lib.hid (show (dn ++ [x' + z]).length = i + 1 by rw [List.length_append, HDN.out]; rfl)
        obtain ⟨R, hR⟩ : ∃ R, X.drop (i + 1) = R := ⟨_, rfl⟩
        rw [hR] at hB hst hlen hgm2 hgm3 hst2 hlen2
        have HRR := Lib.hid hR
        obtain ⟨L1, hL1⟩ : ∃ L1, dn ++ x :: R = L1 := ⟨_, rfl⟩
        obtain ⟨L2, hL2⟩ : ∃ L2, dn ++ x' :: R = L2 := ⟨_, rfl⟩
        rw [hL1] at hB hst hlen
        rw [hL2] at hst hgm2 hgm3 hst2 hlen2
        have HBL := Lib.hid hB
        have HST := Lib.hid hst
        have HLN := Lib.hid hlen
        have HG2 := Lib.hid hgm2
        have HG3 := Lib.hid hgm3
        have HST2 := Lib.hid hst2
        have HLN2 := Lib.hid hlen2
        clear hxd hx hxB hx' hB hD hgm hst hgm2 hlen hwd hyd hy hyh hz hz2 hst2 hgm3 hst3 hlen2 hR hL1 hL2 HB HD
        go_wp2_with (first | (refine wpList_dst 16 rfl ?_; refine wpList_run 16 rfl rfl _ (exec_bin .shr 53 _ (.tmp 14) (.tmp 15) rfl _ _ _ rfl rfl rfl (HSR.out _)) ?_) | (refine wpList_store_w rfl (.tmp 17) (.tmp 16) rfl g i _ L1 x' rfl rfl HBL.out HLN.out ?_; intro w5 HB5 ho5; have HO5 := Lib.hid (HO.out.trans ho5); clear ho5))
        skip --@@
        have hk5 := HB5.out
        rw [HST.out] at hk5
        have hc1 : w5.cell? ⟨g, i, none⟩ = some (.int .u64 x') := by
          rw [hk5.cell i]
          unfold ws
          rw [List.getElem?_map, HG2.out]
          rfl
        have hc2 : w5.cell? ⟨g, i + 1, none⟩ = some (.int .u64 y) := by
          rw [hk5.cell (i + 1)]
          unfold ws
          rw [List.getElem?_map, HG3.out]
          rfl
        refine late_begin (S := TillQ 14 (fun W => W.cell? ⟨g, i, none⟩ = some (.int .u64 (x' : Int)) ∧ W.cell? ⟨g, i + 1, none⟩ = some (.int .u64 (y : Int)))) (by kernel_rfl) ?_
        have hS1 : w5.drew.cell? ⟨g, i, none⟩ = some (.int .u64 (x' : Int)) ∧ w5.drew.cell? ⟨g, i + 1, none⟩ = some (.int .u64 (y : Int)) := ⟨hc1, hc2⟩
        have hK1 : Blk w5.drew g 53 (ws L2) := hk5
        have hO1 : Only g w w5.drew := HO5.out.trans ⟨rfl, rfl, rfl, rfl, fun _ _ => rfl⟩
        generalize w5.drew = u1 at hS1 hK1 hO1 ⊢
        have hS0 : ∀ {L}, TillQ 14 (fun W => W.cell? ⟨g, i, none⟩ = some (.int .u64 (x' : Int)) ∧ W.cell? ⟨g, i + 1, none⟩ = some (.int .u64 (y : Int))) L u1 := fun _ => hS1
        refine late_take [14] (i := 0) (some 23) rfl rfl rfl (by kernel_rfl) (by kernel_rfl) (by kernel_rfl) (by kernel_rfl) (by kernel_rfl) (fun Ls W h => h.off (by decide)) (.slice (some ⟨g, 0, none⟩) X.length c) (fun _ _ _ h => h) (fun Ls W hl0 hW => exec_move (.tmp 0) rfl _ rfl) hS0 hS0 ?_
        go_frame
        refine late_take [14] (i := 1) (some 24) rfl rfl rfl (by kernel_rfl) (by kernel_rfl) (by kernel_rfl) (by kernel_rfl) (by kernel_rfl) (fun Ls W h => h.off (by decide)) (.int .i64 i) (fun _ _ _ h => h) (fun Ls W hl0 hW => exec_move (.tmp 5) rfl _ rfl) hS0 hS0 ?_
        go_frame
        refine late_take [14] (i := 2) (some 25) rfl rfl rfl (by kernel_rfl) (by kernel_rfl) (by kernel_rfl) (by kernel_rfl) (by kernel_rfl) (fun Ls W h => h.off (by decide)) (.pointer (some ⟨g, 0 + i, none⟩)) (fun _ _ _ h => h) (fun Ls W hl0 hW => exec_atW (.tmp 23) (.tmp 24) rfl g 0 X.length c i hlt rfl rfl) hS0 hS0 ?_
        go_frame
        refine late_take [14] (i := 3) (some 26) rfl rfl rfl (by kernel_rfl) (by kernel_rfl) (by kernel_rfl) (by kernel_rfl) (by kernel_rfl) (fun Ls W h => h.off (by decide)) (.int .u64 (x' : Int)) (fun _ _ _ h => h) (fun Ls W hl0 hW => exec_loadW (.tmp 25) rfl x' rfl (by rw [Nat.zero_add]; exact (hW (hl0 14 (by simp))).1)) hS0 hS0 ?_
        go_frame
        refine late_take [14] (i := 4) (some 27) rfl rfl rfl (by kernel_rfl) (by kernel_rfl) (by kernel_rfl) (by kernel_rfl) (by kernel_rfl) (fun Ls W h => h.off (by decide)) (.slice (some ⟨g, 0, none⟩) X.length c) (fun _ _ _ h => h) (fun Ls W hl0 hW => exec_move (.tmp 0) rfl _ rfl) hS0 hS0 ?_
        go_frame
        refine late_take [14] (i := 5) (some 28) rfl rfl rfl (by kernel_rfl) (by kernel_rfl) (by kernel_rfl) (by kernel_rfl) (by kernel_rfl) (fun Ls W h => h.off (by decide)) (.int .i64 i) (fun _ _ _ h => h) (fun Ls W hl0 hW => exec_move (.tmp 5) rfl _ rfl) hS0 hS0 ?_
        go_frame
        refine late_take [14] (i := 6) (some 29) rfl rfl rfl (by kernel_rfl) (by kernel_rfl) (by kernel_rfl) (by kernel_rfl) (by kernel_rfl) (fun Ls W h => h.off (by decide)) (.int .i64 ((i + 1 : Nat) : Int)) (fun _ _ _ h => h) (fun Ls W hl0 hW => exec_bin .add 3 _ (.tmp 28) (.const (.int .i64 1)) rfl _ _ _ rfl rfl rfl (run_incI i (by omega) W)) hS0 hS0 ?_
        go_frame
        refine late_take [14] (i := 7) (some 30) rfl rfl rfl (by kernel_rfl) (by kernel_rfl) (by kernel_rfl) (by kernel_rfl) (by kernel_rfl) (fun Ls W h => h.off (by decide)) (.pointer (some ⟨g, 0 + (i + 1), none⟩)) (fun _ _ _ h => h) (fun Ls W hl0 hW => exec_atW (.tmp 27) (.tmp 29) rfl g 0 X.length c (i + 1) hlast rfl rfl) hS0 hS0 ?_
        go_frame
        refine late_take [14] (i := 8) (some 31) rfl rfl rfl (by kernel_rfl) (by kernel_rfl) (by kernel_rfl) (by kernel_rfl) (by kernel_rfl) (fun Ls W h => h.off (by decide)) (.int .u64 (y : Int)) (fun _ _ _ h => h) (fun Ls W hl0 hW => exec_loadW (.tmp 30) rfl y rfl (by rw [Nat.zero_add]; exact (hW (hl0 14 (by simp))).2)) hS0 hS0 ?_
        go_frame
        refine late_take [14] (i := 9) (some 32) rfl rfl rfl (by kernel_rfl) (by kernel_rfl) (by kernel_rfl) (by kernel_rfl) (by kernel_rfl) (fun Ls W h => h.off (by decide)) (.int .i64 s) (fun _ _ _ h => h) (fun Ls W hl0 hW => exec_move (.tmp 1) rfl _ rfl) hS0 hS0 ?_
        go_frame
        refine late_take [14] (i := 10) (some 33) rfl rfl rfl (by kernel_rfl) (by kernel_rfl) (by kernel_rfl) (by kernel_rfl) (by kernel_rfl) (fun Ls W h => h.off (by decide)) (.int .i64 ((64 - s : Nat) : Int)) (fun _ _ _ h => h) (fun Ls W hl0 hW => exec_bin .sub 3 _ (.const (.int .i64 64)) (.tmp 32) rfl _ _ _ rfl rfl rfl (run_backI s (by omega) W)) hS0 hS0 ?_
        go_frame
        refine late_take [14] (i := 11) (some 34) rfl rfl rfl (by kernel_rfl) (by kernel_rfl) (by kernel_rfl) (by kernel_rfl) (by kernel_rfl) (fun Ls W h => h.off (by decide)) (.int .u64 (z : Int)) (fun _ _ _ h => h) (fun Ls W hl0 hW => exec_bin .shl 53 _ (.tmp 31) (.tmp 33) rfl _ _ _ rfl rfl rfl (HSL.out W)) hS0 hS0 ?_
        go_frame
        refine late_take [14] (i := 12) (some 35) rfl rfl rfl (by kernel_rfl) (by kernel_rfl) (by kernel_rfl) (by kernel_rfl) (by kernel_rfl) (fun Ls W h => h.off (by decide)) (.int .u64 ((x' + z : Nat) : Int)) (fun _ _ _ h => h) (fun Ls W hl0 hW => exec_bin .or 53 _ (.tmp 26) (.tmp 34) rfl _ _ _ rfl rfl rfl (HOR.out W)) hS0 hS0 ?_
        go_frame
        refine late_take [14] (i := 13) (some 36) rfl rfl rfl (by kernel_rfl) (by kernel_rfl) (by kernel_rfl) (by kernel_rfl) (by kernel_rfl) (fun Ls W h => h.off (by decide)) (.pointer (some ⟨g, 0 + i, none⟩)) (fun _ _ _ h => h) (fun Ls W hl0 hW => exec_atW (.tmp 23) (.tmp 24) rfl g 0 X.length c i hlt rfl rfl) hS0 hS0 ?_
        go_frame
        refine late_one (i := 14) (by kernel_rfl) (op_wp rfl rfl (wp_store_w (.tmp 36) (.tmp 35) rfl g (0 + i) 53 L2 (x' + z) rfl rfl hK1 (by rw [Nat.zero_add]; exact HLN2.out) (fun w6 hk6 ho6 => ⟨fun h => absurd h (by decide), late_done (by kernel_rfl) ?_ _⟩)))
        go_frame
        rw [Nat.zero_add, HST2.out] at hk6
        have HK6 := Lib.hid hk6
        have HO6 := Lib.hid (hO1.trans ho6)
        clear hk6 ho6 hS1 hK1 hO1 hS0 hc1 hc2 hk5
        go_wp2
        go_roundw
        case rel => exact ⟨i + 1, dn ++ [x' + z], by go_num, by omega, HDN2, HD2, Lib.hid (by rw [HRR.out]; exact HK6.out), HO6⟩
        case measure => simp [intOf]; omega
      · have d2 : decide ((i : Int) + 1 < (X.length : Int)) = false := decide_eq_false (by omega)
        have d2' : decide (i + 1 < X.length) = false := decide_eq_false hlast
        have hn : X.drop (i + 1) = [] := List.drop_eq_nil_of_le (by omega)
        rw [hn] at hB hst hlen hD
        have hz0 : ([] : List Nat).headD 0 * 2 ^ (64 - s) % B = 0 := by simp
        rw [hz0, Nat.add_zero] at hD
        have HD2 := Lib.hid (show (dn ++ [x']) ++ dnL (X.drop (i + 1)) s = dnL X s by rw [← hD, hn]; simp)
        have HDN2 := Lib.hid (show (dn ++ [x']).length = i + 1 by rw [List.length_append, HDN.out]; rfl)
        obtain ⟨L1, hL1⟩ : ∃ L1, dn ++ x :: [] = L1 := ⟨_, rfl⟩
        rw [hL1] at hB hst hlen
        have HRR := Lib.hid hn
        have HBL := Lib.hid hB
        have HST := Lib.hid hst
        have HLN := Lib.hid hlen
        clear hxd hx hxB hx' hB hD hgm hst hgm2 hlen hwd hn hz0 hL1 HB HD
        go_wp2_with (first | (refine wpList_dst 16 rfl ?_; refine wpList_run 16 rfl rfl _ (exec_bin .shr 53 _ (.tmp 14) (.tmp 15) rfl _ _ _ rfl rfl rfl (HSR.out _)) ?_) | (refine wpList_store_w rfl (.tmp 17) (.tmp 16) rfl g i _ L1 x' rfl rfl HBL.out HLN.out ?_; intro w5 HB5 ho5; have HO5 := Lib.hid (HO.out.trans ho5); clear ho5))
        go_roundw
        case rel => exact ⟨i + 1, dn ++ [x'], by go_num, by omega, HDN2, HD2, Lib.hid (by rw [HRR.out, ← HST.out]; exact HB5.out), HO5⟩
        case measure => simp [intOf]; omega
    · obtain rfl : i = X.length := by omega
      have d1 : decide ((X.length : Int) < (X.length : Int)) = false := decide_eq_false (by omega)
      have hD := HD.out
      have hB := HB.out
      rw [List.drop_length] at hD hB
      simp only [dnL, List.append_nil] at hD hB
      have HE := Lib.hid (show Blk wr g 53 (ws (dnL X s)) by rw [← hD]; exact hB)
      clear hD hB HD HB
      go_wp2
      go_ret
      exact ⟨rfl, HE.out, HO.out⟩
end Go.Proofs.YtkjnfobaoaaopaaGreatDoor
