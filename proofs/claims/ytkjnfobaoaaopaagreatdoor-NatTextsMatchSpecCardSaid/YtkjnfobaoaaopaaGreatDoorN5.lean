/- up and times. -/
import Derived.Test.YtkjnfobaoaaopaaGreatDoorN4
namespace Go.Proofs.YtkjnfobaoaaopaaGreatDoor
open Go.RowKit Hm Wm Wn

theorem run_midW (g n c lo hi : Nat) (h1 : lo ≤ hi) (h2 : hi ≤ c) (h3 : lo < c) (W : World) :
    (Instr.sliceAt 50 (.slice (some ⟨g, 0, none⟩) n c) (some (.int .i64 lo)) (some (.int .i64 hi)) none).run Tryz.prog W = .ok (.slice (some ⟨g, lo, none⟩) (hi - lo : Nat) (c - lo : Nat)) W := by
  have hne : c ≠ lo := by omega
  simp [Instr.sliceAt, Instr.slice, run_underlying dg_under, Instr.sliceBounds, run_sliceBound, (by omega : (hi : Int) ≤ c), (by omega : (lo : Int) ≤ hi), hne, Addr.add]
  exact fun h => h.symm
theorem pow_split {a i ly y : Nat} (ha : a < B ^ i) (hy : y < B ^ ly) : a * y < B ^ i * B ^ ly :=
  Nat.mul_lt_mul_of_lt_of_le ha (Nat.le_of_lt hy) (Nat.pow_pos B_pos)
/-- A step of the product. -/
theorem times_step {P X Y : List Nat} {i : Nat} (hP : Dig P) (hX : Dig X) (hY : Dig Y) (hi : i < X.length) (hl : P.length = X.length + Y.length) (hn : num P = num (X.take i) * num Y) :
    (P.take i).length = i ∧ ((P.drop i).take (Y.length + 1)).length = Y.length + 1 ∧ P = P.take i ++ (P.drop i).take (Y.length + 1) ++ (P.drop i).drop (Y.length + 1) ∧
    num (P.take i ++ (addTL ((P.drop i).take (Y.length + 1)) Y X[i] 0).1 ++ (P.drop i).drop (Y.length + 1)) = num (X.take (i + 1)) * num Y ∧
    Dig (P.take i ++ (addTL ((P.drop i).take (Y.length + 1)) Y X[i] 0).1 ++ (P.drop i).drop (Y.length + 1)) ∧
    (P.take i ++ (addTL ((P.drop i).take (Y.length + 1)) Y X[i] 0).1 ++ (P.drop i).drop (Y.length + 1)).length = X.length + Y.length := by
  have h1 : (P.take i).length = i := by rw [List.length_take]; omega
  have h2 : ((P.drop i).take (Y.length + 1)).length = Y.length + 1 := by rw [List.length_take, List.length_drop]; omega
  have h3 : P = P.take i ++ (P.drop i).take (Y.length + 1) ++ (P.drop i).drop (Y.length + 1) := by rw [List.append_assoc, List.take_append_drop, List.take_append_drop]
  have e1 : num P = num (P.take i) + B ^ i * num (P.drop i) := by
    conv => lhs; rw [← List.take_append_drop i P, num_append, h1]
  have e2 : num (P.drop i) = num ((P.drop i).take (Y.length + 1)) + B ^ (Y.length + 1) * num ((P.drop i).drop (Y.length + 1)) := by
    conv => lhs; rw [← List.take_append_drop (Y.length + 1) (P.drop i), num_append, h2]
  have hxt : (X.take i).length = i := by rw [List.length_take]; omega
  have ha := num_lt (hX.take i)
  rw [hxt] at ha
  have hy := num_lt hY
  have hx := hX _ (List.getElem_mem hi)
  have e3 : num (X.take (i + 1)) = num (X.take i) + B ^ i * X[i] := by rw [List.take_succ_eq_append_getElem hi, num_append, hxt]; simp [num]
  have hb : num (P.drop i) < B ^ Y.length := by
    have := pow_split ha hy
    rw [← hn, e1] at this
    exact Nat.lt_of_mul_lt_mul_left (Nat.lt_of_le_of_lt (Nat.le_add_left _ _) this)
  have hfit : num ((P.drop i).take (Y.length + 1)) + X[i] * num Y < B ^ ((P.drop i).take (Y.length + 1)).length := by
    rw [h2, Nat.pow_succ, Nat.mul_comm (B ^ Y.length) B]
    have h4 : X[i] * num Y ≤ (B - 1) * (B ^ Y.length - 1) := Nat.mul_le_mul (by omega) (by omega)
    have h5 : (B - 1) * (B ^ Y.length - 1) + (B ^ Y.length - 1) = B * (B ^ Y.length - 1) := by
      have hB1 : (B - 1) + 1 = B := by decide
      generalize B ^ Y.length - 1 = z
      calc (B - 1) * z + z = ((B - 1) + 1) * z := by rw [Nat.add_mul, Nat.one_mul]
        _ = B * z := by rw [hB1]
    have h6 : B * (B ^ Y.length - 1) + B = B * B ^ Y.length := by
      have h0 : 0 < B ^ Y.length := Nat.pow_pos B_pos
      conv => rhs; rw [show B ^ Y.length = (B ^ Y.length - 1) + 1 by omega, Nat.mul_add, Nat.mul_one]
    have := B_pos
    omega
  obtain ⟨hw, -⟩ := addTL_fits (by rw [h2]; omega) hfit
  have hwl := addTL_len ((P.drop i).take (Y.length + 1)) Y X[i] 0
  have hwd := addTL_dig ((P.drop i).take (Y.length + 1)) Y X[i] 0
  refine ⟨h1, h2, h3, ?_, ?_, ?_⟩
  · rw [List.append_assoc, num_append, num_append, h1, hwl, h2, hw, e3, Nat.add_mul]
    rw [e1] at hn
    rw [← hn, e2]
    generalize num ((P.drop i).take (Y.length + 1)) = p
    generalize B ^ (Y.length + 1) * num ((P.drop i).drop (Y.length + 1)) = q
    rw [Nat.mul_add, Nat.mul_add, Nat.mul_add, Nat.mul_assoc]
    omega
  · exact Dig.app.2 ⟨Dig.app.2 ⟨hP.take i, hwd⟩, (hP.drop i).drop _⟩
  · rw [List.length_append, List.length_append, h1, hwl, h2, List.length_drop, List.length_drop]; omega
theorem wpList_midW {w : World} {ops : Array Oper} {rest : List Oper} {o : Oper} {a : Act} {Q : Exit → Act → World → Prop} (hgd : o.guard = none) (x y z : Operand) (ho : o.op = .slice 50 x (some y) (some z) none) (g n c lo hi : Nat) (h1 : lo ≤ hi) (h2 : hi ≤ c) (h3 : lo < c) (hx : a.eval x = .slice (some ⟨g, 0, none⟩) n c) (hy : a.eval y = .int .i64 lo) (hz : a.eval z = .int .i64 hi)
    (h : wpList Tryz.prog ops Q rest (a.put o.dst (.slice (some ⟨g, lo, none⟩) (hi - lo : Nat) (c - lo : Nat))) w) : wpList Tryz.prog ops Q (o :: rest) a w := by
  have hl := run_midW g n c lo hi h1 h2 h3 w
  rw [← hx, ← hy, ← hz] at hl
  have hrun : (execOp a.eval o).run Tryz.prog w = .ok (.value (.slice (some ⟨g, lo, none⟩) (hi - lo : Nat) (c - lo : Nat))) w := by simp [execOp, ho, hl]
  refine wpList_plain hgd fun K hK => ?_
  unfold Oper.wp
  rw [hrun]
  exact hK _ _ h
/-- What stands in the loop of times. -/
def TiR (w : World) (X Y : List Nat) (iv : Value) (wr : World) : Prop :=
  ∃ (i : Nat) (P : List Nat), iv = .int .i64 i ∧ i ≤ X.length ∧ Hid (P.length = X.length + Y.length) ∧ Hid (Dig P) ∧ Hid (num P = num (X.take i) * num Y) ∧ Hid (Blk wr w.heap.size 53 (ws P)) ∧ Hid (Below w.heap.size w wr)
set_option maxRecDepth 100000 in
set_option maxHeartbeats 400000 in
theorem times_any (A : Option Addr) (c : Nat) (X : List Nat) (A2 : Option Addr) (c2 : Nat) (Y : List Nat) (w : World) (hr : RdW w A X) (hr2 : RdW w A2 Y) (hX : Dig X) (hY : Dig Y) (hl : X.length ≤ 100000) (hl2 : Y.length ≤ 100000) :
    Calls Tryz.prog 40 #[.slice A X.length c, .slice A2 Y.length c2] w fun e w' => ∃ v, e = .returned v ∧ NewW w' (num X * num Y) v ∧ Below w.heap.size w w' := by
  have HR := Lib.hid hr
  have HR2 := Lib.hid hr2
  have HOF := Lib.hid (off_old hr2)
  have HX := Lib.hid hX
  have HY := Lib.hid hY
  clear hr hr2 hX hY
  go_enter Tryz.func40, Tryz.ntmps40
  go_wp2_with (refine wpList_makeW rfl (.tmp 12) (.tmp 12) rfl (X.length + Y.length) (by go_num) (by go_num) (by omega) ?_; intro w1 HK1 HB1)
  go_loopw [16] (TiR w X Y) (fun iv _ => X.length - (intOf iv).toNat)
  case atStart => exact ⟨0, zd (X.length + Y.length), rfl, Nat.zero_le _, Lib.hid (zd_len _), Lib.hid (dig_zeros _), Lib.hid (by unfold zd; rw [num_zeros]; simp [num]), HK1, HB1⟩
  case round =>
    obtain ⟨i, P, rfl, hi, HPL, HPD, HPN, HK, HB⟩ := hrel
    by_cases hlt : i < X.length
    · have d1 : decide ((i : Int) < (X.length : Int)) = true := decide_eq_true (by omega)
      have d1' : decide (i < X.length) = true := decide_eq_true hlt
      obtain ⟨b, off, rfl, hcell⟩ := (HR.out.next HB.out).cell hlt
      obtain ⟨s1, s2, s3, s4, s5, s6⟩ := times_step HPD.out HX.out HY.out hlt HPL.out HPN.out
      have hxB := HX.out _ (List.getElem_mem hlt)
      obtain ⟨x, hx⟩ : ∃ x, X[i] = x := ⟨_, rfl⟩
      rw [hx] at hcell s4 s5 s6 hxB
      have hk := HK.out
      rw [s3] at hk
      have HC := addT_any w.heap.size (P.take i) ((P.drop i).take (Y.length + 1)) ((P.drop i).drop (Y.length + 1)) Y (X.length + Y.length - i) A2 c2 x wr hk (HR2.out.next HB.out) HOF.out ((HPD.out.drop i).take _) HY.out hxB (by omega)
      rw [s1, s2] at HC
      obtain ⟨P2, hP2⟩ : ∃ P2, P.take i ++ (addTL ((P.drop i).take (Y.length + 1)) Y x 0).1 ++ (P.drop i).drop (Y.length + 1) = P2 := ⟨_, rfl⟩
      rw [hP2] at HC s4 s5 s6
      have HCC := Lib.hid HC
      have H4 := Lib.hid s4
      have H5 := Lib.hid s5
      have H6 := Lib.hid s6
      have HE := Lib.hid (show i + Y.length + 1 - i = Y.length + 1 by omega)
      clear hk HC s1 s2 s3 s4 s5 s6 hP2 hx hxB HPL HPD HPN HK
      go_wp2_with (refine wpList_midW rfl (.tmp 21) (.tmp 22) (.tmp 27) rfl w.heap.size (X.length + Y.length) (X.length + Y.length) i (i + Y.length + 1) (by omega) (by omega) (by omega) rfl rfl (by go_num) ?_; rw [HE.out])
      refine HCC.out.mono ?_
      rintro e w3 ⟨rfl, hk3, ho3⟩
      have HK3 := Lib.hid hk3
      have HB3 := Lib.hid (HB.out.trans (ho3.below (Nat.le_refl _)))
      clear hk3 ho3 HCC
      go_wp2
      go_roundw
      case rel => exact ⟨i + 1, P2, by go_num, by omega, H6, H5, H4, HK3, HB3⟩
      case measure => simp [intOf]; omega
    · obtain rfl : i = X.length := by omega
      have d1 : decide ((X.length : Int) < (X.length : Int)) = false := decide_eq_false (by omega)
      have hn := HPN.out
      rw [List.take_length] at hn
      have HT := Lib.hid (trim_all w.heap.size P (X.length + Y.length) (X.length + Y.length) wr HPL.out HK.out HPD.out (Nat.le_refl _) (by omega))
      have HN := Lib.hid hn
      clear hn HPN HPL HPD HK
      go_wp2_with fail
      refine HT.out.mono ?_
      rintro e w4 ⟨⟨v, rfl, hv⟩, rfl⟩
      rw [HN.out] at hv
      have HV := Lib.hid hv
      clear hv HT
      go_wp2
      go_ret
      exact ⟨v, rfl, HV.out, HB.out⟩
end Go.Proofs.YtkjnfobaoaaopaaGreatDoor
