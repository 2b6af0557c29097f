/- plus, less, up and times. -/
import Derived.Test.YtkjnfobaoaaopaaGreatDoorN3
namespace Go.Proofs.YtkjnfobaoaaopaaGreatDoor
open Go.RowKit Hm Wm Wn

theorem addT_all (g : Nat) (S Y : List Nat) (n cap : Nat) (A2 : Option Addr) (c2 f : Nat) (w : World) (hn : S.length = n) (hk : Blk w g 53 (ws S)) (hr : RdW w A2 Y) (hA : Y = [] ∨ Off g A2) (hS : Dig S) (hY : Dig Y) (hf : f < B) (hl : n ≤ 1000000) :
    Calls Tryz.prog 54 #[.slice (some ⟨g, 0, none⟩) n cap, .slice A2 Y.length c2, .int .u64 f] w fun e w' => e = .returned (.int .u64 (addTL S Y f 0).2) ∧ Blk w' g 53 (ws (addTL S Y f 0).1) ∧ Only g w w' := by
  have h := addT_any g [] S [] Y cap A2 c2 f w (by simpa using hk) hr hA hS hY hf (by omega)
  rw [hn] at h
  simpa using h
theorem subT_all (g : Nat) (S Y : List Nat) (n cap : Nat) (A2 : Option Addr) (c2 f : Nat) (w : World) (hn : S.length = n) (hk : Blk w g 53 (ws S)) (hr : RdW w A2 Y) (hA : Y = [] ∨ Off g A2) (hS : Dig S) (hY : Dig Y) (hf : f < B) (hl : n ≤ 1000000) :
    Calls Tryz.prog 55 #[.slice (some ⟨g, 0, none⟩) n cap, .slice A2 Y.length c2, .int .u64 f] w fun e w' => e = .returned (.int .u64 (subTL S Y f 0).2) ∧ Blk w' g 53 (ws (subTL S Y f 0).1) ∧ Only g w w' := by
  have h := subT_any g [] S [] Y cap A2 c2 f w (by simpa using hk) hr hA hS hY hf (by omega)
  rw [hn] at h
  simpa using h
theorem trim_all (g : Nat) (S : List Nat) (n c : Nat) (w : World) (hn : S.length = n) (hk : Blk w g 53 (ws S)) (hd : Dig S) (hc : n ≤ c) (hl : n ≤ 1000000) :
    Calls Tryz.prog 56 #[.slice (some ⟨g, 0, none⟩) n c] w fun e w' => (∃ v, e = .returned v ∧ NewW w' (num S) v) ∧ w' = w := by
  have h := trim_any (some ⟨g, 0, none⟩) c S w (rdW_blk hk) hd (by omega) (by omega)
  rw [hn] at h
  refine h.mono ?_
  rintro e w' ⟨rfl, rfl⟩
  have := digW_len (num_lt hd)
  exact ⟨⟨_, rfl, _, _, rfl, (rdW_blk hk).trim hd, by omega⟩, rfl⟩
/-- A row that can be read lies in older blocks. -/
theorem off_old {w : World} {A : Option Addr} {l : List Nat} (h : RdW w A l) : l = [] ∨ Off w.heap.size A := by
  by_cases hne : l = []
  · exact .inl hne
  refine .inr ?_
  intro a ha
  obtain ⟨b, off, rfl, hc⟩ := h (by intro e; apply hne; have := ws_len l; rw [e] at this; exact List.eq_nil_of_length_eq_zero this.symm)
  cases ha
  rcases l with _ | ⟨d, r⟩
  · exact absurd rfl hne
  · have := World.block_lt_of_cell? w _ (hc 0 (wu d) rfl)
    simp only at this ⊢
    omega
theorem max_pow {X Y : List Nat} {M : Nat} (hM : M = max X.length Y.length) (hX : Dig X) (hY : Dig Y) : num X < B ^ M ∧ num Y < B ^ M := by
  have h1 := num_lt hX
  have h2 := num_lt hY
  exact ⟨Nat.lt_of_lt_of_le h1 (Nat.pow_le_pow_right B_pos (by omega)), Nat.lt_of_lt_of_le h2 (Nat.pow_le_pow_right B_pos (by omega))⟩
theorem num_pad (X : List Nat) (k : Nat) : num (X ++ List.replicate k 0) = num X := by rw [num_append, num_zeros, Nat.mul_zero, Nat.add_zero]
theorem dig_pad {X : List Nat} (h : Dig X) (k : Nat) : Dig (X ++ List.replicate k 0) := Dig.app.2 ⟨h, dig_zeros k⟩

set_option maxRecDepth 100000 in
set_option maxHeartbeats 400000 in
theorem plus_any (A : Option Addr) (c : Nat) (X : List Nat) (A2 : Option Addr) (c2 : Nat) (Y : List Nat) (w : World) (hr : RdW w A X) (hr2 : RdW w A2 Y) (hX : Dig X) (hY : Dig Y) (hl : X.length ≤ 100000) (hl2 : Y.length ≤ 100000) :
    Calls Tryz.prog 39 #[.slice A X.length c, .slice A2 Y.length c2] w fun e w' => ∃ v, e = .returned v ∧ NewW w' (num X + num Y) v ∧ Below w.heap.size w w' := by
  obtain ⟨M, hM⟩ : ∃ M, M = max X.length Y.length := ⟨_, rfl⟩
  obtain ⟨hp1, hp2⟩ := max_pow hM hX hY
  have HMX := Lib.hid (show (max (X.length : Int) (Y.length : Int) + 1) = ((M + 1 : Nat) : Int) by omega)
  have HM1 := Lib.hid (show X.length ≤ M + 1 by omega)
  have HM2 := Lib.hid (show Y.length ≤ M + 1 by omega)
  have HM3 := Lib.hid (show M + 1 ≤ 1000000 by omega)
  have hpow : num X + 1 * num Y < B ^ (M + 1) := by
    have : B ^ M * 2 ≤ B ^ M * B := Nat.mul_le_mul_left _ B_two
    rw [Nat.pow_succ]
    omega
  have HPW := Lib.hid hpow
  have HR := Lib.hid hr
  have HR2 := Lib.hid hr2
  have HOF := Lib.hid (off_old hr2)
  have HX := Lib.hid hX
  have HY := Lib.hid hY
  clear hr hr2 hX hY hp1 hp2 hpow hM
  go_enter Tryz.func39, Tryz.ntmps39
  go_wp2_with (first | (refine wpList_makeW rfl (.tmp 11) (.tmp 11) rfl (M + 1) (congrArg (Value.int .i64) HMX.out) (congrArg (Value.int .i64) HMX.out) HM3.out ?_; intro w1 HK1 HB1) | (refine wpList_copyW rfl (.tmp 13) (.tmp 14) rfl w.heap.size (M + 1) (M + 1) A c _ (zd (M + 1)) X rfl rfl HK1.out HM1.out (HR.out.next HB1.out) (by rw [zd_len]; exact HM1.out) ?_; intro v2 w2 HK2 ho2))
  have HB2 := Lib.hid (HB1.out.trans (ho2.below (Nat.le_refl _)))
  have hS : X ++ (zd (M + 1)).drop X.length = X ++ List.replicate (M + 1 - X.length) 0 := by unfold zd; rw [List.drop_replicate]
  have hk2 := HK2.out
  rw [hS] at hk2
  have hSl : (X ++ List.replicate (M + 1 - X.length) 0).length = M + 1 := by have := HM1.out; rw [List.length_append, List.length_replicate]; omega
  have hSd := dig_pad HX.out (M + 1 - X.length)
  have hSn := num_pad X (M + 1 - X.length)
  obtain ⟨S, hSS⟩ : ∃ S, X ++ List.replicate (M + 1 - X.length) 0 = S := ⟨_, rfl⟩
  rw [hSS] at hk2 hSl hSd hSn
  have HC := Lib.hid (addT_all w.heap.size S Y (M + 1) (M + 1) A2 c2 1 w2 hSl hk2 (HR2.out.next HB2.out) HOF.out hSd HY.out (by decide) HM3.out)
  obtain ⟨hn, -⟩ := addTL_fits (xs := S) (ys := Y) (f := 1) (by have := HM2.out; omega) (by rw [hSn, hSl]; exact HPW.out)
  have hd := addTL_dig S Y 1 0
  have hlen := addTL_len S Y 1 0
  rw [hSl] at hlen
  rw [hSn, Nat.one_mul] at hn
  obtain ⟨R, hR⟩ : ∃ R, (addTL S Y 1 0).1 = R := ⟨_, rfl⟩
  rw [hR] at HC hn hd hlen
  have HN := Lib.hid hn
  have HD := Lib.hid hd
  have HLN := Lib.hid hlen
  clear hS hk2 hSl hSd hSn hSS hn hd hlen hR HK1 HK2 ho2
  go_wp2_with fail
  refine HC.out.mono ?_
  rintro e w3 ⟨rfl, hk3, ho3⟩
  have HB3 := Lib.hid (HB2.out.trans (ho3.below (Nat.le_refl _)))
  have HT := Lib.hid (trim_all w.heap.size R (M + 1) (M + 1) w3 HLN.out hk3 HD.out (Nat.le_refl _) HM3.out)
  clear hk3 ho3 HC
  go_wp2_with fail
  refine HT.out.mono ?_
  rintro e w4 ⟨⟨v, rfl, hv⟩, rfl⟩
  rw [HN.out] at hv
  have HV := Lib.hid hv
  clear hv HT
  go_wp2
  go_ret
  exact ⟨v, rfl, HV.out, HB3.out⟩

set_option maxRecDepth 100000 in
set_option maxHeartbeats 400000 in
theorem less_any (A : Option Addr) (c : Nat) (X : List Nat) (f : Nat) (A2 : Option Addr) (c2 : Nat) (Y : List Nat) (g : Nat) (w : World) (hr : RdW w A X) (hr2 : RdW w A2 Y) (hX : Dig X) (hY : Dig Y) (hf : f < B) (hg : g < B) (hl : X.length ≤ 100000) (hl2 : Y.length ≤ 100000) (hle : g * num Y ≤ f * num X) :
    Calls Tryz.prog 30 #[.slice A X.length c, .int .u64 f, .slice A2 Y.length c2, .int .u64 g] w fun e w' => ∃ v, e = .returned v ∧ NewW w' (f * num X - g * num Y) v ∧ Below w.heap.size w w' := by
  obtain ⟨M, hM⟩ : ∃ M, M = max X.length Y.length := ⟨_, rfl⟩
  obtain ⟨hp1, hp2⟩ := max_pow hM hX hY
  have HMX := Lib.hid (show (max (X.length : Int) (Y.length : Int) + 1) = ((M + 1 : Nat) : Int) by omega)
  have HM1 := Lib.hid (show X.length ≤ M + 1 by omega)
  have HM2 := Lib.hid (show Y.length ≤ M + 1 by omega)
  have HM3 := Lib.hid (show M + 1 ≤ 1000000 by omega)
  have hoff := off_old hr
  have hoff2 := off_old hr2
  have hz : (zd (M + 1)).length = M + 1 := zd_len _
  have hzn : num (zd (M + 1)) = 0 := num_zeros _
  have hpow : num (zd (M + 1)) + f * num X < B ^ (zd (M + 1)).length := by
    rw [hz, hzn, Nat.pow_succ, Nat.zero_add, Nat.mul_comm (B ^ M) B]
    exact Nat.mul_lt_mul_of_lt_of_le hf (Nat.le_of_lt hp1) (Nat.pow_pos B_pos)
  obtain ⟨hn1, -⟩ := addTL_fits (by rw [hz]; omega) hpow
  have hd1 := addTL_dig (zd (M + 1)) X f 0
  have hl1 := addTL_len (zd (M + 1)) X f 0
  rw [hz] at hl1
  rw [hzn, Nat.zero_add] at hn1
  have HC0 := fun (w' : World) (hk : Blk w' w.heap.size 53 (ws (zd (M + 1)))) (hr' : RdW w' A X) => addT_all w.heap.size (zd (M + 1)) X (M + 1) (M + 1) A c f w' hz hk hr' hoff (dig_zeros _) hX hf (by omega)
  obtain ⟨S, hS⟩ : ∃ S, (addTL (zd (M + 1)) X f 0).1 = S := ⟨_, rfl⟩
  rw [hS] at HC0 hn1 hd1 hl1
  have HC1 := fun (w' : World) (hk : Blk w' w.heap.size 53 (ws S)) (hr' : RdW w' A2 Y) => subT_all w.heap.size S Y (M + 1) (M + 1) A2 c2 g w' hl1 hk hr' hoff2 hd1 hY hg (by omega)
  obtain ⟨hn2, -⟩ := subTL_fits (xs := S) (ys := Y) (f := g) hd1 (by omega) (by rw [hn1]; exact hle)
  have hd2 := subTL_dig S Y g 0
  have hl2' := subTL_len S Y g 0
  rw [hl1] at hl2'
  rw [hn1] at hn2
  obtain ⟨R, hR⟩ : ∃ R, (subTL S Y g 0).1 = R := ⟨_, rfl⟩
  rw [hR] at HC1 hn2 hd2 hl2'
  have HA := Lib.hid HC0
  have HS := Lib.hid HC1
  have HN := Lib.hid hn2
  have HD := Lib.hid hd2
  have HLN := Lib.hid hl2'
  have HR := Lib.hid hr
  have HR2 := Lib.hid hr2
  clear hr hr2 hoff hoff2 hX hY hp1 hp2 hpow hM hz hzn hn1 hd1 hl1 HC0 hS HC1 hn2 hd2 hl2' hR hle hf hg
  go_enter Tryz.func30, Tryz.ntmps30
  go_wp2_with (refine wpList_makeW rfl (.tmp 15) (.tmp 15) rfl (M + 1) (congrArg (Value.int .i64) HMX.out) (congrArg (Value.int .i64) HMX.out) HM3.out ?_; intro w1 HK1 HB1)
  refine (HA.out w1 HK1.out (HR.out.next HB1.out)).mono ?_
  rintro e w2 ⟨rfl, hk2, ho2⟩
  have HB2 := Lib.hid (HB1.out.trans (ho2.below (Nat.le_refl _)))
  have HK2 := Lib.hid hk2
  clear hk2 ho2 HK1 HA
  go_wp2_with fail
  refine (HS.out w2 HK2.out (HR2.out.next HB2.out)).mono ?_
  rintro e w3 ⟨rfl, hk3, ho3⟩
  have HB3 := Lib.hid (HB2.out.trans (ho3.below (Nat.le_refl _)))
  have HT := Lib.hid (trim_all w.heap.size R (M + 1) (M + 1) w3 HLN.out hk3 HD.out (Nat.le_refl _) HM3.out)
  clear hk3 ho3 HS HK2
  go_wp2_with fail
  refine HT.out.mono ?_
  rintro e w4 ⟨⟨v, rfl, hv⟩, rfl⟩
  rw [HN.out] at hv
  have HV := Lib.hid hv
  clear hv HT
  go_wp2
  go_ret
  exact ⟨v, rfl, HV.out, HB3.out⟩

end Go.Proofs.YtkjnfobaoaaopaaGreatDoor
