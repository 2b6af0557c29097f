/- The reference: DivMod and Gcd. -/
import Derived.Test.YtkjnfobaoaaopaaGreatDoorR6
namespace Go.Proofs.YtkjnfobaoaaopaaGreatDoor
open Go.RowKit Hm Wm Wn

theorem run_str_mid (w : World) (l : List UInt8) (k : Nat) (c : UInt8) (h : l[k]? = some c) : (Instr.sliceAt 9 (.string (sb l)) (some (.int .i64 k)) (some (.int .i64 ((k + 1 : Nat) : Int))) none).run Tryz.prog w = .ok (.string (sb [c])) w := by
  have hs : (sb l).size = l.length := sb_size l
  have hk : k < l.length := by
    rcases Nat.lt_or_ge k l.length with h1 | h1
    · exact h1
    · rw [List.getElem?_eq_none h1] at h; cases h
  have hc : l[k] = c := by rw [List.getElem?_eq_getElem hk] at h; exact Option.some.inj h
  have e : (sb l).extract k (k + 1) = sb [c] := by
    apply ByteArray.ext
    rw [ByteArray.data_extract]
    simp [sb]
    rw [List.drop_eq_getElem_cons hk, hc]
    rfl
  simp [go_sem, run_sliceAt_string, Tryz.underlying9, hs]
  rw [if_pos (by omega), if_pos (by omega), e]
theorem exec_sMid {oi : Oper} {a : Act} {w : World} (x y z : Operand) (ho : oi.op = .slice 9 x (some y) (some z) none) (t c : ByteArray) (g : Nat) (hrun : ∀ W, (Instr.sliceAt 9 (.string t) (some (.int .i64 g)) (some (.int .i64 ((g + 1 : Nat) : Int))) none).run Tryz.prog W = .ok (.string c) W) (hx : a.eval x = .string t) (hy : a.eval y = .int .i64 g) (hz : a.eval z = .int .i64 ((g + 1 : Nat) : Int)) : (execOp a.eval oi).run Tryz.prog w = .ok (.value (.string c)) w := by
  have hl := hrun w
  rw [← hx, ← hy, ← hz] at hl
  simp [execOp, ho, hl]
theorem run_str1 (w : World) (z : UInt8) : (convert 60 9 (.slice (some ⟨w.heap.size, 0, none⟩) 1 1)).run Tryz.prog (w.alloc (.cells #[.int .u8 (z.toNat : Int)] 5)) = .ok (.string (sb [z])) (w.alloc (.cells #[.int .u8 (z.toNat : Int)] 5)) :=
  run_str (l := [z]) (rdB_blk (Blk.new w 5 (bc [z]))) 1
theorem run_fldM (z : ByteArray) (k : Int) (W : World) : (Instr.field 29 (.agg #[.string z, .int .i64 k]) 0).run Tryz.prog W = .ok (.string z) W := by kernel_rfl
theorem run_fldD (y z : ByteArray) (k : Int) (W : World) : (Instr.field 32 (.agg #[.string y, .string z, .int .i64 k]) 1).run Tryz.prog W = .ok (.string z) W := by kernel_rfl
theorem dv_size : (Tryz.prog.info? 32).map (·.size) = some 3 := by kernel_rfl
theorem dv_one (y z : ByteArray) (k : Int) : ∀ v ∈ [Value.string y, .string z, .int .i64 k], v.oneCell' = true := by
  intro v hv
  simp only [List.mem_cons, List.not_mem_nil, or_false] at hv
  rcases hv with rfl | rfl | rfl <;> rfl
def dvV (q r : ByteArray) (k : Int) : Value := .agg #[.string q, .string r, .int .i64 k]
abbrev dvZ : List Value := [.string ⟨#[]⟩, .string ⟨#[]⟩, .int .i64 0]
theorem nil_iff (n : Nat) : cS n = ⟨#[]⟩ ↔ n = 0 := ⟨fun h => by have h1 := congrArg nB h; rw [nB_cS] at h1; rw [h1]; rfl, fun h => by rw [h]; exact c0⟩
set_option maxRecDepth 100000 in
set_option maxHeartbeats 1000000 in
theorem rdiv_zero (s t : ByteArray) (w : World) (ht : t.size ≤ 100000) (h0 : nB t = 0) : Calls Tryz.prog 9 #[.string s, .string t] w fun e w' => e = .returned (dvV ⟨#[]⟩ ⟨#[]⟩ 1) ∧ Below w.heap.size w w' := by
  have HC := Lib.hid (fun W => rcleanC t ⟨#[]⟩ W ht (by rw [h0]; exact c0))
  clear ht h0
  go_enter Tryz.func9, Tryz.ntmps9
  go_wp2_with fail
  have HK0 := Lib.hid (Blk.new w 32 dvZ)
  have HW0 := Lib.hid ((Below.refl w.heap.size w).alloc (Nat.le_refl _) (.cells dvZ.toArray 32))
  refine (HC.out _).mono ?_
  rintro e w1 ⟨rfl, hw⟩
  subst hw
  go_wp2_with (refine wpList_store_all rfl 32 (.tmp 4) (.tmp 12) rfl w.heap.size _ dvZ [.string ⟨#[]⟩, .string ⟨#[]⟩, .int .i64 1] rfl rfl HK0.out rfl dv_size (dv_one _ _ _) ?_; intro w9 HK9 ho9; have HO9 := Lib.hid ho9; clear ho9)
  exact bodyPost_ret (results_blk rfl _ _ w.heap.size _ [.string ⟨#[]⟩, .string ⟨#[]⟩, .int .i64 1] _ rfl HK9.out Tryz.underlying32 rfl dv_size) rfl ⟨rfl, HW0.out.trans (HO9.out.below (Nat.le_refl _))⟩
/-- What stands in the outer loop. -/
def RdO (w : World) (l : List UInt8) (b : Nat) (qv rv kv : Value) (wr : World) : Prop :=
  ∃ (k : Nat) (Q : List UInt8), qv = .string (sb Q) ∧ rv = .string (cS (numB (l.take k) % b)) ∧ kv = .int .i64 k ∧ k ≤ l.length ∧ Hid (Q.length = k) ∧ Hid (numB Q = numB (l.take k) / b) ∧ Hid (Below w.heap.size w wr) ∧ Hid (Blk wr w.heap.size 32 dvZ)
theorem rdiv_step {P b c X n : Nat} (hb : 0 < b) (hX : 256 * (P % b) + c = X) (hn : X / b = n) : (256 * P + c) / b = 256 * (P / b) + n ∧ (256 * P + c) % b = X % b := by
  have e : 256 * P + c = b * (256 * (P / b)) + X := by
    have h := Nat.div_add_mod P b
    have h2 : b * (256 * (P / b)) = 256 * (b * (P / b)) := Nat.mul_left_comm ..
    omega
  rw [e, Nat.mul_add_div hb, Nat.mul_add_mod, hn]
  exact ⟨rfl, rfl⟩
set_option maxRecDepth 100000 in
set_option maxHeartbeats 2000000 in
theorem rdiv_any (s t : ByteArray) (w : World) (hs : s.size ≤ 20000) (ht : t.size ≤ 20000) (h0 : nB t ≠ 0) : Calls Tryz.prog 9 #[.string s, .string t] w fun e w' => e = .returned (dvV (cS (nB s / nB t)) (cS (nB s % nB t)) 0) ∧ Below w.heap.size w w' := by
  obtain ⟨l, hl⟩ : ∃ l, s.data.toList = l := ⟨_, rfl⟩
  have hsl : s.size = l.length := by rw [← hl]; exact Array.length_toList.symm
  have hs1 : s = sb l := by rw [← hl]; exact (show sb s.data.toList = s by cases s; simp [sb]).symm
  have hns : nB s = numB l := by unfold nB; rw [hl]
  obtain ⟨b, hb⟩ : ∃ b, nB t = b := ⟨_, rfl⟩
  have hbt : b < 256 ^ t.size := by rw [← hb]; exact nB_lt t
  rw [hb] at h0
  have hb0 := Nat.pos_of_ne_zero h0
  obtain ⟨T, hT⟩ : ∃ T, cS b = T := ⟨_, rfl⟩
  have hTn : T ≠ ⟨#[]⟩ := fun h => h0 ((nil_iff b).1 (by rw [hT]; exact h))
  have HC := Lib.hid (fun W => rcleanC t T W (by omega) (by rw [hb]; exact hT))
  have HE := Lib.hid (fun W => run_eqS T ⟨#[]⟩ false (decide_eq_false hTn) W)
  have hmid := fun W k c (h : l[k]? = some c) => run_str_mid W l k c h
  rw [← hs1] at hmid
  have HMID := Lib.hid hmid
  have HCM := Lib.hid (fun (X : Nat) W (h : (cS X).size ≤ 100000) => rcmp_any (cS X) t W h (by omega))
  have HSB := Lib.hid (fun (X : Nat) W (h : (cS X).size ≤ 50000) (hle : b ≤ X) => rsub_any (cS X) t W h (by omega) (by rw [nB_cS, hb]; exact hle))
  simp only [nB_cS, hb] at HCM HSB
  have HSZ := Lib.hid (fun (X : Nat) (h : X < 256 * b) => show (cS X).size ≤ 20001 from Nat.le_trans (cS_len (k := t.size + 1) (by rw [Nat.pow_succ]; omega)) (by omega))
  have HL := Lib.hid hsl
  rw [hns, hb]
  have hll : l.length ≤ 20000 := by omega
  clear hl hsl hs1 hns hb h0 hT hTn hmid hs ht hbt
  go_enter Tryz.func9, Tryz.ntmps9
  go_wp2_with fail
  refine (HC.out _).mono ?_
  rintro e w1 ⟨rfl, hw⟩
  subst hw
  go_wp2_with (refine wpList_dst 11 rfl ?_; refine wpList_run 11 rfl rfl _ (exec_bin .eql 9 _ (.tmp 10) (.const (.string ⟨#[]⟩)) rfl _ _ _ rfl rfl rfl (HE.out _)) ?_)
  go_loopw [5, 6, 7] (RdO w l b) (fun _ _ kv _ => l.length - (intOf kv).toNat)
  case atStart => exact ⟨0, [], rfl, by rw [List.take_zero, numB_nil, Nat.zero_mod, c0], rfl, Nat.zero_le _, Lib.hid rfl, Lib.hid (by rw [List.take_zero, numB_nil, Nat.zero_div]), Lib.hid ((Below.refl _ _).alloc (Nat.le_refl _) _), Lib.hid (Blk.new w 32 dvZ)⟩
  case round =>
    obtain ⟨k, Q, rfl, rfl, rfl, hk, HQL, HQN, HW, HZ⟩ := hrel
    by_cases hlt : k < l.length
    · have c1 : decide ((k : Int) < (s.size : Int)) = true := decide_eq_true (by rw [HL.out]; omega)
      have c1' : decide (k < s.size) = true := decide_eq_true (by rw [HL.out]; exact hlt)
      have hc : l[k]? = some l[k] := List.getElem?_eq_getElem hlt
      obtain ⟨c, hcc⟩ : ∃ c, l[k] = c := ⟨_, rfl⟩
      rw [hcc] at hc
      have HM := Lib.hid (fun W => HMID.out W k c hc)
      have htk : l.take (k + 1) = l.take k ++ [c] := by rw [List.take_succ_eq_append_getElem hlt, hcc]
      obtain ⟨P, hP⟩ : ∃ P, numB (l.take k) = P := ⟨_, rfl⟩
      have hPn : numB (l.take (k + 1)) = 256 * P + c.toNat := by rw [htk, numB_snoc, hP]
      rw [hP] at HQN ⊢
      obtain ⟨X, hX⟩ : ∃ X, 256 * (P % b) + c.toNat = X := ⟨_, rfl⟩
      obtain ⟨m, hm⟩ : ∃ m, X / b = m := ⟨_, rfl⟩
      have hst := rdiv_step hb0 hX hm
      have hc256 := UInt8.toNat_lt c
      have hmod := Nat.mod_lt P hb0
      have hXb : X < 256 * b := by omega
      have hm256 : m < 256 := by rw [← hm]; exact Nat.div_lt_of_lt_mul (by rw [Nat.mul_comm]; exact hXb)
      obtain ⟨r, hr⟩ : ∃ r, cS (P % b) = r := ⟨_, rfl⟩
      have hrb : numB r.data.toList = P % b := by rw [← hr]; exact nB_cS _
      have hrs : r.size ≤ 20001 := by rw [← hr]; exact HSZ.out _ (by omega)
      have HCT := Lib.hid (fun W => run_concat W r (sb [c]) (by rw [sb_size]; simp; omega))
      obtain ⟨r2, hr2⟩ : ∃ z, sb (r.data.toList ++ (sb [c]).data.toList) = z := ⟨_, rfl⟩
      have hr2n : nB r2 = X := by rw [← hr2]; unfold nB; rw [sb_list, sb_list, numB_snoc, hrb, hX]
      have hr2s : r2.size ≤ 20002 := by
        rw [← hr2, sb_size, sb_list, List.length_append]
        have : r.data.toList.length = r.size := Array.length_toList
        simp
        omega
      rw [hr2] at HCT
      have HCL := Lib.hid (fun W => rcleanC r2 (cS X) W (by omega) (by rw [hr2n]))
      have HST := Lib.hid hst
      have HPN := Lib.hid hPn
      have HXB := Lib.hid hXb
      have HM2 := Lib.hid (And.intro hm hm256)
      have HK1 := Lib.hid (fun W => run_addN k 1 (k + 1) W rfl (by omega))
      rw [hr]
      clear hc hcc htk hP hPn hX hm hst hc256 hmod hXb hm256 hr hrb hrs hr2 hr2n hr2s
      go_wp2_with (first
        | (refine wpList_dst 23 rfl ?_; refine wpList_run 23 rfl rfl _ (exec_bin .add 3 _ (.tmp 22) (.const (.int .i64 1)) rfl _ _ _ rfl rfl rfl (HK1.out _)) ?_)
        | (refine wpList_dst 24 rfl ?_; refine wpList_run 24 rfl rfl _ (exec_sMid (.tmp 20) (.tmp 21) (.tmp 23) rfl s _ k HM.out rfl rfl rfl) ?_)
        | (refine wpList_dst 25 rfl ?_; refine wpList_run 25 rfl rfl _ (exec_bin .add 9 _ (.tmp 19) (.tmp 24) rfl _ _ _ rfl rfl rfl (HCT.out _)) ?_))
      refine (HCL.out _).mono ?_
      rintro e w2 ⟨rfl, hw⟩
      obtain rfl : wr = w2 := hw.symm
      clear hw HCL HCT HM
      go_wp2_with fail
      go_loopw [6, 8] (fun rv nv wi => ∃ n : Nat, rv = .string (cS (X - n * b)) ∧ nv = .int .i64 n ∧ Hid (n * b ≤ X) ∧ Hid (Below w.heap.size w wi) ∧ Hid (Blk wi w.heap.size 32 dvZ)) (fun _ nv _ => 300 - (intOf nv).toNat)
      case atStart => exact ⟨0, by rw [Nat.zero_mul, Nat.sub_zero], rfl, Lib.hid (by rw [Nat.zero_mul]; exact Nat.zero_le _), HW, HZ⟩
      case round =>
        clear HW HZ
        obtain ⟨n, rfl, rfl, HN, HW, HZ⟩ := hrel
        obtain ⟨Y, hY⟩ : ∃ Y, X - n * b = Y := ⟨_, rfl⟩
        have hn256 : n < 256 := by
          have h1 := HN.out
          have h2 := HXB.out
          exact Nat.lt_of_mul_lt_mul_right (a := b) (by omega)
        have hYs : (cS Y).size ≤ 20001 := HSZ.out Y (by have := HXB.out; omega)
        obtain ⟨cv, hcv⟩ : ∃ z, cmpN Y b = z := ⟨_, rfl⟩
        have HC1 := Lib.hid (fun W => HCM.out Y W (by omega))
        rw [hcv] at HC1
        rw [hY]
        by_cases hYb : b ≤ Y
        · have c2 : decide ((0 : Int) ≤ cv) = true := by
            refine decide_eq_true ?_
            rw [← hcv]; unfold cmpN; rw [if_neg (by omega)]; split <;> omega
          have HS1 := Lib.hid (fun W => HSB.out Y W (by omega) hYb)
          have HN2 := Lib.hid (show (n + 1) * b ≤ X by rw [Nat.succ_mul]; omega)
          have HY2 := Lib.hid (show Y - b = X - (n + 1) * b by rw [Nat.succ_mul]; omega)
          clear hY hYs hcv hYb HN
          unfold mdV at HS1
          go_wp2_with fail
          refine (HC1.out _).mono ?_
          rintro e w2 ⟨rfl, hw⟩
          obtain rfl := hw.symm
          clear hw
          go_wp2_with fail
          refine (HS1.out _).mono ?_
          rintro e w3 ⟨rfl, hb3⟩
          have HW3 := Lib.hid (HW.out.trans (hb3.mono HW.out.size))
          have HZ3 := Lib.hid (HZ.out.next hb3)
          clear hb3
          go_wp2_with (first | (refine wpList_dst 34 rfl ?_; refine wpList_run 34 rfl rfl _ (exec_field 29 (.tmp 33) 0 rfl _ _ rfl (run_fldM _ _ _)) ?_))
          go_roundw
          case rel => exact ⟨n + 1, by rw [HY2.out], by go_num, HN2, HW3, HZ3⟩
          case measure => simp [intOf]; omega
        · have c2 : decide ((0 : Int) ≤ cv) = false := by
            refine decide_eq_false ?_
            rw [← hcv]; unfold cmpN; rw [if_pos (by omega)]; omega
          have hnm : n = X / b := by
            have h1 : X = b * n + Y := by rw [Nat.mul_comm]; have := HN.out; omega
            rw [h1, Nat.mul_add_div hb0, Nat.div_eq_of_lt (by omega), Nat.add_zero]
          have hYm : Y = X % b := by
            have h1 : X = b * n + Y := by rw [Nat.mul_comm]; have := HN.out; omega
            rw [h1, Nat.mul_add_mod, Nat.mod_eq_of_lt (by omega)]
          have HCV := Lib.hid (fun W => run_cvIB n W hn256)
          obtain ⟨z, hz⟩ : ∃ z, UInt8.ofNat n = z := ⟨_, rfl⟩
          have hzn : z.toNat = n := by rw [← hz, UInt8.toNat_ofNat']; exact Nat.mod_eq_of_lt hn256
          rw [hz] at HCV
          have HS1 := Lib.hid (fun W => run_str1 W z)
          have HCT := Lib.hid (fun W => run_concat W (sb Q) (sb [z]) (by rw [sb_size, sb_size]; have := HQL.out; simp; omega))
          rw [sb_list, sb_list] at HCT
          have HQ2 := Lib.hid (show numB (Q ++ [z]) = numB (l.take (k + 1)) / b by rw [HPN.out, HST.out.1, numB_snoc, HQN.out, hzn, hnm, HM2.out.1])
          have HR2 := Lib.hid (show cS Y = cS (numB (l.take (k + 1)) % b) by rw [HPN.out, HST.out.2, hYm])
          have HL2 := Lib.hid (show (Q ++ [z]).length = k + 1 by rw [List.length_append, HQL.out]; rfl)
          clear hY hYs hcv hYb hnm hYm hz hzn HN
          go_wp2_with fail
          refine (HC1.out _).mono ?_
          rintro e w2 ⟨rfl, hw⟩
          obtain rfl := hw.symm
          clear hw
          go_wp2_with (first
            | (refine wpList_dst 39 rfl ?_; refine wpList_run 39 rfl rfl _ (exec_convert 3 5 (.tmp 38) rfl _ _ rfl (HCV.out _)) ?_)
            | (refine wpList_dst 41 rfl ?_; refine wpList_run 41 rfl rfl _ (exec_convert 60 9 (.tmp 40) rfl _ _ rfl (HS1.out _)) ?_)
            | (refine wpList_dst 42 rfl ?_; refine wpList_run 42 rfl rfl _ (exec_bin .add 9 _ (.tmp 37) (.tmp 41) rfl _ _ _ rfl rfl rfl (HCT.out _)) ?_)
            | (refine wpList_dst 18 rfl ?_; refine wpList_run 18 rfl rfl _ (exec_bin .add 3 _ (.tmp 17) (.const (.int .i64 1)) rfl _ _ _ rfl rfl rfl (HK1.out _)) ?_))
          skip --@@
          go_roundw
          case rel => exact ⟨k + 1, Q ++ [z], rfl, by rw [HR2.out], rfl, by omega, HL2, HQ2, Lib.hid (HW.out.alloc HW.out.size _), Lib.hid (HZ.out.alloc _)⟩
          case measure => simp [intOf]; omega
    · obtain rfl : k = l.length := by omega
      have c1 : decide ((l.length : Int) < (s.size : Int)) = false := decide_eq_false (by rw [HL.out]; omega)
      have c1' : decide (l.length < s.size) = false := decide_eq_false (by rw [HL.out]; omega)
      rw [List.take_length] at HQN ⊢
      have HCL := Lib.hid (fun W => rcleanC (sb Q) (cS (numB l / b)) W (by rw [sb_size]; have := HQL.out; omega) (by unfold nB; rw [sb_list, HQN.out]))
      go_wp2_with fail
      refine (HCL.out _).mono ?_
      rintro e w2 ⟨rfl, hw⟩
      obtain rfl : wr = w2 := hw.symm
      clear hw
      go_wp2_with (refine wpList_store_all rfl 32 (.tmp 4) (.tmp 46) rfl w.heap.size _ dvZ [.string (cS (numB l / b)), .string (cS (numB l % b)), .int .i64 0] rfl rfl HZ.out rfl dv_size (dv_one _ _ _) ?_; intro w9 HK9 ho9; have HO9 := Lib.hid ho9; clear ho9)
      exact bodyPost_ret (results_blk rfl _ _ w.heap.size _ [.string (cS (numB l / b)), .string (cS (numB l % b)), .int .i64 0] _ rfl HK9.out Tryz.underlying32 rfl dv_size) rfl ⟨rfl, HW.out.trans (HO9.out.below (Nat.le_refl _))⟩
end Go.Proofs.YtkjnfobaoaaopaaGreatDoor
