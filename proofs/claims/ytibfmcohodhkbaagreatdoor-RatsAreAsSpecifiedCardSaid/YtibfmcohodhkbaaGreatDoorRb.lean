/- The reference: DivMod and Gcd. -/
import Derived.Test.YtibfmcohodhkbaaGreatDoorRa
import Derived.Deep.LoopGhost
namespace Go.Proofs.YtibfmcohodhkbaaGreatDoor
open Go.RowKit Hm Wm Wn

theorem run_str_mid (w : World) (l : List UInt8) (k : Nat) (c : UInt8) (h : l[k]? = some c) : (Instr.sliceAt 9 (.string (sb l)) (some (.int .i64 k)) (some (.int .i64 ((k + 1 : Nat) : Int))) none).run Tryz.prog w = .ok (.string (sb [c])) w := by
  have hs : (sb l).size = l.length := sb_size l
  have hk : k < l.length := by
    rcases Nat.lt_or_ge k l.length with h1 | h1
    · exact h1
    · rw [List.getElem?_eq_none h1] at h; cases h
  have hc : l[k] = c := by rw [List.getElem?_eq_getElem hk] at h; exact Option.some.inj h
  have e : (sb l).extract k (k + 1) = sb [c] := by
    apply ByteArray.ext
    rw [ByteArray.data_extract]
    simp [sb]
    rw [List.drop_eq_getElem_cons hk, hc]
    rfl
  simp [go_sem, run_sliceAt_string, Tryz.underlying9, hs]
  rw [if_pos (by omega), if_pos (by omega), e]
theorem exec_sMid {oi : Oper} {a : Act} {w : World} (x y z : Operand) (ho : oi.op = .slice 9 x (some y) (some z) none) (t c : ByteArray) (g : Nat) (hrun : ∀ W, (Instr.sliceAt 9 (.string t) (some (.int .i64 g)) (some (.int .i64 ((g + 1 : Nat) : Int))) none).run Tryz.prog W = .ok (.string c) W) (hx : a.eval x = .string t) (hy : a.eval y = .int .i64 g) (hz : a.eval z = .int .i64 ((g + 1 : Nat) : Int)) : (execOp a.eval oi).run Tryz.prog w = .ok (.value (.string c)) w := by
  have hl := hrun w
  rw [← hx, ← hy, ← hz] at hl
  simp [execOp, ho, hl]
theorem run_str1 (w : World) (z : UInt8) : (convert 84 9 (.slice (some ⟨w.heap.size, 0, none⟩) 1 1)).run Tryz.prog (w.alloc (.cells #[.int .u8 (z.toNat : Int)] 5)) = .ok (.string (sb [z])) (w.alloc (.cells #[.int .u8 (z.toNat : Int)] 5)) :=
  run_str (l := [z]) (rdB_blk (Blk.new w 5 (bc [z]))) 1
theorem run_fldM (z : ByteArray) (k : Int) (W : World) : (Instr.field 79 (.agg #[.string z, .int .i64 k]) 0).run Tryz.prog W = .ok (.string z) W := by kernel_rfl
theorem run_fldD (y z : ByteArray) (k : Int) (W : World) : (Instr.field 68 (.agg #[.string y, .string z, .int .i64 k]) 1).run Tryz.prog W = .ok (.string z) W := by kernel_rfl
theorem dv_size : (Tryz.prog.info? 68).map (·.size) = some 3 := by kernel_rfl
theorem dv_one (y z : ByteArray) (k : Int) : ∀ v ∈ [Value.string y, .string z, .int .i64 k], v.oneCell' = true := by
  intro v hv
  simp only [List.mem_cons, List.not_mem_nil, or_false] at hv
  rcases hv with rfl | rfl | rfl <;> rfl
def dvV (q r : ByteArray) (k : Int) : Value := .agg #[.string q, .string r, .int .i64 k]
abbrev dvZ : List Value := [.string ⟨#[]⟩, .string ⟨#[]⟩, .int .i64 0]
theorem nil_iff (n : Nat) : cS n = ⟨#[]⟩ ↔ n = 0 := ⟨fun h => by have h1 := congrArg nB h; rw [nB_cS] at h1; rw [h1]; rfl, fun h => by rw [h]; exact c0⟩
set_option maxRecDepth 100000 in
set_option maxHeartbeats 1000000 in
theorem rdiv_zero (s t : ByteArray) (w : World) (ht : t.size ≤ 100000) (h0 : nB t = 0) : Calls Tryz.prog 53 #[.string s, .string t] w fun e w' => e = .returned (dvV ⟨#[]⟩ ⟨#[]⟩ 1) ∧ Below w.heap.size w w' := by
  have HC := Lib.hid (fun W => rcleanC t ⟨#[]⟩ W ht (by rw [h0]; exact c0))
  clear ht h0
  go_enter Tryz.func53, Tryz.ntmps53
  go_wp2_with fail
  have HK0 := Lib.hid (Blk.new w 68 dvZ)
  have HW0 := Lib.hid ((Below.refl w.heap.size w).alloc (Nat.le_refl _) (.cells dvZ.toArray 68))
  refine (HC.out _).mono ?_
  rintro e w1 ⟨rfl, hw⟩
  subst hw
  go_wp2_with (refine wpList_store_all rfl 68 (.tmp 4) (.tmp 12) rfl w.heap.size _ dvZ [.string ⟨#[]⟩, .string ⟨#[]⟩, .int .i64 1] rfl rfl HK0.out rfl dv_size (dv_one _ _ _) ?_; intro w9 HK9 ho9; have HO9 := Lib.hid ho9; clear ho9)
  exact bodyPost_ret (results_blk rfl _ _ w.heap.size _ [.string ⟨#[]⟩, .string ⟨#[]⟩, .int .i64 1] _ rfl HK9.out Tryz.underlying68 rfl dv_size) rfl ⟨rfl, HW0.out.trans (HO9.out.below (Nat.le_refl _))⟩
/-- What stands in the outer loop. -/
def RdO (w : World) (l : List UInt8) (b : Nat) (qv rv kv : Value) (wr : World) : Prop :=
  ∃ (k : Nat) (Q : List UInt8), qv = .string (sb Q) ∧ rv = .string (cS (numB (l.take k) % b)) ∧ kv = .int .i64 k ∧ k ≤ l.length ∧ Hid (Q.length = k) ∧ Hid (numB Q = numB (l.take k) / b) ∧ Hid (Below w.heap.size w wr) ∧ Hid (Blk wr w.heap.size 68 dvZ)
theorem rdiv_step {P b c X n : Nat} (hb : 0 < b) (hX : 256 * (P % b) + c = X) (hn : X / b = n) : (256 * P + c) / b = 256 * (P / b) + n ∧ (256 * P + c) % b = X % b := by
  have e : 256 * P + c = b * (256 * (P / b)) + X := by
    have h := Nat.div_add_mod P b
    have h2 : b * (256 * (P / b)) = 256 * (b * (P / b)) := Nat.mul_left_comm ..
    omega
  rw [e, Nat.mul_add_div hb, Nat.mul_add_mod, hn]
  exact ⟨rfl, rfl⟩
set_option maxRecDepth 100000 in
set_option maxHeartbeats 2000000 in
theorem rdiv_any (s t : ByteArray) (w : World) (hs : s.size ≤ 20000) (ht : t.size ≤ 20000) (h0 : nB t ≠ 0) : Calls Tryz.prog 53 #[.string s, .string t] w fun e w' => e = .returned (dvV (cS (nB s / nB t)) (cS (nB s % nB t)) 0) ∧ Below w.heap.size w w' := by
  obtain ⟨l, hl⟩ : ∃ l, s.data.toList = l := ⟨_, rfl⟩
  have hsl : s.size = l.length := by rw [← hl]; exact Array.length_toList.symm
  have hs1 : s = sb l := by rw [← hl]; exact (show sb s.data.toList = s by cases s; simp [sb]).symm
  have hns : nB s = numB l := by unfold nB; rw [hl]
  obtain ⟨b, hb⟩ : ∃ b, nB t = b := ⟨_, rfl⟩
  have hbt : b < 256 ^ t.size := by rw [← hb]; exact nB_lt t
  rw [hb] at h0
  have hb0 := Nat.pos_of_ne_zero h0
  obtain ⟨T, hT⟩ : ∃ T, cS b = T := ⟨_, rfl⟩
  have hTn : T ≠ ⟨#[]⟩ := fun h => h0 ((nil_iff b).1 (by rw [hT]; exact h))
  have HC := Lib.hid (fun W => rcleanC t T W (by omega) (by rw [hb]; exact hT))
  have HE := Lib.hid (fun W => run_eqS T ⟨#[]⟩ false (decide_eq_false hTn) W)
  have hmid := fun W k c (h : l[k]? = some c) => run_str_mid W l k c h
  rw [← hs1] at hmid
  have HMID := Lib.hid hmid
  have HCM := Lib.hid (fun (X : Nat) W (h : (cS X).size ≤ 100000) => rcmp_any (cS X) t W h (by omega))
  have HSB := Lib.hid (fun (X : Nat) W (h : (cS X).size ≤ 50000) (hle : b ≤ X) => rsub_any (cS X) t W h (by omega) (by rw [nB_cS, hb]; exact hle))
  simp only [nB_cS, hb] at HCM HSB
  have HSZ := Lib.hid (fun (X : Nat) (h : X < 256 * b) => show (cS X).size ≤ 20001 from Nat.le_trans (cS_len (k := t.size + 1) (by rw [Nat.pow_succ]; omega)) (by omega))
  have HL := Lib.hid hsl
  rw [hns, hb]
  have hll : l.length ≤ 20000 := by omega
  clear hl hsl hs1 hns hb h0 hT hTn hmid hs ht hbt
  go_enter Tryz.func53, Tryz.ntmps53
  go_wp2_with fail
  refine (HC.out _).mono ?_
  rintro e w1 ⟨rfl, hw⟩
  subst hw
  go_wp2_with (refine wpList_dst 11 rfl ?_; refine wpList_run 11 rfl rfl _ (exec_bin .eql 9 _ (.tmp 10) (.const (.string ⟨#[]⟩)) rfl _ _ _ rfl rfl rfl (HE.out _)) ?_)
  go_loopw [5, 6, 7] (RdO w l b) (fun _ _ kv _ => l.length - (intOf kv).toNat)
  case atStart => exact ⟨0, [], rfl, by rw [List.take_zero, numB_nil, Nat.zero_mod, c0], rfl, Nat.zero_le _, Lib.hid rfl, Lib.hid (by rw [List.take_zero, numB_nil, Nat.zero_div]), Lib.hid ((Below.refl _ _).alloc (Nat.le_refl _) _), Lib.hid (Blk.new w 68 dvZ)⟩
  case round =>
    obtain ⟨k, Q, rfl, rfl, rfl, hk, HQL, HQN, HW, HZ⟩ := hrel
    by_cases hlt : k < l.length
    · have c1 : decide ((k : Int) < (s.size : Int)) = true := decide_eq_true (by rw [HL.out]; omega)
      have c1' : decide (k < s.size) = true := decide_eq_true (by rw [HL.out]; exact hlt)
      have hc : l[k]? = some l[k] := List.getElem?_eq_getElem hlt
      obtain ⟨c, hcc⟩ : ∃ c, l[k] = c := ⟨_, rfl⟩
      rw [hcc] at hc
      have HM := Lib.hid (fun W => HMID.out W k c hc)
      have htk : l.take (k + 1) = l.take k ++ [c] := by rw [List.take_succ_eq_append_getElem hlt, hcc]
      obtain ⟨P, hP⟩ : ∃ P, numB (l.take k) = P := ⟨_, rfl⟩
      have hPn : numB (l.take (k + 1)) = 256 * P + c.toNat := by rw [htk, numB_snoc, hP]
      rw [hP] at HQN ⊢
      obtain ⟨X, hX⟩ : ∃ X, 256 * (P % b) + c.toNat = X := ⟨_, rfl⟩
      obtain ⟨m, hm⟩ : ∃ m, X / b = m := ⟨_, rfl⟩
      have hst := rdiv_step hb0 hX hm
      have hc256 := UInt8.toNat_lt c
      have hmod := Nat.mod_lt P hb0
      have hXb : X < 256 * b := by omega
      have hm256 : m < 256 := by rw [← hm]; exact Nat.div_lt_of_lt_mul (by rw [Nat.mul_comm]; exact hXb)
      obtain ⟨r, hr⟩ : ∃ r, cS (P % b) = r := ⟨_, rfl⟩
      have hrb : numB r.data.toList = P % b := by rw [← hr]; exact nB_cS _
      have hrs : r.size ≤ 20001 := by rw [← hr]; exact HSZ.out _ (by omega)
      have HCT := Lib.hid (fun W => run_concat W r (sb [c]) (by rw [sb_size]; simp; omega))
      obtain ⟨r2, hr2⟩ : ∃ z, sb (r.data.toList ++ (sb [c]).data.toList) = z := ⟨_, rfl⟩
      have hr2n : nB r2 = X := by rw [← hr2]; unfold nB; rw [sb_list, sb_list, numB_snoc, hrb, hX]
      have hr2s : r2.size ≤ 20002 := by
        rw [← hr2, sb_size, sb_list, List.length_append]
        have : r.data.toList.length = r.size := Array.length_toList
        simp
        omega
      rw [hr2] at HCT
      have HCL := Lib.hid (fun W => rcleanC r2 (cS X) W (by omega) (by rw [hr2n]))
      have HST := Lib.hid hst
      have HPN := Lib.hid hPn
      have HXB := Lib.hid hXb
      have HM2 := Lib.hid (And.intro hm hm256)
      have HK1 := Lib.hid (fun W => run_addN k 1 (k + 1) W rfl (by omega))
      rw [hr]
      clear hc hcc htk hP hPn hX hm hst hc256 hmod hXb hm256 hr hrb hrs hr2 hr2n hr2s
      go_wp2_with (first
        | (refine wpList_dst 23 rfl ?_; refine wpList_run 23 rfl rfl _ (exec_bin .add 3 _ (.tmp 22) (.const (.int .i64 1)) rfl _ _ _ rfl rfl rfl (HK1.out _)) ?_)
        | (refine wpList_dst 24 rfl ?_; refine wpList_run 24 rfl rfl _ (exec_sMid (.tmp 20) (.tmp 21) (.tmp 23) rfl s _ k HM.out rfl rfl rfl) ?_)
        | (refine wpList_dst 25 rfl ?_; refine wpList_run 25 rfl rfl _ (exec_bin .add 9 _ (.tmp 19) (.tmp 24) rfl _ _ _ rfl rfl rfl (HCT.out _)) ?_))
      refine (HCL.out _).mono ?_
      rintro e w2 ⟨rfl, hw⟩
      obtain rfl : wr = w2 := hw.symm
      clear hw HCL HCT HM
      go_wp2_with fail
      go_loopw [6, 8] (fun rv nv wi => ∃ n : Nat, rv = .string (cS (X - n * b)) ∧ nv = .int .i64 n ∧ Hid (n * b ≤ X) ∧ Hid (Below w.heap.size w wi) ∧ Hid (Blk wi w.heap.size 68 dvZ)) (fun _ nv _ => 300 - (intOf nv).toNat)
      case atStart => exact ⟨0, by rw [Nat.zero_mul, Nat.sub_zero], rfl, Lib.hid (by rw [Nat.zero_mul]; exact Nat.zero_le _), HW, HZ⟩
      case round =>
        clear HW HZ
        obtain ⟨n, rfl, rfl, HN, HW, HZ⟩ := hrel
        obtain ⟨Y, hY⟩ : ∃ Y, X - n * b = Y := ⟨_, rfl⟩
        have hn256 : n < 256 := by
          have h1 := HN.out
          have h2 := HXB.out
          exact Nat.lt_of_mul_lt_mul_right (a := b) (by omega)
        have hYs : (cS Y).size ≤ 20001 := HSZ.out Y (by have := HXB.out; omega)
        obtain ⟨cv, hcv⟩ : ∃ z, cmpN Y b = z := ⟨_, rfl⟩
        have HC1 := Lib.hid (fun W => HCM.out Y W (by omega))
        rw [hcv] at HC1
        rw [hY]
        by_cases hYb : b ≤ Y
        · have c2 : decide ((0 : Int) ≤ cv) = true := by
            refine decide_eq_true ?_
            rw [← hcv]; unfold cmpN; rw [if_neg (by omega)]; split <;> omega
          have HS1 := Lib.hid (fun W => HSB.out Y W (by omega) hYb)
          have HN2 := Lib.hid (show (n + 1) * b ≤ X by rw [Nat.succ_mul]; omega)
          have HY2 := Lib.hid (show Y - b = X - (n + 1) * b by rw [Nat.succ_mul]; omega)
          clear hY hYs hcv hYb HN
          unfold mdV at HS1
          go_wp2_with fail
          refine (HC1.out _).mono ?_
          rintro e w2 ⟨rfl, hw⟩
          obtain rfl := hw.symm
          clear hw
          go_wp2_with fail
          refine (HS1.out _).mono ?_
          rintro e w3 ⟨rfl, hb3⟩
          have HW3 := Lib.hid (HW.out.trans (hb3.mono HW.out.size))
          have HZ3 := Lib.hid (HZ.out.next hb3)
          clear hb3
          go_wp2_with (first | (refine wpList_dst 34 rfl ?_; refine wpList_run 34 rfl rfl _ (exec_field 79 (.tmp 33) 0 rfl _ _ rfl (run_fldM _ _ _)) ?_))
          go_roundw
          case rel => exact ⟨n + 1, by rw [HY2.out], by go_num, HN2, HW3, HZ3⟩
          case measure => simp [intOf]; omega
        · have c2 : decide ((0 : Int) ≤ cv) = false := by
            refine decide_eq_false ?_
            rw [← hcv]; unfold cmpN; rw [if_pos (by omega)]; omega
          have hnm : n = X / b := by
            have h1 : X = b * n + Y := by rw [Nat.mul_comm]; have := HN.out; omega
            rw [h1, Nat.mul_add_div hb0, Nat.div_eq_of_lt (by omega), Nat.add_zero]
          have hYm : Y = X % b := by
            have h1 : X = b * n + Y := by rw [Nat.mul_comm]; have := HN.out; omega
            rw [h1, Nat.mul_add_mod, Nat.mod_eq_of_lt (by omega)]
          have HCV := Lib.hid (fun W => run_cvIB n W hn256)
          obtain ⟨z, hz⟩ : ∃ z, UInt8.ofNat n = z := ⟨_, rfl⟩
          have hzn : z.toNat = n := by rw [← hz, UInt8.toNat_ofNat']; exact Nat.mod_eq_of_lt hn256
          rw [hz] at HCV
          have HS1 := Lib.hid (fun W => run_str1 W z)
          have HCT := Lib.hid (fun W => run_concat W (sb Q) (sb [z]) (by rw [sb_size, sb_size]; have := HQL.out; simp; omega))
          rw [sb_list, sb_list] at HCT
          have HQ2 := Lib.hid (show numB (Q ++ [z]) = numB (l.take (k + 1)) / b by rw [HPN.out, HST.out.1, numB_snoc, HQN.out, hzn, hnm, HM2.out.1])
          have HR2 := Lib.hid (show cS Y = cS (numB (l.take (k + 1)) % b) by rw [HPN.out, HST.out.2, hYm])
          have HL2 := Lib.hid (show (Q ++ [z]).length = k + 1 by rw [List.length_append, HQL.out]; rfl)
          clear hY hYs hcv hYb hnm hYm hz hzn HN
          go_wp2_with fail
          refine (HC1.out _).mono ?_
          rintro e w2 ⟨rfl, hw⟩
          obtain rfl := hw.symm
          clear hw
          go_wp2_with (first
            | (refine wpList_dst 39 rfl ?_; refine wpList_run 39 rfl rfl _ (exec_convert 3 5 (.tmp 38) rfl _ _ rfl (HCV.out _)) ?_)
            | (refine wpList_dst 41 rfl ?_; refine wpList_run 41 rfl rfl _ (exec_convert 84 9 (.tmp 40) rfl _ _ rfl (HS1.out _)) ?_)
            | (refine wpList_dst 42 rfl ?_; refine wpList_run 42 rfl rfl _ (exec_bin .add 9 _ (.tmp 37) (.tmp 41) rfl _ _ _ rfl rfl rfl (HCT.out _)) ?_)
            | (refine wpList_dst 18 rfl ?_; refine wpList_run 18 rfl rfl _ (exec_bin .add 3 _ (.tmp 17) (.const (.int .i64 1)) rfl _ _ _ rfl rfl rfl (HK1.out _)) ?_))
          skip --@@
          go_roundw
          case rel => exact ⟨k + 1, Q ++ [z], rfl, by rw [HR2.out], rfl, by omega, HL2, HQ2, Lib.hid (HW.out.alloc HW.out.size _), Lib.hid (HZ.out.alloc _)⟩
          case measure => simp [intOf]; omega
    · obtain rfl : k = l.length := by omega
      have c1 : decide ((l.length : Int) < (s.size : Int)) = false := decide_eq_false (by rw [HL.out]; omega)
      have c1' : decide (l.length < s.size) = false := decide_eq_false (by rw [HL.out]; omega)
      rw [List.take_length] at HQN ⊢
      have HCL := Lib.hid (fun W => rcleanC (sb Q) (cS (numB l / b)) W (by rw [sb_size]; have := HQL.out; omega) (by unfold nB; rw [sb_list, HQN.out]))
      go_wp2_with fail
      refine (HCL.out _).mono ?_
      rintro e w2 ⟨rfl, hw⟩
      obtain rfl : wr = w2 := hw.symm
      clear hw
      go_wp2_with (refine wpList_store_all rfl 68 (.tmp 4) (.tmp 46) rfl w.heap.size _ dvZ [.string (cS (numB l / b)), .string (cS (numB l % b)), .int .i64 0] rfl rfl HZ.out rfl dv_size (dv_one _ _ _) ?_; intro w9 HK9 ho9; have HO9 := Lib.hid ho9; clear ho9)
      exact bodyPost_ret (results_blk rfl _ _ w.heap.size _ [.string (cS (numB l / b)), .string (cS (numB l % b)), .int .i64 0] _ rfl HK9.out Tryz.underlying68 rfl dv_size) rfl ⟨rfl, HW.out.trans (HO9.out.below (Nat.le_refl _))⟩
end Go.Proofs.YtibfmcohodhkbaaGreatDoor

/- The reference: Gcd, Int and Value. -/
namespace Go.Proofs.YtibfmcohodhkbaaGreatDoor
open Go.RowKit Hm Wm Wn

theorem run_neqS (x y : ByteArray) (b : Bool) (h : decide (x ≠ y) = b) (w : World) : (binOp .neq 9 (.string x) (.string y)).run Tryz.prog w = .ok (.bool b) w := by
  subst h
  have h1 := run_neq_str w x.data.toList y.data.toList
  rw [show sb x.data.toList = x by cases x; simp [sb], show sb y.data.toList = y by cases y; simp [sb]] at h1
  rw [h1]
  congr 2
  refine decide_eq_decide.2 ⟨fun h e => h (by rw [e]), fun h e => h ?_⟩
  cases x
  cases y
  simpa using e
set_option maxRecDepth 100000 in
set_option maxHeartbeats 1000000 in
theorem rgcd_any (s t : ByteArray) (w : World) (hs : s.size ≤ 20000) (ht : t.size ≤ 20000) : Calls Tryz.prog 61 #[.string s, .string t] w fun e w' => e = .returned (.string (cS (Nat.gcd (nB s) (nB t)))) ∧ Below w.heap.size w w' := by
  have HC1 := Lib.hid (fun W => rclean_any s W (by omega))
  have HC2 := Lib.hid (fun W => rclean_any t W (by omega))
  have HS1 := Lib.hid (show (cS (nB s)).size ≤ 20000 from cS_less (Nat.le_refl _) hs)
  have HS2 := Lib.hid (show (cS (nB t)).size ≤ 20000 from cS_less (Nat.le_refl _) ht)
  generalize nB s = a at HC1 HS1 ⊢
  generalize nB t = b at HC2 HS2 ⊢
  clear hs ht
  go_enter Tryz.func61, Tryz.ntmps61
  go_wp2_with fail
  refine (HC1.out w).mono ?_
  rintro e w1 ⟨rfl, hw⟩
  obtain rfl : w = w1 := hw.symm
  go_wp2_with fail
  refine (HC2.out w).mono ?_
  rintro e w1 ⟨rfl, hw⟩
  obtain rfl : w = w1 := hw.symm
  go_wp2_with fail
  go_loopg [5, 6] b (fun g xv yv wr => ∃ X : Nat, xv = .string (cS X) ∧ yv = .string (cS g) ∧ Hid (Nat.gcd X g = Nat.gcd a b) ∧ Hid ((cS X).size ≤ 20000) ∧ Hid ((cS g).size ≤ 20000) ∧ Hid (Below w.heap.size w wr))
  case atStart => exact ⟨a, rfl, rfl, Lib.hid rfl, HS1, HS2, Lib.hid (Below.refl _ _)⟩
  case round =>
    obtain ⟨X, rfl, rfl, HG, HX, HY, HW⟩ := hrel
    by_cases h0 : gk = 0
    · subst h0
      have HE := Lib.hid (show X = Nat.gcd a b by rw [← HG.out, Nat.gcd_zero_right])
      rw [c0]
      go_wp2_with fail
      go_ret
      exact ⟨by rw [← HE.out]; rfl, HW.out⟩
    · have H13 := Lib.hid (fun W => run_neqS (cS gk) ⟨#[]⟩ true (decide_eq_true (fun h => h0 ((nil_iff gk).1 h))) W)
      have hdv := fun W => rdiv_any (cS X) (cS gk) W HX.out HY.out (by rw [nB_cS]; exact h0)
      simp only [nB_cS] at hdv
      have HDV := Lib.hid hdv
      have HG2 := Lib.hid (show Nat.gcd gk (X % gk) = Nat.gcd a b by rw [gcd_rest, HG.out])
      have HL := Lib.hid (Nat.mod_lt X (Nat.pos_of_ne_zero h0))
      have HY2 := Lib.hid (show (cS (X % gk)).size ≤ 20000 from cS_less (x := cS gk) (by rw [nB_cS]; exact Nat.le_of_lt HL.out) HY.out)
      clear hdv h0
      go_wp2_with (first | (refine wpList_dst 13 rfl ?_; refine wpList_run 13 rfl rfl _ (exec_bin .neq 9 _ (.tmp 12) (.const (.string ⟨#[]⟩)) rfl _ _ _ rfl rfl rfl (H13.out _)) ?_))
      refine (HDV.out wr).mono ?_
      unfold dvV
      rintro e w2 ⟨rfl, hb⟩
      have HW2 := Lib.hid (HW.out.trans (hb.mono HW.out.size))
      clear hb
      go_wp2_with (first | (refine wpList_dst 17 rfl ?_; refine wpList_run 17 rfl rfl _ (exec_field 68 (.tmp 16) 1 rfl _ _ rfl (run_fldD _ _ _ _)) ?_))
      go_roundg (X % gk)
      case measure => exact HL.out
      case rel => exact ⟨gk, rfl, rfl, HG2, HY, HY2, HW2⟩
set_option maxRecDepth 100000 in
set_option maxHeartbeats 1000000 in
theorem rint_neg (n : Int) (w : World) (h : n < 0) : Calls Tryz.prog 80 #[.int .i64 n] w fun e w' => e = .returned (mdV ⟨#[]⟩ 3) ∧ Below w.heap.size w w' := by
  have c1 : decide (n < 0) = true := decide_eq_true h
  have HK0 := Lib.hid (Blk.new w 79 [.string ⟨#[]⟩, .int .i64 0])
  have HW0 := Lib.hid ((Below.refl w.heap.size w).alloc (Nat.le_refl _) (.cells #[.string ⟨#[]⟩, .int .i64 0] 79))
  clear h
  go_enter Tryz.func80, Tryz.ntmps80
  go_wp2_with (refine wpList_store_all rfl 79 (.tmp 2) (.tmp 6) rfl w.heap.size _ [.string ⟨#[]⟩, .int .i64 0] [.string ⟨#[]⟩, .int .i64 3] rfl rfl HK0.out rfl md_size (md_one _ _) ?_; intro w9 HK9 ho9; have HO9 := Lib.hid ho9; clear ho9)
  exact bodyPost_ret (results_blk rfl _ _ w.heap.size _ [.string ⟨#[]⟩, .int .i64 3] _ rfl HK9.out Tryz.underlying79 rfl md_size) rfl ⟨rfl, HW0.out.trans (HO9.out.below (Nat.le_refl _))⟩
set_option maxRecDepth 100000 in
set_option maxHeartbeats 1000000 in
theorem rint_any (n : Nat) (w : World) (h : n ≤ 9223372036854775807) : Calls Tryz.prog 80 #[.int .i64 n] w fun e w' => e = .returned (mdV (cS n) 0) ∧ Below w.heap.size w w' := by
  have c1 : decide ((n : Int) < 0) = false := decide_eq_false (by omega)
  have HL8 := Lib.hid (show (canS n).length ≤ 8 from canS_len_le (Nat.lt_of_le_of_lt h (by decide)))
  go_enter Tryz.func80, Tryz.ntmps80
  go_wp2
  go_loopw [0, 3] (fun nv ov wr => ∃ (m : Nat) (L : List UInt8), nv = .int .i64 m ∧ ov = .string (sb L) ∧ m ≤ n ∧ Hid (canS n = canS m ++ L) ∧ Hid (Below w.heap.size w wr) ∧ Hid (Blk wr w.heap.size 79 [.string ⟨#[]⟩, .int .i64 0])) (fun nv _ _ => (intOf nv).toNat)
  case atStart => exact ⟨n, [], rfl, rfl, Nat.le_refl _, Lib.hid (List.append_nil _).symm, Lib.hid ((Below.refl _ _).alloc (Nat.le_refl _) _), Lib.hid (Blk.new w 79 [.string ⟨#[]⟩, .int .i64 0])⟩
  case round =>
    obtain ⟨m, L, rfl, rfl, hm, HC, HW, HZ⟩ := hrel
    by_cases h0 : 0 < m
    · have c2 : decide ((0 : Int) < (m : Int)) = true := decide_eq_true (by omega)
      have c2' : decide (0 < m) = true := decide_eq_true h0
      have HRM := Lib.hid (fun W => run_rem256 m W (by omega))
      have HQU := Lib.hid (fun W => run_quo256 m W (by omega))
      have HCV := Lib.hid (fun W => run_cvIB (m % 256) W (Nat.mod_lt _ (by decide)))
      obtain ⟨z, hz⟩ : ∃ z, UInt8.ofNat (m % 256) = z := ⟨_, rfl⟩
      have hcs := canS_pos (show m ≠ 0 by omega)
      rw [hz] at HCV hcs
      have HS1 := Lib.hid (fun W => run_str1 W z)
      have hL8 : L.length ≤ 8 := by have h1 := congrArg List.length HC.out; rw [List.length_append] at h1; have := HL8.out; omega
      have HCT := Lib.hid (fun W => run_concat W (sb [z]) (sb L) (by rw [sb_size, sb_size]; simp; omega))
      rw [sb_list, sb_list] at HCT
      have HC2 := Lib.hid (show canS n = canS (m / 256) ++ ([z] ++ L) by rw [HC.out, hcs, List.append_assoc])
      obtain ⟨q, hq⟩ : ∃ q, m / 256 = q := ⟨_, rfl⟩
      obtain ⟨r, hr⟩ : ∃ q, m % 256 = q := ⟨_, rfl⟩
      rw [hr] at HRM HCV
      rw [hq] at HQU HC2
      have hqm : q < m := by rw [← hq]; exact Nat.div_lt_self h0 (by decide)
      clear hz hcs hL8 HC hq hr
      go_wp2_with (first
        | (refine wpList_dst 10 rfl ?_; refine wpList_run 10 rfl rfl _ (exec_bin .rem 3 _ (.tmp 9) (.const (.int .i64 256)) rfl _ _ _ rfl rfl rfl (HRM.out _)) ?_)
        | (refine wpList_dst 11 rfl ?_; refine wpList_run 11 rfl rfl _ (exec_convert 3 5 (.tmp 10) rfl _ _ rfl (HCV.out _)) ?_)
        | (refine wpList_dst 13 rfl ?_; refine wpList_run 13 rfl rfl _ (exec_convert 84 9 (.tmp 12) rfl _ _ rfl (HS1.out _)) ?_)
        | (refine wpList_dst 15 rfl ?_; refine wpList_run 15 rfl rfl _ (exec_bin .add 9 _ (.tmp 13) (.tmp 14) rfl _ _ _ rfl rfl rfl (HCT.out _)) ?_)
        | (refine wpList_dst 17 rfl ?_; refine wpList_run 17 rfl rfl _ (exec_bin .quo 3 _ (.tmp 16) (.const (.int .i64 256)) rfl _ _ _ rfl rfl rfl (HQU.out _)) ?_))
      go_roundw
      case rel => exact ⟨q, [z] ++ L, rfl, rfl, by omega, HC2, Lib.hid (HW.out.alloc HW.out.size _), Lib.hid (HZ.out.alloc _)⟩
      case measure => simp [intOf]; omega
    · obtain rfl : m = 0 := by omega
      have HE := Lib.hid (show sb L = cS n by unfold cS; rw [HC.out, canS_zero]; rfl)
      rw [HE.out]
      have c2 : decide ((0 : Int) < ((0 : Nat) : Int)) = false := by decide
      go_wp2_with (refine wpList_store_all rfl 79 (.tmp 2) (.tmp 19) rfl w.heap.size _ [.string ⟨#[]⟩, .int .i64 0] [.string (cS n), .int .i64 0] rfl rfl HZ.out rfl md_size (md_one _ _) ?_; intro w9 HK9 ho9; have HO9 := Lib.hid ho9; clear ho9)
      exact bodyPost_ret (results_blk rfl _ _ w.heap.size _ [.string (cS n), .int .i64 0] _ rfl HK9.out Tryz.underlying79 rfl md_size) rfl ⟨rfl, HW.out.trans (HO9.out.below (Nat.le_refl _))⟩
end Go.Proofs.YtibfmcohodhkbaaGreatDoor

/- The reference: Value. -/
namespace Go.Proofs.YtibfmcohodhkbaaGreatDoor
open Go.RowKit Hm Wm Wn

theorem ct_size : (Tryz.prog.info? 72).map (·.size) = some 2 := by kernel_rfl
theorem ct_one (n k : Int) : ∀ v ∈ [Value.int .i64 n, .int .i64 k], v.oneCell' = true := by
  intro v hv
  simp only [List.mem_cons, List.not_mem_nil, or_false] at hv
  rcases hv with rfl | rfl <;> rfl
def ctV (n k : Int) : Value := .agg #[.int .i64 n, .int .i64 k]
theorem val_big {A : Nat} (h : 9223372036854775807 < A) (hb : (canS A).length ≤ 8) : (canS A).length = 8 ∧ ∃ c r, canS A = c :: r ∧ 127 < c.toNat := by
  have h1 := canS_len_lt A
  have h8 : (canS A).length = 8 := by
    rcases Nat.lt_or_ge (canS A).length 8 with h2 | h2
    · have : 256 ^ (canS A).length ≤ 256 ^ 7 := Nat.pow_le_pow_right (by decide) (by omega)
      have : (256 : Nat) ^ 7 = 72057594037927936 := by decide
      omega
    · omega
  refine ⟨h8, ?_⟩
  cases hc : canS A with
  | nil => rw [hc] at h8; simp at h8
  | cons c r =>
    refine ⟨c, r, rfl, ?_⟩
    have e := numB_canS A
    rw [hc] at e h8
    rw [numB_cons] at e
    have hr : r.length = 7 := by simpa using h8
    have h3 := numB_lt r
    rw [hr] at e h3
    have : (256 : Nat) ^ 7 = 72057594037927936 := by decide
    omega
theorem val_small {A : Nat} (h : A ≤ 9223372036854775807) : (canS A).length ≤ 8 ∧ ∀ c r, canS A = c :: r → (canS A).length = 8 → c.toNat ≤ 127 := by
  refine ⟨canS_len_le (Nat.lt_of_le_of_lt h (by decide)), fun c r hc h8 => ?_⟩
  have e := numB_canS A
  rw [hc] at e h8
  rw [numB_cons] at e
  have hr : r.length = 7 := by simpa using h8
  rw [hr] at e
  have : (256 : Nat) ^ 7 = 72057594037927936 := by decide
  omega
theorem numB_take_le (l : List UInt8) (k : Nat) : numB (l.take k) ≤ numB l := by
  conv => rhs; rw [← List.take_append_drop k l, numB_app]
  have := Nat.le_mul_of_pos_right (numB (l.take k)) (Nat.pow_pos (n := (l.drop k).length) (show 0 < 256 by decide))
  omega
theorem run_mulB (x z : Nat) (w : World) (h : 256 * x = z) (hz : z ≤ 9223372036854775807) : (binOp .mul 3 (.int .i64 256) (.int .i64 x)).run Tryz.prog w = .ok (.int .i64 (z : Int)) w := by
  have e : (256 : Int) * (x : Int) = (z : Int) := by omega
  simp [binOp, go_sem]
  rw [e]
  simp [IntKind.wrap, IntKind.bits, IntKind.signed]; omega
theorem run_addB (x y z : Nat) (w : World) (h : x + y = z) (hz : z ≤ 9223372036854775807) : (binOp .add 3 (.int .i64 x) (.int .i64 y)).run Tryz.prog w = .ok (.int .i64 (z : Int)) w := by
  simp [binOp, go_sem]
  simp [IntKind.wrap, IntKind.bits, IntKind.signed]; omega
set_option maxRecDepth 100000 in
set_option maxHeartbeats 1000000 in
theorem rvalue_big (s : ByteArray) (w : World) (hs : s.size ≤ 100000) (h : 9223372036854775807 < nB s) : Calls Tryz.prog 56 #[.string s] w fun e w' => e = .returned (ctV 0 3) ∧ Below w.heap.size w w' := by
  have HC := Lib.hid (fun W => rclean_any s W hs)
  have HK0 := Lib.hid (Blk.new w 72 [.int .i64 0, .int .i64 0])
  have HW0 := Lib.hid ((Below.refl w.heap.size w).alloc (Nat.le_refl _) (.cells #[.int .i64 0, .int .i64 0] 72))
  have hsz := cS_size (nB s)
  by_cases h9 : (canS (nB s)).length ≤ 8
  · obtain ⟨h8, c, r, hc, hc7⟩ := val_big h h9
    have hl : (cS (nB s)).data.toList[0]? = some c := by unfold cS; rw [sb_list, hc]; rfl
    obtain ⟨t, ht⟩ : ∃ t, cS (nB s) = t := ⟨_, rfl⟩
    rw [ht] at HC hsz hl
    have c1 : decide ((8 : Int) < (t.size : Int)) = false := decide_eq_false (by omega)
    have c1' : decide (8 < t.size) = false := decide_eq_false (by omega)
    have c2 : ((t.size : Int) == 8) = true := by rw [beq_iff_eq]; omega
    have c2' : (t.size == 8) = true := by rw [beq_iff_eq]; omega
    have c3 : decide ((127 : Int) < (c.toNat : Int)) = true := decide_eq_true (by omega)
    have HL := Lib.hid hl
    clear hs h hsz h9 h8 hc hc7 hl ht
    go_enter Tryz.func56, Tryz.ntmps56
    go_wp2_with fail
    refine (HC.out _).mono ?_
    rintro e w1 ⟨rfl, hw⟩
    subst hw
    go_wp2_with (first
      | (refine wpList_dst 17 rfl ?_; refine wpList_runG 17 rfl rfl _ (exec_indexS0 (.tmp 16) (.const (.int .i64 0)) rfl t c HL.out rfl rfl) ?_)
      | (refine wpList_store_all rfl 72 (.tmp 2) (.tmp 21) rfl w.heap.size _ [.int .i64 0, .int .i64 0] [.int .i64 0, .int .i64 3] rfl rfl HK0.out rfl ct_size (ct_one _ _) ?_; intro w9 HK9 ho9; have HO9 := Lib.hid ho9; clear ho9))
    exact bodyPost_ret (results_blk rfl _ _ w.heap.size _ [.int .i64 0, .int .i64 3] _ rfl HK9.out Tryz.underlying72 rfl ct_size) rfl ⟨rfl, HW0.out.trans (HO9.out.below (Nat.le_refl _))⟩
  · obtain ⟨t, ht⟩ : ∃ t, cS (nB s) = t := ⟨_, rfl⟩
    rw [ht] at HC hsz
    have c1 : decide ((8 : Int) < (t.size : Int)) = true := decide_eq_true (by omega)
    have c1' : decide (8 < t.size) = true := decide_eq_true (by omega)
    clear hs h hsz h9 ht
    go_enter Tryz.func56, Tryz.ntmps56
    go_wp2_with fail
    refine (HC.out _).mono ?_
    rintro e w1 ⟨rfl, hw⟩
    subst hw
    go_wp2_with (first
      | (refine wpList_store_all rfl 72 (.tmp 2) (.tmp 21) rfl w.heap.size _ [.int .i64 0, .int .i64 0] [.int .i64 0, .int .i64 3] rfl rfl HK0.out rfl ct_size (ct_one _ _) ?_; intro w9 HK9 ho9; have HO9 := Lib.hid ho9; clear ho9))
    exact bodyPost_ret (results_blk rfl _ _ w.heap.size _ [.int .i64 0, .int .i64 3] _ rfl HK9.out Tryz.underlying72 rfl ct_size) rfl ⟨rfl, HW0.out.trans (HO9.out.below (Nat.le_refl _))⟩
def RvR (w : World) (l : List UInt8) (nv kv : Value) (wr : World) : Prop :=
  ∃ k : Nat, nv = .int .i64 (numB (l.take k) : Nat) ∧ kv = .int .i64 k ∧ k ≤ l.length ∧ Hid (Below w.heap.size w wr) ∧ Hid (Blk wr w.heap.size 72 [.int .i64 0, .int .i64 0])
set_option maxRecDepth 100000 in
set_option maxHeartbeats 2000000 in
theorem rvalue_any (s : ByteArray) (w : World) (hs : s.size ≤ 100000) (h : nB s ≤ 9223372036854775807) : Calls Tryz.prog 56 #[.string s] w fun e w' => e = .returned (ctV (nB s : Nat) 0) ∧ Below w.heap.size w w' := by
  have HC := Lib.hid (fun W => rclean_any s W hs)
  have hsz := cS_size (nB s)
  obtain ⟨hl8, hl9⟩ := val_small h
  have hnum := numB_canS (nB s)
  have hdl : (cS (nB s)).data.toList = canS (nB s) := by unfold cS; exact sb_list _
  obtain ⟨t, ht⟩ : ∃ t, cS (nB s) = t := ⟨_, rfl⟩
  obtain ⟨l, hl⟩ : ∃ l, canS (nB s) = l := ⟨_, rfl⟩
  obtain ⟨A, hA⟩ : ∃ A, nB s = A := ⟨_, rfl⟩
  rw [ht] at HC hsz hdl
  rw [hl] at hsz hl8 hl9 hnum hdl
  rw [hA] at h hnum ⊢
  have c1 : decide ((8 : Int) < (t.size : Int)) = false := decide_eq_false (by omega)
  have c1' : decide (8 < t.size) = false := decide_eq_false (by omega)
  have HDL := Lib.hid hdl
  have HNU := Lib.hid hnum
  have HSZ := Lib.hid hsz
  have HAL := Lib.hid h
  by_cases h8 : l.length = 8
  · have c2 : ((t.size : Int) == 8) = true := by rw [beq_iff_eq]; omega
    have c2' : (t.size == 8) = true := by rw [beq_iff_eq]; omega
    obtain ⟨c, r, hcr⟩ : ∃ c r, l = c :: r := by
      cases l with
      | nil => simp at h8
      | cons c r => exact ⟨c, r, rfl⟩
    have h7 := hl9 c r hcr h8
    have c3 : decide ((127 : Int) < (c.toNat : Int)) = false := decide_eq_false (by omega)
    have HL0 := Lib.hid (show t.data.toList[0]? = some c by rw [hdl, hcr]; rfl)
    clear hs hsz hl9 hnum hdl ht hl hA h h8 hcr h7
    go_enter Tryz.func56, Tryz.ntmps56
    go_wp2_with fail
    refine (HC.out _).mono ?_
    rintro e w1 ⟨rfl, hw⟩
    subst hw
    go_wp2_with (first | (refine wpList_dst 17 rfl ?_; refine wpList_runG 17 rfl rfl _ (exec_indexS0 (.tmp 16) (.const (.int .i64 0)) rfl t c HL0.out rfl rfl) ?_))
    go_loopw [4, 5] (RvR w l) (fun _ kv _ => l.length - (intOf kv).toNat)
    case atStart => exact ⟨0, rfl, rfl, Nat.zero_le _, Lib.hid ((Below.refl _ _).alloc (Nat.le_refl _) _), Lib.hid (Blk.new w 72 [.int .i64 0, .int .i64 0])⟩
    case round =>
      obtain ⟨k, rfl, rfl, hk, HW, HZ⟩ := hrel
      by_cases hlt : k < l.length
      · have d1 : decide ((k : Int) < (t.size : Int)) = true := decide_eq_true (by rw [HSZ.out]; omega)
        have d1' : decide (k < t.size) = true := decide_eq_true (by rw [HSZ.out]; exact hlt)
        have hc : t.data.toList[k]? = some l[k] := by rw [HDL.out]; exact List.getElem?_eq_getElem hlt
        have htk : l.take (k + 1) = l.take k ++ [l[k]] := List.take_succ_eq_append_getElem hlt
        obtain ⟨c, hcc⟩ : ∃ c, l[k] = c := ⟨_, rfl⟩
        rw [hcc] at hc htk
        have hnx : numB (l.take (k + 1)) = 256 * numB (l.take k) + c.toNat := by rw [htk, numB_snoc]
        have hle := numB_take_le l (k + 1)
        rw [HNU.out] at hle
        have hA2 := HAL.out
        obtain ⟨n, hn⟩ : ∃ n, numB (l.take k) = n := ⟨_, rfl⟩
        obtain ⟨n2, hn2⟩ : ∃ n, numB (l.take (k + 1)) = n := ⟨_, rfl⟩
        rw [hn, hn2] at hnx
        rw [hn2] at hle
        obtain ⟨m, hm⟩ : ∃ m, 256 * n = m := ⟨_, rfl⟩
        have HIX := Lib.hid hc
        have HM := Lib.hid (fun W => run_mulB n m W hm (by omega))
        have HA := Lib.hid (fun W => run_addB m c.toNat n2 W (by omega) (by omega))
        have H3 := Lib.hid (fun W => run_cvBI c W)
        have HN2 := Lib.hid hn2
        rw [hn]
        clear hc htk hcc hnx hle hA2 hn hn2 hm
        go_wp2_with (first
          | (refine wpList_dst 29 rfl ?_; refine wpList_run 29 rfl rfl _ (exec_bin .mul 3 _ (.const (.int .i64 256)) (.tmp 28) rfl _ _ _ rfl rfl rfl (HM.out _)) ?_)
          | (refine wpList_dst 32 rfl ?_; refine wpList_run 32 rfl rfl _ (exec_indexS (.tmp 30) (.tmp 31) rfl t k c HIX.out rfl rfl) ?_)
          | (refine wpList_dst 33 rfl ?_; refine wpList_run 33 rfl rfl _ (exec_convert 5 3 (.tmp 32) rfl _ _ rfl (H3.out _)) ?_)
          | (refine wpList_dst 34 rfl ?_; refine wpList_run 34 rfl rfl _ (exec_bin .add 3 _ (.tmp 29) (.tmp 33) rfl _ _ _ rfl rfl rfl (HA.out _)) ?_))
        go_roundw
        case rel => exact ⟨k + 1, by rw [HN2.out], by go_num, by omega, HW, HZ⟩
        case measure => simp [intOf]; omega
      · obtain rfl : k = l.length := by omega
        have d1 : decide ((l.length : Int) < (t.size : Int)) = false := decide_eq_false (by rw [HSZ.out]; omega)
        have d1' : decide (l.length < t.size) = false := decide_eq_false (by rw [HSZ.out]; omega)
        rw [List.take_length, HNU.out]
        go_wp2_with (refine wpList_store_all rfl 72 (.tmp 2) (.tmp 36) rfl w.heap.size _ [.int .i64 0, .int .i64 0] [.int .i64 (A : Int), .int .i64 0] rfl rfl HZ.out rfl ct_size (ct_one _ _) ?_; intro w9 HK9 ho9; have HO9 := Lib.hid ho9; clear ho9)
        exact bodyPost_ret (results_blk rfl _ _ w.heap.size _ [.int .i64 (A : Int), .int .i64 0] _ rfl HK9.out Tryz.underlying72 rfl ct_size) rfl ⟨rfl, HW.out.trans (HO9.out.below (Nat.le_refl _))⟩
  · have c2 : ((t.size : Int) == 8) = false := by rw [beq_eq_false_iff_ne]; omega
    have c2' : (t.size == 8) = false := by rw [beq_eq_false_iff_ne]; omega
    clear hs hsz hl9 hnum hdl ht hl hA h h8
    go_enter Tryz.func56, Tryz.ntmps56
    go_wp2_with fail
    refine (HC.out _).mono ?_
    rintro e w1 ⟨rfl, hw⟩
    subst hw
    go_wp2_with fail
    go_loopw [4, 5] (RvR w l) (fun _ kv _ => l.length - (intOf kv).toNat)
    case atStart => exact ⟨0, rfl, rfl, Nat.zero_le _, Lib.hid ((Below.refl _ _).alloc (Nat.le_refl _) _), Lib.hid (Blk.new w 72 [.int .i64 0, .int .i64 0])⟩
    case round =>
      obtain ⟨k, rfl, rfl, hk, HW, HZ⟩ := hrel
      by_cases hlt : k < l.length
      · have d1 : decide ((k : Int) < (t.size : Int)) = true := decide_eq_true (by rw [HSZ.out]; omega)
        have d1' : decide (k < t.size) = true := decide_eq_true (by rw [HSZ.out]; exact hlt)
        have hc : t.data.toList[k]? = some l[k] := by rw [HDL.out]; exact List.getElem?_eq_getElem hlt
        have htk : l.take (k + 1) = l.take k ++ [l[k]] := List.take_succ_eq_append_getElem hlt
        obtain ⟨c, hcc⟩ : ∃ c, l[k] = c := ⟨_, rfl⟩
        rw [hcc] at hc htk
        have hnx : numB (l.take (k + 1)) = 256 * numB (l.take k) + c.toNat := by rw [htk, numB_snoc]
        have hle := numB_take_le l (k + 1)
        rw [HNU.out] at hle
        have hA2 := HAL.out
        obtain ⟨n, hn⟩ : ∃ n, numB (l.take k) = n := ⟨_, rfl⟩
        obtain ⟨n2, hn2⟩ : ∃ n, numB (l.take (k + 1)) = n := ⟨_, rfl⟩
        rw [hn, hn2] at hnx
        rw [hn2] at hle
        obtain ⟨m, hm⟩ : ∃ m, 256 * n = m := ⟨_, rfl⟩
        have HIX := Lib.hid hc
        have HM := Lib.hid (fun W => run_mulB n m W hm (by omega))
        have HA := Lib.hid (fun W => run_addB m c.toNat n2 W (by omega) (by omega))
        have H3 := Lib.hid (fun W => run_cvBI c W)
        have HN2 := Lib.hid hn2
        rw [hn]
        clear hc htk hcc hnx hle hA2 hn hn2 hm
        go_wp2_with (first
          | (refine wpList_dst 29 rfl ?_; refine wpList_run 29 rfl rfl _ (exec_bin .mul 3 _ (.const (.int .i64 256)) (.tmp 28) rfl _ _ _ rfl rfl rfl (HM.out _)) ?_)
          | (refine wpList_dst 32 rfl ?_; refine wpList_run 32 rfl rfl _ (exec_indexS (.tmp 30) (.tmp 31) rfl t k c HIX.out rfl rfl) ?_)
          | (refine wpList_dst 33 rfl ?_; refine wpList_run 33 rfl rfl _ (exec_convert 5 3 (.tmp 32) rfl _ _ rfl (H3.out _)) ?_)
          | (refine wpList_dst 34 rfl ?_; refine wpList_run 34 rfl rfl _ (exec_bin .add 3 _ (.tmp 29) (.tmp 33) rfl _ _ _ rfl rfl rfl (HA.out _)) ?_))
        go_roundw
        case rel => exact ⟨k + 1, by rw [HN2.out], by go_num, by omega, HW, HZ⟩
        case measure => simp [intOf]; omega
      · obtain rfl : k = l.length := by omega
        have d1 : decide ((l.length : Int) < (t.size : Int)) = false := decide_eq_false (by rw [HSZ.out]; omega)
        have d1' : decide (l.length < t.size) = false := decide_eq_false (by rw [HSZ.out]; omega)
        rw [List.take_length, HNU.out]
        go_wp2_with (refine wpList_store_all rfl 72 (.tmp 2) (.tmp 36) rfl w.heap.size _ [.int .i64 0, .int .i64 0] [.int .i64 (A : Int), .int .i64 0] rfl rfl HZ.out rfl ct_size (ct_one _ _) ?_; intro w9 HK9 ho9; have HO9 := Lib.hid ho9; clear ho9)
        exact bodyPost_ret (results_blk rfl _ _ w.heap.size _ [.int .i64 (A : Int), .int .i64 0] _ rfl HK9.out Tryz.underlying72 rfl ct_size) rfl ⟨rfl, HW.out.trans (HO9.out.below (Nat.le_refl _))⟩
end Go.Proofs.YtibfmcohodhkbaaGreatDoor

/- The reference: Text and Parse. -/
namespace Go.Proofs.YtibfmcohodhkbaaGreatDoor
open Go.RowKit Hm Wm Wn

theorem dg_val {k : Nat} (h : k < 10) : (UInt8.ofNat (48 + k)).toNat = 48 + k := by
  rw [UInt8.toNat_ofNat']
  omega
theorem dec_facts : ∀ n : Nat, decN (Lib.decDigits n) = n ∧ (Lib.decDigits n).all isDig = true ∧ (n ≠ 0 → (Lib.decDigits n).head? ≠ some 48) := by
  intro n
  induction n using Nat.strongRecOn with
  | ind n ih =>
    by_cases h : n < 10
    · rw [Lib.decDigits_one h]
      have e := dg_val h
      refine ⟨?_, ?_, fun h0 h1 => ?_⟩
      · simp only [decN, List.foldl_cons, List.foldl_nil, e]; omega
      · simp only [List.all_cons, List.all_nil, Bool.and_true, isDig, e, Bool.and_eq_true, decide_eq_true_eq]; omega
      · simp only [List.head?_cons, Option.some.injEq] at h1
        rw [h1] at e
        have : (48 : UInt8).toNat = 48 := rfl
        omega
    · obtain ⟨h1, h2, h3⟩ := ih (n / 10) (by omega)
      have e := dg_val (k := n % 10) (by omega)
      rw [dec_big h]
      refine ⟨?_, ?_, fun _ => ?_⟩
      · rw [decN_snoc, h1, e]; omega
      · rw [List.all_append, h2]
        simp only [List.all_cons, List.all_nil, Bool.and_true, Bool.true_and, isDig, e, Bool.and_eq_true, decide_eq_true_eq]; omega
      · have h3 := h3 (by omega)
        cases hl : Lib.decDigits (n / 10) with
        | nil =>
          have h4 := Lib.nDigits_pos (n / 10)
          rw [← Lib.decDigits_length, hl] at h4
          simp at h4
        | cons b r =>
          rw [hl] at h3
          simpa using h3
theorem dec_text (n : Nat) : isTextL (Lib.decDigits n) = true := by
  obtain ⟨_, h2, h3⟩ := dec_facts n
  by_cases h0 : n = 0
  · subst h0
    rw [Lib.decDigits_one (by decide)]
    decide
  · have h3 := h3 h0
    cases hl : Lib.decDigits n with
    | nil =>
      have h4 := Lib.nDigits_pos n
      rw [← Lib.decDigits_length, hl] at h4
      simp at h4
    | cons b r =>
      rw [hl] at h2 h3
      unfold isTextL
      simp only [List.head?_cons, ne_eq, Option.some.injEq] at h3
      simp only [h2, Bool.and_true]
      have : (b == 48) = false := by rw [beq_eq_false_iff_ne]; exact h3
      rw [this]
      rfl
theorem dec_ge : ∀ (k n : Nat), n ≠ 0 → (Lib.decDigits n).length = k + 1 → 10 ^ k ≤ n
  | 0, n, h, _ => by simp; omega
  | k + 1, n, h, hl => by
    by_cases hn : n < 10
    · rw [Lib.decDigits_one hn] at hl; simp at hl
    · rw [dec_big hn, List.length_append] at hl
      simp at hl
      have h1 := dec_ge k (n / 10) (by omega) hl
      rw [Nat.pow_succ]
      omega
theorem dec_lt (n : Nat) : n < 10 ^ (Lib.decDigits n).length := by rw [Lib.decDigits_length]; exact Lib.lt_pow_nDigits n
theorem dec_shorter {a b : Nat} (h : (Lib.decDigits a).length < (Lib.decDigits b).length) : a < b := by
  have h1 := dec_lt a
  obtain ⟨k, hk⟩ : ∃ k, (Lib.decDigits b).length = k + 1 := ⟨(Lib.decDigits b).length - 1, by omega⟩
  have hb : b ≠ 0 := fun h0 => by
    rw [h0, show Lib.decDigits 0 = [UInt8.ofNat (48 + 0)] from Lib.decDigits_one (show 0 < 10 by decide)] at h
    have h4 := Lib.nDigits_pos a
    rw [← Lib.decDigits_length] at h4
    rw [List.length_singleton] at h
    omega
  have h2 := dec_ge k b hb hk
  have h3 : 10 ^ (Lib.decDigits a).length ≤ 10 ^ k := Nat.pow_le_pow_right (by decide) (by omega)
  omega
theorem decN_cons (b : UInt8) (q : List UInt8) : decN (b :: q) = (b.toNat - 48) * 10 ^ q.length + decN q := by
  unfold decN
  rw [List.foldl_cons, decF_acc]
  simp [decN]
theorem less_dec : ∀ (l r : List UInt8), l.length = r.length → l.all isDig = true → r.all isDig = true → Op.bytesLess l r = decide (decN l < decN r)
  | [], [], _, _, _ => by simp [Op.bytesLess, decN]
  | [], _ :: _, h, _, _ => by simp at h
  | _ :: _, [], h, _, _ => by simp at h
  | b :: l, c :: r, h, hl, hr => by
    simp only [List.length_cons, Nat.add_right_cancel_iff] at h
    simp only [List.all_cons, Bool.and_eq_true, isDig, decide_eq_true_eq] at hl hr
    have h1 := decN_lt l hl.2
    have h2 := decN_lt r hr.2
    rw [← h] at h2
    rw [decN_cons, decN_cons, ← h]
    unfold Op.bytesLess
    rw [less_dec l r h hl.2 hr.2]
    generalize 10 ^ l.length = p at *
    by_cases hbc : b < c
    · have h3 : b.toNat < c.toNat := UInt8.lt_iff_toNat_lt.1 hbc
      have h4 : (b.toNat - 48 + 1) * p ≤ (c.toNat - 48) * p := Nat.mul_le_mul_right _ (by omega)
      rw [Nat.add_mul, Nat.one_mul] at h4
      rw [decide_eq_true hbc, Bool.true_or]
      exact (decide_eq_true (by omega)).symm
    · rw [decide_eq_false hbc, Bool.false_or]
      by_cases he : b = c
      · subst he
        rw [beq_self_eq_true, Bool.true_and]
        exact decide_eq_decide.2 (by omega)
      · have h3 : c.toNat < b.toNat := by
          have e1 : ¬ b.toNat < c.toNat := fun h => hbc (UInt8.lt_iff_toNat_lt.2 h)
          have e2 : b.toNat ≠ c.toNat := fun h => he (UInt8.toNat_inj.1 h)
          omega
        have h4 : (c.toNat - 48 + 1) * p ≤ (b.toNat - 48) * p := Nat.mul_le_mul_right _ (by omega)
        rw [Nat.add_mul, Nat.one_mul] at h4
        rw [show (b == c) = false by rw [beq_eq_false_iff_ne]; exact he, Bool.false_and]
        exact (decide_eq_false (by omega)).symm
theorem dec_short {x : ByteArray} {K : Nat} (hx : x.size ≤ K) : (Lib.decDigits (nB x)).length ≤ 3 * K + 1 := by
  refine ddg_len (3 * K) (nB x) (Nat.lt_of_lt_of_le (nB_lt x) (Nat.le_trans (Nat.pow_le_pow_left (show 256 ≤ 10 ^ 3 by decide) _) ?_))
  rw [← Nat.pow_mul]
  exact Nat.pow_le_pow_right (by decide) (by omega)

theorem dec_zero : Lib.decDigits 0 = [48] := by
  rw [show Lib.decDigits 0 = [UInt8.ofNat (48 + 0)] from Lib.decDigits_one (show 0 < 10 by decide)]
  rfl
theorem dec_len8 (n : Nat) : (Lib.decDigits n).length ≤ n + 1 := by
  induction n using Nat.strongRecOn with
  | ind n ih =>
    by_cases h : n < 10
    · rw [Lib.decDigits_one h]; simp
    · rw [dec_big h, List.length_append]
      have := ih (n / 10) (by omega)
      simp
      omega
theorem run_str1g (w : World) (g : Nat) (hg : g = w.heap.size) (z : UInt8) : (convert 84 9 (.slice (some ⟨g, 0, none⟩) 1 1)).run Tryz.prog (w.alloc (.cells #[.int .u8 (z.toNat : Int)] 5)) = .ok (.string (sb [z])) (w.alloc (.cells #[.int .u8 (z.toNat : Int)] 5)) := by
  subst hg; exact run_str1 w z
theorem ten_nB : nB ⟨#[10]⟩ = 10 := by decide
theorem run_addZ48 (x : Nat) (w : World) (h : x < 10) : (binOp .add 3 (.int .i64 48) (.int .i64 x)).run Tryz.prog w = .ok (.int .i64 ((48 + x : Nat) : Int)) w := by
  simp [binOp, go_sem]
  simp [IntKind.wrap, IntKind.bits, IntKind.signed]; omega
set_option maxRecDepth 100000 in
set_option maxHeartbeats 1000000 in
theorem rtext_any (s : ByteArray) (w : World) (hs : s.size ≤ 10000) : Calls Tryz.prog 73 #[.string s] w fun e w' => e = .returned (.string (sb (Lib.decDigits (nB s)))) ∧ Below w.heap.size w w' := by
  have HC := Lib.hid (fun W => rclean_any s W (by omega))
  have HDL := Lib.hid (show (Lib.decDigits (nB s)).length ≤ 30001 from Nat.le_trans (dec_short hs) (by omega))
  have HSZ := Lib.hid (fun m (h : m ≤ nB s) => show (cS m).size ≤ 10000 from cS_less h hs)
  generalize nB s = A at HC HDL HSZ ⊢
  by_cases h0 : A = 0
  · subst h0
    rw [c0] at HC
    rw [dec_zero]
    clear hs HDL HSZ
    go_enter Tryz.func73, Tryz.ntmps73
    go_wp2_with fail
    refine (HC.out _).mono ?_
    rintro e w1 ⟨rfl, hw⟩
    obtain rfl : w = w1 := hw.symm
    go_wp2
    go_ret
    exact ⟨rfl, Below.refl _ _⟩
  · have H9 := Lib.hid (fun W => run_eqS (cS A) ⟨#[]⟩ false (decide_eq_false (fun h => h0 ((nil_iff A).1 h))) W)
    have HA0 := Lib.hid h0
    clear hs h0
    go_enter Tryz.func73, Tryz.ntmps73
    go_wp2_with fail
    refine (HC.out _).mono ?_
    rintro e w1 ⟨rfl, hw⟩
    obtain rfl : w = w1 := hw.symm
    go_wp2_with (refine wpList_dst 9 rfl ?_; refine wpList_run 9 rfl rfl _ (exec_bin .eql 9 _ (.tmp 8) (.const (.string ⟨#[]⟩)) rfl _ _ _ rfl rfl rfl (H9.out _)) ?_)
    go_loopg [3, 4] A (fun g xv ov wr => ∃ L : List UInt8, xv = .string (cS g) ∧ ov = .string (sb L) ∧ g ≤ A ∧ Hid (Lib.decDigits A = (if g = 0 then L else Lib.decDigits g ++ L)) ∧ Hid (Below w.heap.size w wr))
    case atStart => exact ⟨[], rfl, rfl, Nat.le_refl _, Lib.hid (by rw [if_neg HA0.out, List.append_nil]), Lib.hid (Below.refl _ _)⟩
    case round =>
      obtain ⟨L, rfl, rfl, hg, HL, HW⟩ := hrel
      by_cases hz : gk = 0
      · subst hz
        have HE := Lib.hid (show Lib.decDigits A = L by rw [HL.out, if_pos rfl])
        rw [c0]
        go_wp2_with fail
        go_ret
        exact ⟨by rw [HE.out]; rfl, HW.out⟩
      · have H11 := Lib.hid (fun W => run_neqS (cS gk) ⟨#[]⟩ true (decide_eq_true (fun h => hz ((nil_iff gk).1 h))) W)
        have hdv := fun W => rdiv_any (cS gk) ⟨#[10]⟩ W (by have := HSZ.out gk hg; omega) (by decide) (by decide)
        rw [ten_nB, nB_cS] at hdv
        have hdg := fun W => rdigit_any (cS (gk % 10)) 0 W (by have := HSZ.out (gk % 10) (by omega); omega) (by omega)
        rw [nB_cS, Nat.pow_zero, Nat.div_one, Nat.mod_eq_of_lt (show gk % 10 < 256 by omega)] at hdg
        have hm : gk % 10 < 10 := by omega
        have hnext : Lib.decDigits A = (if gk / 10 = 0 then UInt8.ofNat (48 + gk % 10) :: L else Lib.decDigits (gk / 10) ++ (UInt8.ofNat (48 + gk % 10) :: L)) := by
          rw [HL.out, if_neg hz]
          by_cases h10 : gk < 10
          · rw [if_pos (by omega), Lib.decDigits_one h10, Nat.mod_eq_of_lt h10]; rfl
          · rw [if_neg (by omega), dec_big h10, List.append_assoc]; rfl
        have hql : gk / 10 < gk := Nat.div_lt_self (by omega) (by decide)
        obtain ⟨q, hq⟩ : ∃ q, gk / 10 = q := ⟨_, rfl⟩
        obtain ⟨m, hme⟩ : ∃ q, gk % 10 = q := ⟨_, rfl⟩
        rw [hq] at hdv hnext hql
        rw [hme] at hdv hdg hm hnext
        have HDV := Lib.hid hdv
        have HDG := Lib.hid hdg
        have HA1 := Lib.hid (fun W => run_addZ48 m W hm)
        have HCV := Lib.hid (fun W => run_cvIB (48 + m) W (by omega))
        obtain ⟨z, hz2⟩ : ∃ z, UInt8.ofNat (48 + m) = z := ⟨_, rfl⟩
        rw [hz2] at HCV hnext
        have HS1 := Lib.hid (fun W g h => run_str1g W g h z)
        have hL5 : L.length ≤ 30001 := by
          have h1 := congrArg List.length HL.out
          have h2 := HDL.out
          rw [if_neg hz, List.length_append] at h1
          omega
        have HCT := Lib.hid (fun W => run_concat W (sb [z]) (sb L) (by rw [sb_size, sb_size]; simp; omega))
        rw [sb_list, sb_list] at HCT
        have HNX := Lib.hid hnext
        clear hdv hdg hm hnext hq hme hz2 hL5 hz HL
        go_wp2_with (first | (refine wpList_dst 11 rfl ?_; refine wpList_run 11 rfl rfl _ (exec_bin .neq 9 _ (.tmp 10) (.const (.string ⟨#[]⟩)) rfl _ _ _ rfl rfl rfl (H11.out _)) ?_))
        refine (HDV.out wr).mono ?_
        unfold dvV
        rintro e w2 ⟨rfl, hb⟩
        have HW2 := Lib.hid (HW.out.trans (hb.mono HW.out.size))
        clear hb
        go_wp2_with fail
        refine (HDG.out _).mono ?_
        rintro e w3 ⟨rfl, hw⟩
        subst hw
        go_wp2_with (first
          | (refine wpList_dst 17 rfl ?_; refine wpList_run 17 rfl rfl _ (exec_bin .add 3 _ (.const (.int .i64 48)) (.tmp 16) rfl _ _ _ rfl rfl rfl (HA1.out _)) ?_)
          | (refine wpList_dst 18 rfl ?_; refine wpList_run 18 rfl rfl _ (exec_convert 3 5 (.tmp 17) rfl _ _ rfl (HCV.out _)) ?_)
          | (refine wpList_dst 20 rfl ?_; refine wpList_run 20 rfl rfl _ (exec_convert 84 9 (.tmp 19) rfl _ _ rfl (HS1.out _ _ (by simp))) ?_)
          | (refine wpList_dst 22 rfl ?_; refine wpList_run 22 rfl rfl _ (exec_bin .add 9 _ (.tmp 20) (.tmp 21) rfl _ _ _ rfl rfl rfl (HCT.out _)) ?_))
        go_roundg q
        case measure => exact hql
        case rel => exact ⟨[z] ++ L, rfl, rfl, by omega, HNX, Lib.hid ((HW2.out.alloc HW2.out.size _).alloc (Nat.le_trans HW2.out.size (by simp)) _)⟩
end Go.Proofs.YtibfmcohodhkbaaGreatDoor

/- The reference: Parse. -/
namespace Go.Proofs.YtibfmcohodhkbaaGreatDoor
open Go.RowKit Hm Wm Wn

theorem by_under : Tryz.prog.underlying 84 = some (.slice 5) := Tryz.underlying84
theorem run_byte1 (w : World) (d : Nat) : (Instr.buildSlice 84 1 #[(0, .int .u8 d)]).run Tryz.prog w = .ok (.slice (some ⟨w.heap.size, 0, none⟩) 1 1) (w.alloc (.cells #[.int .u8 d] 5)) := by
  obtain ⟨i0, hi, hz0, hz1, hz2⟩ := info_parts u8_info
  refine run_buildSlice w _ _ 1 _ _ i0 _ by_under hi hz0 (by rw [hz1]; omega) (by rw [hz1]; omega) ?_
  rw [hz1]
  rw [show (Array.map (fun x => (Value.int .u8 0).cells[x % (Value.int .u8 0).cells.size]!) (Array.range (1 * 1))) = #[.int .u8 0] from by kernel_rfl]
  rfl
theorem exec_byte1 {oi : Oper} {a : Act} {w : World} (x : Operand) (ho : oi.op = .buildSlice 84 1 #[(0, x)]) (d : Nat) (hx : a.eval x = .int .u8 d) : (execOp a.eval oi).run Tryz.prog w = .ok (.value (.slice (some ⟨w.heap.size, 0, none⟩) 1 1)) (w.alloc (.cells #[.int .u8 (d : Int)] 5)) := by
  unfold execOp
  simp only [ho, List.map_toArray, List.map_cons, List.map_nil, hx, Sem.run_bind, run_byte1, Result.andThen_ok]
  rfl
theorem op_make {P : Program} {Q : Exit → Act → World → Prop} {oi : Oper} {a : Act} {w : World} {K : Act → World → Prop} (d : Option Tmp) (hd : oi.dst = d) (v : Value) (w' : World) (hrun : (execOp a.eval oi).run P w = .ok (.value v) w') (h : K (a.put d v) w') : oi.wp P a w K Q := by
  subst hd
  unfold Oper.wp
  rw [hrun]
  exact h
theorem run_sub48 (c : UInt8) (n : Nat) (w : World) (h : 48 + n = c.toNat) : (binOp .sub 5 (.int .u8 c.toNat) (.int .u8 48)).run Tryz.prog w = .ok (.int .u8 (n : Int)) w := by
  have := UInt8.toNat_lt c
  simp [binOp, go_sem]
  simp [IntKind.wrap, IntKind.bits, IntKind.signed]; omega
def RpR (w : World) (l : List UInt8) (ov kv : Value) (wr : World) : Prop :=
  ∃ k : Nat, ov = .string (cS (decN (l.take k))) ∧ kv = .int .i64 k ∧ k ≤ l.length ∧ Hid ((l.take k).all isDig = true) ∧ Hid (Below w.heap.size w wr) ∧ Hid (Blk wr w.heap.size 79 [.string ⟨#[]⟩, .int .i64 0])
theorem not_text {l : List UInt8} {k : Nat} (hk : k < l.length) (h : isDig l[k] = false) : isTextL l = false := by
  have ha : l.all isDig = false := by
    rw [List.all_eq_false]
    exact ⟨_, List.getElem_mem hk, by rw [h]; decide⟩
  unfold isTextL
  split
  · rfl
  · rw [ha, Bool.and_false]
theorem is_text {b : UInt8} {r : List UInt8} (h : (b :: r).all isDig = true) (h2 : ¬ (b = 48 ∧ r ≠ [])) : isTextL (b :: r) = true := by
  unfold isTextL
  have h3 : (b == 48 && !r.isEmpty) = false := by
    cases hbb : b == 48
    · rfl
    · have hb : b = 48 := by simpa using hbb
      have hr : r = [] := Classical.byContradiction fun h => h2 ⟨hb, h⟩
      rw [hr]; rfl
  simp only [h3, h]
  rfl
theorem dec_cS {l : List UInt8} {N K : Nat} (h : N < 10 ^ l.length) (hl : l.length ≤ K) : (cS N).size ≤ K := cS_len (Nat.lt_of_lt_of_le h (Nat.le_trans (Nat.pow_le_pow_left (by decide) _) (Nat.pow_le_pow_right (by decide) hl)))
def rpV (l : List UInt8) : Value := if isTextL l then mdV (cS (decN l)) 0 else mdV ⟨#[]⟩ 27
theorem rpV_yes {l : List UInt8} (h : isTextL l = true) : rpV l = .agg #[.string (cS (decN l)), .int .i64 0] := by unfold rpV; rw [if_pos h]; rfl
theorem rpV_no {l : List UInt8} (h : isTextL l = false) : rpV l = .agg #[.string ⟨#[]⟩, .int .i64 27] := by unfold rpV; rw [h]; rfl
end Go.Proofs.YtibfmcohodhkbaaGreatDoor
namespace Go.Proofs.YtibfmcohodhkbaaGreatDoor
open Go.RowKit Hm Wm Wn
theorem sub_both (s t : ByteArray) (hs : s.size ≤ 40) (ht : t.size ≤ 40) : ∃ (z : ByteArray) (k : Int), (∀ W, Calls Tryz.prog 135 #[.string s, .string t] W fun e w' => e = .returned (.tuple #[.string z, .int .i64 k]) ∧ Below W.heap.size W w')
    ∧ (∀ W, Calls Tryz.prog 66 #[.string s, .string t] W fun e w' => e = .returned (.agg #[.string z, .int .i64 k]) ∧ Below W.heap.size W w') := by
  by_cases h : nB s < nB t
  · refine ⟨⟨#[]⟩, 3, fun W => ?_, fun W => rsub_low s t W (by omega) (by omega) h⟩
    have h1 := sub_low s t W h
    rw [c0] at h1
    exact h1.mono fun e w' ⟨h2, h3⟩ => ⟨h2, by rw [h3]; exact Below.refl _ _⟩
  · exact ⟨_, 0, fun W => sub_any s t W (by omega) (by omega) (by omega), fun W => rsub_any s t W (by omega) (by omega) (by omega)⟩
theorem div_both (s t : ByteArray) (hs : s.size ≤ 40) (ht : t.size ≤ 40) : ∃ (q r : ByteArray) (k : Int), (∀ W, Calls Tryz.prog 83 #[.string s, .string t] W fun e w' => e = .returned (.tuple #[.string q, .string r, .int .i64 k]) ∧ Below W.heap.size W w')
    ∧ (∀ W, Calls Tryz.prog 53 #[.string s, .string t] W fun e w' => e = .returned (.agg #[.string q, .string r, .int .i64 k]) ∧ Below W.heap.size W w') := by
  by_cases h : nB t = 0
  · refine ⟨⟨#[]⟩, ⟨#[]⟩, 1, fun W => ?_, fun W => rdiv_zero s t W (by omega) h⟩
    have h1 := divMod_zero s t W (by omega) h
    rw [c0] at h1
    exact h1
  · exact ⟨_, _, 0, fun W => divModS_any s t W (by omega) (by omega) h, fun W => rdiv_any s t W (by omega) (by omega) h⟩
theorem int_both (n : Int) (hn : n ≤ 9223372036854775807) : ∃ (z : ByteArray) (k : Int), (∀ W, Calls Tryz.prog 62 #[.int .i64 n] W fun e w' => e = .returned (.tuple #[.string z, .int .i64 k]) ∧ Below W.heap.size W w')
    ∧ (∀ W, Calls Tryz.prog 80 #[.int .i64 n] W fun e w' => e = .returned (.agg #[.string z, .int .i64 k]) ∧ Below W.heap.size W w') := by
  by_cases h : n < 0
  · refine ⟨⟨#[]⟩, 3, fun W => ?_, fun W => rint_neg n W h⟩
    have h1 := int_neg n W h
    rw [c0] at h1
    exact h1.mono fun e w' ⟨h2, h3⟩ => ⟨h2, by rw [h3]; exact Below.refl _ _⟩
  · obtain ⟨m, rfl⟩ : ∃ m : Nat, n = (m : Int) := ⟨n.toNat, by omega⟩
    exact ⟨_, 0, fun W => int_any m W (by omega), fun W => rint_any m W (by omega)⟩
theorem value_both (s : ByteArray) (hs : s.size ≤ 40) : ∃ (v k : Int), (∀ W, Calls Tryz.prog 85 #[.string s] W fun e w' => e = .returned (.tuple #[.int .i64 v, .int .i64 k]) ∧ Below W.heap.size W w')
    ∧ (∀ W, Calls Tryz.prog 56 #[.string s] W fun e w' => e = .returned (.agg #[.int .i64 v, .int .i64 k]) ∧ Below W.heap.size W w') := by
  by_cases h : nB s ≤ 9223372036854775807
  · exact ⟨_, 0, fun W => value_any s W (by omega) h, fun W => rvalue_any s W (by omega) h⟩
  · exact ⟨0, 3, fun W => value_big s W (by omega) (by omega), fun W => rvalue_big s W (by omega) (by omega)⟩
theorem sb_back (s : ByteArray) : sb s.data.toList = s := by cases s; rfl
theorem run_eqI (k : Int) (W : World) : (binOp .eql 3 (.int .i64 k) (.int .i64 k)).run Tryz.prog W = .ok (.bool true) W := by
  simp [binOp, go_sem]
theorem run_eqE (k : Int) (W : World) : (binOp .eql 27 (.int .i64 k) (.int .i64 k)).run Tryz.prog W = .ok (.bool true) W := by
  simp [binOp, go_sem]
theorem run_eqB (k : Bool) (W : World) : (binOp .eql 4 (.bool k) (.bool k)).run Tryz.prog W = .ok (.bool true) W := by
  cases k <;> kernel_rfl
theorem md_zero : (Tryz.prog.info? 79).map (·.zero) = some (some (.agg ([.string ⟨#[]⟩, .int .i64 0] : List Value).toArray)) := by kernel_rfl
theorem dv_zero : (Tryz.prog.info? 68).map (·.zero) = some (some (.agg ([.string ⟨#[]⟩, .string ⟨#[]⟩, .int .i64 0] : List Value).toArray)) := by kernel_rfl
theorem ct_zero : (Tryz.prog.info? 72).map (·.zero) = some (some (.agg ([.int .i64 0, .int .i64 0] : List Value).toArray)) := by kernel_rfl
theorem md_f0 (g : Nat) (W : World) : (Instr.fieldAt 79 (.pointer (some ⟨g, 0, none⟩)) 0).run Tryz.prog W = .ok (.pointer (some ⟨g, 0, none⟩)) W := by kernel_rfl
theorem md_f1 (g : Nat) (W : World) : (Instr.fieldAt 79 (.pointer (some ⟨g, 0, none⟩)) 1).run Tryz.prog W = .ok (.pointer (some ⟨g, 1, none⟩)) W := by kernel_rfl
theorem dv_f0 (g : Nat) (W : World) : (Instr.fieldAt 68 (.pointer (some ⟨g, 0, none⟩)) 0).run Tryz.prog W = .ok (.pointer (some ⟨g, 0, none⟩)) W := by kernel_rfl
theorem dv_f1 (g : Nat) (W : World) : (Instr.fieldAt 68 (.pointer (some ⟨g, 0, none⟩)) 1).run Tryz.prog W = .ok (.pointer (some ⟨g, 1, none⟩)) W := by kernel_rfl
theorem dv_f2 (g : Nat) (W : World) : (Instr.fieldAt 68 (.pointer (some ⟨g, 0, none⟩)) 2).run Tryz.prog W = .ok (.pointer (some ⟨g, 2, none⟩)) W := by kernel_rfl
theorem ct_f0 (g : Nat) (W : World) : (Instr.fieldAt 72 (.pointer (some ⟨g, 0, none⟩)) 0).run Tryz.prog W = .ok (.pointer (some ⟨g, 0, none⟩)) W := by kernel_rfl
theorem ct_f1 (g : Nat) (W : World) : (Instr.fieldAt 72 (.pointer (some ⟨g, 0, none⟩)) 1).run Tryz.prog W = .ok (.pointer (some ⟨g, 1, none⟩)) W := by kernel_rfl
theorem str_flat (W : World) : (isAgg 9).run Tryz.prog W = .ok false W := by kernel_rfl
theorem errno_flat (W : World) : (isAgg 27).run Tryz.prog W = .ok false W := by kernel_rfl
theorem exec_loadF {oi : Oper} {a : Act} {w : World} {g o : Nat} (ty : TypeId) (hf : ∀ W, (isAgg ty).run Tryz.prog W = .ok false W) (x : Operand) (ho : oi.op = .load ty x) (v : Value) (hx : a.eval x = .pointer (some ⟨g, o, none⟩)) (h : w.cell? ⟨g, o, none⟩ = some v) : (execOp a.eval oi).run Tryz.prog w = .ok (.value v) w :=
  exec_load ty x ho _ _ hx (run_load_cell hf h)
end Go.Proofs.YtibfmcohodhkbaaGreatDoor
