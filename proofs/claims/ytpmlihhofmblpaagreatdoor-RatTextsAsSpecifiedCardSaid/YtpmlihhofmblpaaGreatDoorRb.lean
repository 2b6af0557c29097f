/- The reference: DivMod and Gcd. -/
import Derived.Test.YtpmlihhofmblpaaGreatDoorRa
import Derived.Deep.LoopGhost
namespace Go.Proofs.YtpmlihhofmblpaaGreatDoor
open Go.RowKit Hm Wm Wn

theorem run_str_mid (w : World) (l : List UInt8) (k : Nat) (c : UInt8) (h : l[k]? = some c) : (Instr.sliceAt 9 (.string (sb l)) (some (.int .i64 k)) (some (.int .i64 ((k + 1 : Nat) : Int))) none).run Tryz.prog w = .ok (.string (sb [c])) w := by
  have hs : (sb l).size = l.length := sb_size l
  have hk : k < l.length := by
    rcases Nat.lt_or_ge k l.length with h1 | h1
    · exact h1
    · rw [List.getElem?_eq_none h1] at h; cases h
  have hc : l[k] = c := by rw [List.getElem?_eq_getElem hk] at h; exact Option.some.inj h
  have e : (sb l).extract k (k + 1) = sb [c] := by
    apply ByteArray.ext
    rw [ByteArray.data_extract]
    simp [sb]
    rw [List.drop_eq_getElem_cons hk, hc]
    rfl
  simp [go_sem, run_sliceAt_string, Tryz.underlying9, hs]
  rw [if_pos (by omega), if_pos (by omega), e]
theorem exec_sMid {oi : Oper} {a : Act} {w : World} (x y z : Operand) (ho : oi.op = .slice 9 x (some y) (some z) none) (t c : ByteArray) (g : Nat) (hrun : ∀ W, (Instr.sliceAt 9 (.string t) (some (.int .i64 g)) (some (.int .i64 ((g + 1 : Nat) : Int))) none).run Tryz.prog W = .ok (.string c) W) (hx : a.eval x = .string t) (hy : a.eval y = .int .i64 g) (hz : a.eval z = .int .i64 ((g + 1 : Nat) : Int)) : (execOp a.eval oi).run Tryz.prog w = .ok (.value (.string c)) w := by
  have hl := hrun w
  rw [← hx, ← hy, ← hz] at hl
  simp [execOp, ho, hl]
theorem run_str1 (w : World) (z : UInt8) : (convert 50 9 (.slice (some ⟨w.heap.size, 0, none⟩) 1 1)).run Tryz.prog (w.alloc (.cells #[.int .u8 (z.toNat : Int)] 5)) = .ok (.string (sb [z])) (w.alloc (.cells #[.int .u8 (z.toNat : Int)] 5)) :=
  run_str (l := [z]) (rdB_blk (Blk.new w 5 (bc [z]))) 1
theorem run_fldM (z : ByteArray) (k : Int) (W : World) : (Instr.field 72 (.agg #[.string z, .int .i64 k]) 0).run Tryz.prog W = .ok (.string z) W := by kernel_rfl
theorem run_fldD (y z : ByteArray) (k : Int) (W : World) : (Instr.field 94 (.agg #[.string y, .string z, .int .i64 k]) 1).run Tryz.prog W = .ok (.string z) W := by kernel_rfl
theorem dv_size : (Tryz.prog.info? 94).map (·.size) = some 3 := by kernel_rfl
theorem dv_one (y z : ByteArray) (k : Int) : ∀ v ∈ [Value.string y, .string z, .int .i64 k], v.oneCell' = true := by
  intro v hv
  simp only [List.mem_cons, List.not_mem_nil, or_false] at hv
  rcases hv with rfl | rfl | rfl <;> rfl
def dvV (q r : ByteArray) (k : Int) : Value := .agg #[.string q, .string r, .int .i64 k]
abbrev dvZ : List Value := [.string ⟨#[]⟩, .string ⟨#[]⟩, .int .i64 0]
theorem nil_iff (n : Nat) : cS n = ⟨#[]⟩ ↔ n = 0 := ⟨fun h => by have h1 := congrArg nB h; rw [nB_cS] at h1; rw [h1]; rfl, fun h => by rw [h]; exact c0⟩
set_option maxRecDepth 100000 in
set_option maxHeartbeats 1000000 in
theorem rdiv_zero (s t : ByteArray) (w : World) (ht : t.size ≤ 100000) (h0 : nB t = 0) : Calls Tryz.prog 60 #[.string s, .string t] w fun e w' => e = .returned (dvV ⟨#[]⟩ ⟨#[]⟩ 1) ∧ Below w.heap.size w w' := by
  have HC := Lib.hid (fun W => rcleanC t ⟨#[]⟩ W ht (by rw [h0]; exact c0))
  clear ht h0
  go_enter Tryz.func60, Tryz.ntmps60
  go_wp2_with fail
  have HK0 := Lib.hid (Blk.new w 94 dvZ)
  have HW0 := Lib.hid ((Below.refl w.heap.size w).alloc (Nat.le_refl _) (.cells dvZ.toArray 94))
  refine (HC.out _).mono ?_
  rintro e w1 ⟨rfl, hw⟩
  subst hw
  go_wp2_with (refine wpList_store_all rfl 94 (.tmp 4) (.tmp 12) rfl w.heap.size _ dvZ [.string ⟨#[]⟩, .string ⟨#[]⟩, .int .i64 1] rfl rfl HK0.out rfl dv_size (dv_one _ _ _) ?_; intro w9 HK9 ho9; have HO9 := Lib.hid ho9; clear ho9)
  exact bodyPost_ret (results_blk rfl _ _ w.heap.size _ [.string ⟨#[]⟩, .string ⟨#[]⟩, .int .i64 1] _ rfl HK9.out Tryz.underlying94 rfl dv_size) rfl ⟨rfl, HW0.out.trans (HO9.out.below (Nat.le_refl _))⟩
/-- What stands in the outer loop. -/
def RdO (w : World) (l : List UInt8) (b : Nat) (qv rv kv : Value) (wr : World) : Prop :=
  ∃ (k : Nat) (Q : List UInt8), qv = .string (sb Q) ∧ rv = .string (cS (numB (l.take k) % b)) ∧ kv = .int .i64 k ∧ k ≤ l.length ∧ Hid (Q.length = k) ∧ Hid (numB Q = numB (l.take k) / b) ∧ Hid (Below w.heap.size w wr) ∧ Hid (Blk wr w.heap.size 94 dvZ)
theorem rdiv_step {P b c X n : Nat} (hb : 0 < b) (hX : 256 * (P % b) + c = X) (hn : X / b = n) : (256 * P + c) / b = 256 * (P / b) + n ∧ (256 * P + c) % b = X % b := by
  have e : 256 * P + c = b * (256 * (P / b)) + X := by
    have h := Nat.div_add_mod P b
    have h2 : b * (256 * (P / b)) = 256 * (b * (P / b)) := Nat.mul_left_comm ..
    omega
  rw [e, Nat.mul_add_div hb, Nat.mul_add_mod, hn]
  exact ⟨rfl, rfl⟩
set_option maxRecDepth 100000 in
set_option maxHeartbeats 2000000 in
theorem rdiv_any (s t : ByteArray) (w : World) (hs : s.size ≤ 20000) (ht : t.size ≤ 20000) (h0 : nB t ≠ 0) : Calls Tryz.prog 60 #[.string s, .string t] w fun e w' => e = .returned (dvV (cS (nB s / nB t)) (cS (nB s % nB t)) 0) ∧ Below w.heap.size w w' := by
  obtain ⟨l, hl⟩ : ∃ l, s.data.toList = l := ⟨_, rfl⟩
  have hsl : s.size = l.length := by rw [← hl]; exact Array.length_toList.symm
  have hs1 : s = sb l := by rw [← hl]; exact (show sb s.data.toList = s by cases s; simp [sb]).symm
  have hns : nB s = numB l := by unfold nB; rw [hl]
  obtain ⟨b, hb⟩ : ∃ b, nB t = b := ⟨_, rfl⟩
  have hbt : b < 256 ^ t.size := by rw [← hb]; exact nB_lt t
  rw [hb] at h0
  have hb0 := Nat.pos_of_ne_zero h0
  obtain ⟨T, hT⟩ : ∃ T, cS b = T := ⟨_, rfl⟩
  have hTn : T ≠ ⟨#[]⟩ := fun h => h0 ((nil_iff b).1 (by rw [hT]; exact h))
  have HC := Lib.hid (fun W => rcleanC t T W (by omega) (by rw [hb]; exact hT))
  have HE := Lib.hid (fun W => run_eqS T ⟨#[]⟩ false (decide_eq_false hTn) W)
  have hmid := fun W k c (h : l[k]? = some c) => run_str_mid W l k c h
  rw [← hs1] at hmid
  have HMID := Lib.hid hmid
  have HCM := Lib.hid (fun (X : Nat) W (h : (cS X).size ≤ 100000) => rcmp_any (cS X) t W h (by omega))
  have HSB := Lib.hid (fun (X : Nat) W (h : (cS X).size ≤ 50000) (hle : b ≤ X) => rsub_any (cS X) t W h (by omega) (by rw [nB_cS, hb]; exact hle))
  simp only [nB_cS, hb] at HCM HSB
  have HSZ := Lib.hid (fun (X : Nat) (h : X < 256 * b) => show (cS X).size ≤ 20001 from Nat.le_trans (cS_len (k := t.size + 1) (by rw [Nat.pow_succ]; omega)) (by omega))
  have HL := Lib.hid hsl
  rw [hns, hb]
  have hll : l.length ≤ 20000 := by omega
  clear hl hsl hs1 hns hb h0 hT hTn hmid hs ht hbt
  go_enter Tryz.func60, Tryz.ntmps60
  go_wp2_with fail
  refine (HC.out _).mono ?_
  rintro e w1 ⟨rfl, hw⟩
  subst hw
  go_wp2_with (refine wpList_dst 11 rfl ?_; refine wpList_run 11 rfl rfl _ (exec_bin .eql 9 _ (.tmp 10) (.const (.string ⟨#[]⟩)) rfl _ _ _ rfl rfl rfl (HE.out _)) ?_)
  go_loopw [5, 6, 7] (RdO w l b) (fun _ _ kv _ => l.length - (intOf kv).toNat)
  case atStart => exact ⟨0, [], rfl, by rw [List.take_zero, numB_nil, Nat.zero_mod, c0], rfl, Nat.zero_le _, Lib.hid rfl, Lib.hid (by rw [List.take_zero, numB_nil, Nat.zero_div]), Lib.hid ((Below.refl _ _).alloc (Nat.le_refl _) _), Lib.hid (Blk.new w 94 dvZ)⟩
  case round =>
    obtain ⟨k, Q, rfl, rfl, rfl, hk, HQL, HQN, HW, HZ⟩ := hrel
    by_cases hlt : k < l.length
    · have c1 : decide ((k : Int) < (s.size : Int)) = true := decide_eq_true (by rw [HL.out]; omega)
      have c1' : decide (k < s.size) = true := decide_eq_true (by rw [HL.out]; exact hlt)
      have hc : l[k]? = some l[k] := List.getElem?_eq_getElem hlt
      obtain ⟨c, hcc⟩ : ∃ c, l[k] = c := ⟨_, rfl⟩
      rw [hcc] at hc
      have HM := Lib.hid (fun W => HMID.out W k c hc)
      have htk : l.take (k + 1) = l.take k ++ [c] := by rw [List.take_succ_eq_append_getElem hlt, hcc]
      obtain ⟨P, hP⟩ : ∃ P, numB (l.take k) = P := ⟨_, rfl⟩
      have hPn : numB (l.take (k + 1)) = 256 * P + c.toNat := by rw [htk, numB_snoc, hP]
      rw [hP] at HQN ⊢
      obtain ⟨X, hX⟩ : ∃ X, 256 * (P % b) + c.toNat = X := ⟨_, rfl⟩
      obtain ⟨m, hm⟩ : ∃ m, X / b = m := ⟨_, rfl⟩
      have hst := rdiv_step hb0 hX hm
      have hc256 := UInt8.toNat_lt c
      have hmod := Nat.mod_lt P hb0
      have hXb : X < 256 * b := by omega
      have hm256 : m < 256 := by rw [← hm]; exact Nat.div_lt_of_lt_mul (by rw [Nat.mul_comm]; exact hXb)
      obtain ⟨r, hr⟩ : ∃ r, cS (P % b) = r := ⟨_, rfl⟩
      have hrb : numB r.data.toList = P % b := by rw [← hr]; exact nB_cS _
      have hrs : r.size ≤ 20001 := by rw [← hr]; exact HSZ.out _ (by omega)
      have HCT := Lib.hid (fun W => run_concat W r (sb [c]) (by rw [sb_size]; simp; omega))
      obtain ⟨r2, hr2⟩ : ∃ z, sb (r.data.toList ++ (sb [c]).data.toList) = z := ⟨_, rfl⟩
      have hr2n : nB r2 = X := by rw [← hr2]; unfold nB; rw [sb_list, sb_list, numB_snoc, hrb, hX]
      have hr2s : r2.size ≤ 20002 := by
        rw [← hr2, sb_size, sb_list, List.length_append]
        have : r.data.toList.length = r.size := Array.length_toList
        simp
        omega
      rw [hr2] at HCT
      have HCL := Lib.hid (fun W => rcleanC r2 (cS X) W (by omega) (by rw [hr2n]))
      have HST := Lib.hid hst
      have HPN := Lib.hid hPn
      have HXB := Lib.hid hXb
      have HM2 := Lib.hid (And.intro hm hm256)
      have HK1 := Lib.hid (fun W => run_addN k 1 (k + 1) W rfl (by omega))
      rw [hr]
      clear hc hcc htk hP hPn hX hm hst hc256 hmod hXb hm256 hr hrb hrs hr2 hr2n hr2s
      go_wp2_with (first
        | (refine wpList_dst 23 rfl ?_; refine wpList_run 23 rfl rfl _ (exec_bin .add 3 _ (.tmp 22) (.const (.int .i64 1)) rfl _ _ _ rfl rfl rfl (HK1.out _)) ?_)
        | (refine wpList_dst 24 rfl ?_; refine wpList_run 24 rfl rfl _ (exec_sMid (.tmp 20) (.tmp 21) (.tmp 23) rfl s _ k HM.out rfl rfl rfl) ?_)
        | (refine wpList_dst 25 rfl ?_; refine wpList_run 25 rfl rfl _ (exec_bin .add 9 _ (.tmp 19) (.tmp 24) rfl _ _ _ rfl rfl rfl (HCT.out _)) ?_))
      refine (HCL.out _).mono ?_
      rintro e w2 ⟨rfl, hw⟩
      obtain rfl : wr = w2 := hw.symm
      clear hw HCL HCT HM
      go_wp2_with fail
      go_loopw [6, 8] (fun rv nv wi => ∃ n : Nat, rv = .string (cS (X - n * b)) ∧ nv = .int .i64 n ∧ Hid (n * b ≤ X) ∧ Hid (Below w.heap.size w wi) ∧ Hid (Blk wi w.heap.size 94 dvZ)) (fun _ nv _ => 300 - (intOf nv).toNat)
      case atStart => exact ⟨0, by rw [Nat.zero_mul, Nat.sub_zero], rfl, Lib.hid (by rw [Nat.zero_mul]; exact Nat.zero_le _), HW, HZ⟩
      case round =>
        clear HW HZ
        obtain ⟨n, rfl, rfl, HN, HW, HZ⟩ := hrel
        obtain ⟨Y, hY⟩ : ∃ Y, X - n * b = Y := ⟨_, rfl⟩
        have hn256 : n < 256 := by
          have h1 := HN.out
          have h2 := HXB.out
          exact Nat.lt_of_mul_lt_mul_right (a := b) (by omega)
        have hYs : (cS Y).size ≤ 20001 := HSZ.out Y (by have := HXB.out; omega)
        obtain ⟨cv, hcv⟩ : ∃ z, cmpN Y b = z := ⟨_, rfl⟩
        have HC1 := Lib.hid (fun W => HCM.out Y W (by omega))
        rw [hcv] at HC1
        rw [hY]
        by_cases hYb : b ≤ Y
        · have c2 : decide ((0 : Int) ≤ cv) = true := by
            refine decide_eq_true ?_
            rw [← hcv]; unfold cmpN; rw [if_neg (by omega)]; split <;> omega
          have HS1 := Lib.hid (fun W => HSB.out Y W (by omega) hYb)
          have HN2 := Lib.hid (show (n + 1) * b ≤ X by rw [Nat.succ_mul]; omega)
          have HY2 := Lib.hid (show Y - b = X - (n + 1) * b by rw [Nat.succ_mul]; omega)
          clear hY hYs hcv hYb HN
          unfold mdV at HS1
          go_wp2_with fail
          refine (HC1.out _).mono ?_
          rintro e w2 ⟨rfl, hw⟩
          obtain rfl := hw.symm
          clear hw
          go_wp2_with fail
          refine (HS1.out _).mono ?_
          rintro e w3 ⟨rfl, hb3⟩
          have HW3 := Lib.hid (HW.out.trans (hb3.mono HW.out.size))
          have HZ3 := Lib.hid (HZ.out.next hb3)
          clear hb3
          go_wp2_with (first | (refine wpList_dst 34 rfl ?_; refine wpList_run 34 rfl rfl _ (exec_field 72 (.tmp 33) 0 rfl _ _ rfl (run_fldM _ _ _)) ?_))
          go_roundw
          case rel => exact ⟨n + 1, by rw [HY2.out], by go_num, HN2, HW3, HZ3⟩
          case measure => simp [intOf]; omega
        · have c2 : decide ((0 : Int) ≤ cv) = false := by
            refine decide_eq_false ?_
            rw [← hcv]; unfold cmpN; rw [if_pos (by omega)]; omega
          have hnm : n = X / b := by
            have h1 : X = b * n + Y := by rw [Nat.mul_comm]; have := HN.out; omega
            rw [h1, Nat.mul_add_div hb0, Nat.div_eq_of_lt (by omega), Nat.add_zero]
          have hYm : Y = X % b := by
            have h1 : X = b * n + Y := by rw [Nat.mul_comm]; have := HN.out; omega
            rw [h1, Nat.mul_add_mod, Nat.mod_eq_of_lt (by omega)]
          have HCV := Lib.hid (fun W => run_cvIB n W hn256)
          obtain ⟨z, hz⟩ : ∃ z, UInt8.ofNat n = z := ⟨_, rfl⟩
          have hzn : z.toNat = n := by rw [← hz, UInt8.toNat_ofNat']; exact Nat.mod_eq_of_lt hn256
          rw [hz] at HCV
          have HS1 := Lib.hid (fun W => run_str1 W z)
          have HCT := Lib.hid (fun W => run_concat W (sb Q) (sb [z]) (by rw [sb_size, sb_size]; have := HQL.out; simp; omega))
          rw [sb_list, sb_list] at HCT
          have HQ2 := Lib.hid (show numB (Q ++ [z]) = numB (l.take (k + 1)) / b by rw [HPN.out, HST.out.1, numB_snoc, HQN.out, hzn, hnm, HM2.out.1])
          have HR2 := Lib.hid (show cS Y = cS (numB (l.take (k + 1)) % b) by rw [HPN.out, HST.out.2, hYm])
          have HL2 := Lib.hid (show (Q ++ [z]).length = k + 1 by rw [List.length_append, HQL.out]; rfl)
          clear hY hYs hcv hYb hnm hYm hz hzn HN
          go_wp2_with fail
          refine (HC1.out _).mono ?_
          rintro e w2 ⟨rfl, hw⟩
          obtain rfl := hw.symm
          clear hw
          go_wp2_with (first
            | (refine wpList_dst 39 rfl ?_; refine wpList_run 39 rfl rfl _ (exec_convert 3 5 (.tmp 38) rfl _ _ rfl (HCV.out _)) ?_)
            | (refine wpList_dst 41 rfl ?_; refine wpList_run 41 rfl rfl _ (exec_convert 50 9 (.tmp 40) rfl _ _ rfl (HS1.out _)) ?_)
            | (refine wpList_dst 42 rfl ?_; refine wpList_run 42 rfl rfl _ (exec_bin .add 9 _ (.tmp 37) (.tmp 41) rfl _ _ _ rfl rfl rfl (HCT.out _)) ?_)
            | (refine wpList_dst 18 rfl ?_; refine wpList_run 18 rfl rfl _ (exec_bin .add 3 _ (.tmp 17) (.const (.int .i64 1)) rfl _ _ _ rfl rfl rfl (HK1.out _)) ?_))
          skip --@@
          go_roundw
          case rel => exact ⟨k + 1, Q ++ [z], rfl, by rw [HR2.out], rfl, by omega, HL2, HQ2, Lib.hid (HW.out.alloc HW.out.size _), Lib.hid (HZ.out.alloc _)⟩
          case measure => simp [intOf]; omega
    · obtain rfl : k = l.length := by omega
      have c1 : decide ((l.length : Int) < (s.size : Int)) = false := decide_eq_false (by rw [HL.out]; omega)
      have c1' : decide (l.length < s.size) = false := decide_eq_false (by rw [HL.out]; omega)
      rw [List.take_length] at HQN ⊢
      have HCL := Lib.hid (fun W => rcleanC (sb Q) (cS (numB l / b)) W (by rw [sb_size]; have := HQL.out; omega) (by unfold nB; rw [sb_list, HQN.out]))
      go_wp2_with fail
      refine (HCL.out _).mono ?_
      rintro e w2 ⟨rfl, hw⟩
      obtain rfl : wr = w2 := hw.symm
      clear hw
      go_wp2_with (refine wpList_store_all rfl 94 (.tmp 4) (.tmp 46) rfl w.heap.size _ dvZ [.string (cS (numB l / b)), .string (cS (numB l % b)), .int .i64 0] rfl rfl HZ.out rfl dv_size (dv_one _ _ _) ?_; intro w9 HK9 ho9; have HO9 := Lib.hid ho9; clear ho9)
      exact bodyPost_ret (results_blk rfl _ _ w.heap.size _ [.string (cS (numB l / b)), .string (cS (numB l % b)), .int .i64 0] _ rfl HK9.out Tryz.underlying94 rfl dv_size) rfl ⟨rfl, HW.out.trans (HO9.out.below (Nat.le_refl _))⟩
end Go.Proofs.YtpmlihhofmblpaaGreatDoor

/- The reference: Gcd, Int and Value. -/
namespace Go.Proofs.YtpmlihhofmblpaaGreatDoor
open Go.RowKit Hm Wm Wn

theorem run_neqS (x y : ByteArray) (b : Bool) (h : decide (x ≠ y) = b) (w : World) : (binOp .neq 9 (.string x) (.string y)).run Tryz.prog w = .ok (.bool b) w := by
  subst h
  have h1 := run_neq_str w x.data.toList y.data.toList
  rw [show sb x.data.toList = x by cases x; simp [sb], show sb y.data.toList = y by cases y; simp [sb]] at h1
  rw [h1]
  congr 2
  refine decide_eq_decide.2 ⟨fun h e => h (by rw [e]), fun h e => h ?_⟩
  cases x
  cases y
  simpa using e
set_option maxRecDepth 100000 in
set_option maxHeartbeats 1000000 in
theorem rgcd_any (s t : ByteArray) (w : World) (hs : s.size ≤ 20000) (ht : t.size ≤ 20000) : Calls Tryz.prog 72 #[.string s, .string t] w fun e w' => e = .returned (.string (cS (Nat.gcd (nB s) (nB t)))) ∧ Below w.heap.size w w' := by
  have HC1 := Lib.hid (fun W => rclean_any s W (by omega))
  have HC2 := Lib.hid (fun W => rclean_any t W (by omega))
  have HS1 := Lib.hid (show (cS (nB s)).size ≤ 20000 from cS_less (Nat.le_refl _) hs)
  have HS2 := Lib.hid (show (cS (nB t)).size ≤ 20000 from cS_less (Nat.le_refl _) ht)
  generalize nB s = a at HC1 HS1 ⊢
  generalize nB t = b at HC2 HS2 ⊢
  clear hs ht
  go_enter Tryz.func72, Tryz.ntmps72
  go_wp2_with fail
  refine (HC1.out w).mono ?_
  rintro e w1 ⟨rfl, hw⟩
  obtain rfl : w = w1 := hw.symm
  go_wp2_with fail
  refine (HC2.out w).mono ?_
  rintro e w1 ⟨rfl, hw⟩
  obtain rfl : w = w1 := hw.symm
  go_wp2_with fail
  go_loopg [5, 6] b (fun g xv yv wr => ∃ X : Nat, xv = .string (cS X) ∧ yv = .string (cS g) ∧ Hid (Nat.gcd X g = Nat.gcd a b) ∧ Hid ((cS X).size ≤ 20000) ∧ Hid ((cS g).size ≤ 20000) ∧ Hid (Below w.heap.size w wr))
  case atStart => exact ⟨a, rfl, rfl, Lib.hid rfl, HS1, HS2, Lib.hid (Below.refl _ _)⟩
  case round =>
    obtain ⟨X, rfl, rfl, HG, HX, HY, HW⟩ := hrel
    by_cases h0 : gk = 0
    · subst h0
      have HE := Lib.hid (show X = Nat.gcd a b by rw [← HG.out, Nat.gcd_zero_right])
      rw [c0]
      go_wp2_with fail
      go_ret
      exact ⟨by rw [← HE.out]; rfl, HW.out⟩
    · have H13 := Lib.hid (fun W => run_neqS (cS gk) ⟨#[]⟩ true (decide_eq_true (fun h => h0 ((nil_iff gk).1 h))) W)
      have hdv := fun W => rdiv_any (cS X) (cS gk) W HX.out HY.out (by rw [nB_cS]; exact h0)
      simp only [nB_cS] at hdv
      have HDV := Lib.hid hdv
      have HG2 := Lib.hid (show Nat.gcd gk (X % gk) = Nat.gcd a b by rw [gcd_rest, HG.out])
      have HL := Lib.hid (Nat.mod_lt X (Nat.pos_of_ne_zero h0))
      have HY2 := Lib.hid (show (cS (X % gk)).size ≤ 20000 from cS_less (x := cS gk) (by rw [nB_cS]; exact Nat.le_of_lt HL.out) HY.out)
      clear hdv h0
      go_wp2_with (first | (refine wpList_dst 13 rfl ?_; refine wpList_run 13 rfl rfl _ (exec_bin .neq 9 _ (.tmp 12) (.const (.string ⟨#[]⟩)) rfl _ _ _ rfl rfl rfl (H13.out _)) ?_))
      refine (HDV.out wr).mono ?_
      unfold dvV
      rintro e w2 ⟨rfl, hb⟩
      have HW2 := Lib.hid (HW.out.trans (hb.mono HW.out.size))
      clear hb
      go_wp2_with (first | (refine wpList_dst 17 rfl ?_; refine wpList_run 17 rfl rfl _ (exec_field 94 (.tmp 16) 1 rfl _ _ rfl (run_fldD _ _ _ _)) ?_))
      go_roundg (X % gk)
      case measure => exact HL.out
      case rel => exact ⟨gk, rfl, rfl, HG2, HY, HY2, HW2⟩
end Go.Proofs.YtpmlihhofmblpaaGreatDoor

/- The reference: Value. -/
namespace Go.Proofs.YtpmlihhofmblpaaGreatDoor
open Go.RowKit Hm Wm Wn

theorem ct_one (n k : Int) : ∀ v ∈ [Value.int .i64 n, .int .i64 k], v.oneCell' = true := by
  intro v hv
  simp only [List.mem_cons, List.not_mem_nil, or_false] at hv
  rcases hv with rfl | rfl <;> rfl
def ctV (n k : Int) : Value := .agg #[.int .i64 n, .int .i64 k]
theorem val_big {A : Nat} (h : 9223372036854775807 < A) (hb : (canS A).length ≤ 8) : (canS A).length = 8 ∧ ∃ c r, canS A = c :: r ∧ 127 < c.toNat := by
  have h1 := canS_len_lt A
  have h8 : (canS A).length = 8 := by
    rcases Nat.lt_or_ge (canS A).length 8 with h2 | h2
    · have : 256 ^ (canS A).length ≤ 256 ^ 7 := Nat.pow_le_pow_right (by decide) (by omega)
      have : (256 : Nat) ^ 7 = 72057594037927936 := by decide
      omega
    · omega
  refine ⟨h8, ?_⟩
  cases hc : canS A with
  | nil => rw [hc] at h8; simp at h8
  | cons c r =>
    refine ⟨c, r, rfl, ?_⟩
    have e := numB_canS A
    rw [hc] at e h8
    rw [numB_cons] at e
    have hr : r.length = 7 := by simpa using h8
    have h3 := numB_lt r
    rw [hr] at e h3
    have : (256 : Nat) ^ 7 = 72057594037927936 := by decide
    omega
theorem val_small {A : Nat} (h : A ≤ 9223372036854775807) : (canS A).length ≤ 8 ∧ ∀ c r, canS A = c :: r → (canS A).length = 8 → c.toNat ≤ 127 := by
  refine ⟨canS_len_le (Nat.lt_of_le_of_lt h (by decide)), fun c r hc h8 => ?_⟩
  have e := numB_canS A
  rw [hc] at e h8
  rw [numB_cons] at e
  have hr : r.length = 7 := by simpa using h8
  rw [hr] at e
  have : (256 : Nat) ^ 7 = 72057594037927936 := by decide
  omega
theorem numB_take_le (l : List UInt8) (k : Nat) : numB (l.take k) ≤ numB l := by
  conv => rhs; rw [← List.take_append_drop k l, numB_app]
  have := Nat.le_mul_of_pos_right (numB (l.take k)) (Nat.pow_pos (n := (l.drop k).length) (show 0 < 256 by decide))
  omega
theorem run_mulB (x z : Nat) (w : World) (h : 256 * x = z) (hz : z ≤ 9223372036854775807) : (binOp .mul 3 (.int .i64 256) (.int .i64 x)).run Tryz.prog w = .ok (.int .i64 (z : Int)) w := by
  have e : (256 : Int) * (x : Int) = (z : Int) := by omega
  simp [binOp, go_sem]
  rw [e]
  simp [IntKind.wrap, IntKind.bits, IntKind.signed]; omega
theorem run_addB (x y z : Nat) (w : World) (h : x + y = z) (hz : z ≤ 9223372036854775807) : (binOp .add 3 (.int .i64 x) (.int .i64 y)).run Tryz.prog w = .ok (.int .i64 (z : Int)) w := by
  simp [binOp, go_sem]
  simp [IntKind.wrap, IntKind.bits, IntKind.signed]; omega
end Go.Proofs.YtpmlihhofmblpaaGreatDoor

/- The reference: Text and Parse. -/
namespace Go.Proofs.YtpmlihhofmblpaaGreatDoor
open Go.RowKit Hm Wm Wn

theorem dg_val {k : Nat} (h : k < 10) : (UInt8.ofNat (48 + k)).toNat = 48 + k := by
  rw [UInt8.toNat_ofNat']
  omega
theorem dec_facts : ∀ n : Nat, decN (Lib.decDigits n) = n ∧ (Lib.decDigits n).all isDig = true ∧ (n ≠ 0 → (Lib.decDigits n).head? ≠ some 48) := by
  intro n
  induction n using Nat.strongRecOn with
  | ind n ih =>
    by_cases h : n < 10
    · rw [Lib.decDigits_one h]
      have e := dg_val h
      refine ⟨?_, ?_, fun h0 h1 => ?_⟩
      · simp only [decN, List.foldl_cons, List.foldl_nil, e]; omega
      · simp only [List.all_cons, List.all_nil, Bool.and_true, isDig, e, Bool.and_eq_true, decide_eq_true_eq]; omega
      · simp only [List.head?_cons, Option.some.injEq] at h1
        rw [h1] at e
        have : (48 : UInt8).toNat = 48 := rfl
        omega
    · obtain ⟨h1, h2, h3⟩ := ih (n / 10) (by omega)
      have e := dg_val (k := n % 10) (by omega)
      rw [dec_big h]
      refine ⟨?_, ?_, fun _ => ?_⟩
      · rw [decN_snoc, h1, e]; omega
      · rw [List.all_append, h2]
        simp only [List.all_cons, List.all_nil, Bool.and_true, Bool.true_and, isDig, e, Bool.and_eq_true, decide_eq_true_eq]; omega
      · have h3 := h3 (by omega)
        cases hl : Lib.decDigits (n / 10) with
        | nil =>
          have h4 := Lib.nDigits_pos (n / 10)
          rw [← Lib.decDigits_length, hl] at h4
          simp at h4
        | cons b r =>
          rw [hl] at h3
          simpa using h3
theorem dec_text (n : Nat) : isTextL (Lib.decDigits n) = true := by
  obtain ⟨_, h2, h3⟩ := dec_facts n
  by_cases h0 : n = 0
  · subst h0
    rw [Lib.decDigits_one (by decide)]
    decide
  · have h3 := h3 h0
    cases hl : Lib.decDigits n with
    | nil =>
      have h4 := Lib.nDigits_pos n
      rw [← Lib.decDigits_length, hl] at h4
      simp at h4
    | cons b r =>
      rw [hl] at h2 h3
      unfold isTextL
      simp only [List.head?_cons, ne_eq, Option.some.injEq] at h3
      simp only [h2, Bool.and_true]
      have : (b == 48) = false := by rw [beq_eq_false_iff_ne]; exact h3
      rw [this]
      rfl
theorem dec_ge : ∀ (k n : Nat), n ≠ 0 → (Lib.decDigits n).length = k + 1 → 10 ^ k ≤ n
  | 0, n, h, _ => by simp; omega
  | k + 1, n, h, hl => by
    by_cases hn : n < 10
    · rw [Lib.decDigits_one hn] at hl; simp at hl
    · rw [dec_big hn, List.length_append] at hl
      simp at hl
      have h1 := dec_ge k (n / 10) (by omega) hl
      rw [Nat.pow_succ]
      omega
theorem dec_lt (n : Nat) : n < 10 ^ (Lib.decDigits n).length := by rw [Lib.decDigits_length]; exact Lib.lt_pow_nDigits n
theorem dec_shorter {a b : Nat} (h : (Lib.decDigits a).length < (Lib.decDigits b).length) : a < b := by
  have h1 := dec_lt a
  obtain ⟨k, hk⟩ : ∃ k, (Lib.decDigits b).length = k + 1 := ⟨(Lib.decDigits b).length - 1, by omega⟩
  have hb : b ≠ 0 := fun h0 => by
    rw [h0, show Lib.decDigits 0 = [UInt8.ofNat (48 + 0)] from Lib.decDigits_one (show 0 < 10 by decide)] at h
    have h4 := Lib.nDigits_pos a
    rw [← Lib.decDigits_length] at h4
    rw [List.length_singleton] at h
    omega
  have h2 := dec_ge k b hb hk
  have h3 : 10 ^ (Lib.decDigits a).length ≤ 10 ^ k := Nat.pow_le_pow_right (by decide) (by omega)
  omega
theorem decN_cons (b : UInt8) (q : List UInt8) : decN (b :: q) = (b.toNat - 48) * 10 ^ q.length + decN q := by
  unfold decN
  rw [List.foldl_cons, decF_acc]
  simp [decN]
theorem less_dec : ∀ (l r : List UInt8), l.length = r.length → l.all isDig = true → r.all isDig = true → Op.bytesLess l r = decide (decN l < decN r)
  | [], [], _, _, _ => by simp [Op.bytesLess, decN]
  | [], _ :: _, h, _, _ => by simp at h
  | _ :: _, [], h, _, _ => by simp at h
  | b :: l, c :: r, h, hl, hr => by
    simp only [List.length_cons, Nat.add_right_cancel_iff] at h
    simp only [List.all_cons, Bool.and_eq_true, isDig, decide_eq_true_eq] at hl hr
    have h1 := decN_lt l hl.2
    have h2 := decN_lt r hr.2
    rw [← h] at h2
    rw [decN_cons, decN_cons, ← h]
    unfold Op.bytesLess
    rw [less_dec l r h hl.2 hr.2]
    generalize 10 ^ l.length = p at *
    by_cases hbc : b < c
    · have h3 : b.toNat < c.toNat := UInt8.lt_iff_toNat_lt.1 hbc
      have h4 : (b.toNat - 48 + 1) * p ≤ (c.toNat - 48) * p := Nat.mul_le_mul_right _ (by omega)
      rw [Nat.add_mul, Nat.one_mul] at h4
      rw [decide_eq_true hbc, Bool.true_or]
      exact (decide_eq_true (by omega)).symm
    · rw [decide_eq_false hbc, Bool.false_or]
      by_cases he : b = c
      · subst he
        rw [beq_self_eq_true, Bool.true_and]
        exact decide_eq_decide.2 (by omega)
      · have h3 : c.toNat < b.toNat := by
          have e1 : ¬ b.toNat < c.toNat := fun h => hbc (UInt8.lt_iff_toNat_lt.2 h)
          have e2 : b.toNat ≠ c.toNat := fun h => he (UInt8.toNat_inj.1 h)
          omega
        have h4 : (c.toNat - 48 + 1) * p ≤ (b.toNat - 48) * p := Nat.mul_le_mul_right _ (by omega)
        rw [Nat.add_mul, Nat.one_mul] at h4
        rw [show (b == c) = false by rw [beq_eq_false_iff_ne]; exact he, Bool.false_and]
        exact (decide_eq_false (by omega)).symm
theorem dec_short {x : ByteArray} {K : Nat} (hx : x.size ≤ K) : (Lib.decDigits (nB x)).length ≤ 3 * K + 1 := by
  refine ddg_len (3 * K) (nB x) (Nat.lt_of_lt_of_le (nB_lt x) (Nat.le_trans (Nat.pow_le_pow_left (show 256 ≤ 10 ^ 3 by decide) _) ?_))
  rw [← Nat.pow_mul]
  exact Nat.pow_le_pow_right (by decide) (by omega)

theorem dec_zero : Lib.decDigits 0 = [48] := by
  rw [show Lib.decDigits 0 = [UInt8.ofNat (48 + 0)] from Lib.decDigits_one (show 0 < 10 by decide)]
  rfl
theorem dec_len8 (n : Nat) : (Lib.decDigits n).length ≤ n + 1 := by
  induction n using Nat.strongRecOn with
  | ind n ih =>
    by_cases h : n < 10
    · rw [Lib.decDigits_one h]; simp
    · rw [dec_big h, List.length_append]
      have := ih (n / 10) (by omega)
      simp
      omega
theorem run_str1g (w : World) (g : Nat) (hg : g = w.heap.size) (z : UInt8) : (convert 50 9 (.slice (some ⟨g, 0, none⟩) 1 1)).run Tryz.prog (w.alloc (.cells #[.int .u8 (z.toNat : Int)] 5)) = .ok (.string (sb [z])) (w.alloc (.cells #[.int .u8 (z.toNat : Int)] 5)) := by
  subst hg; exact run_str1 w z
theorem ten_nB : nB ⟨#[10]⟩ = 10 := by decide
theorem run_addZ48 (x : Nat) (w : World) (h : x < 10) : (binOp .add 3 (.int .i64 48) (.int .i64 x)).run Tryz.prog w = .ok (.int .i64 ((48 + x : Nat) : Int)) w := by
  simp [binOp, go_sem]
  simp [IntKind.wrap, IntKind.bits, IntKind.signed]; omega
set_option maxRecDepth 100000 in
set_option maxHeartbeats 1000000 in
theorem rtext_any (s : ByteArray) (w : World) (hs : s.size ≤ 10000) : Calls Tryz.prog 33 #[.string s] w fun e w' => e = .returned (.string (sb (Lib.decDigits (nB s)))) ∧ Below w.heap.size w w' := by
  have HC := Lib.hid (fun W => rclean_any s W (by omega))
  have HDL := Lib.hid (show (Lib.decDigits (nB s)).length ≤ 30001 from Nat.le_trans (dec_short hs) (by omega))
  have HSZ := Lib.hid (fun m (h : m ≤ nB s) => show (cS m).size ≤ 10000 from cS_less h hs)
  generalize nB s = A at HC HDL HSZ ⊢
  by_cases h0 : A = 0
  · subst h0
    rw [c0] at HC
    rw [dec_zero]
    clear hs HDL HSZ
    go_enter Tryz.func33, Tryz.ntmps33
    go_wp2_with fail
    refine (HC.out _).mono ?_
    rintro e w1 ⟨rfl, hw⟩
    obtain rfl : w = w1 := hw.symm
    go_wp2
    go_ret
    exact ⟨rfl, Below.refl _ _⟩
  · have H9 := Lib.hid (fun W => run_eqS (cS A) ⟨#[]⟩ false (decide_eq_false (fun h => h0 ((nil_iff A).1 h))) W)
    have HA0 := Lib.hid h0
    clear hs h0
    go_enter Tryz.func33, Tryz.ntmps33
    go_wp2_with fail
    refine (HC.out _).mono ?_
    rintro e w1 ⟨rfl, hw⟩
    obtain rfl : w = w1 := hw.symm
    go_wp2_with (refine wpList_dst 9 rfl ?_; refine wpList_run 9 rfl rfl _ (exec_bin .eql 9 _ (.tmp 8) (.const (.string ⟨#[]⟩)) rfl _ _ _ rfl rfl rfl (H9.out _)) ?_)
    go_loopg [3, 4] A (fun g xv ov wr => ∃ L : List UInt8, xv = .string (cS g) ∧ ov = .string (sb L) ∧ g ≤ A ∧ Hid (Lib.decDigits A = (if g = 0 then L else Lib.decDigits g ++ L)) ∧ Hid (Below w.heap.size w wr))
    case atStart => exact ⟨[], rfl, rfl, Nat.le_refl _, Lib.hid (by rw [if_neg HA0.out, List.append_nil]), Lib.hid (Below.refl _ _)⟩
    case round =>
      obtain ⟨L, rfl, rfl, hg, HL, HW⟩ := hrel
      by_cases hz : gk = 0
      · subst hz
        have HE := Lib.hid (show Lib.decDigits A = L by rw [HL.out, if_pos rfl])
        rw [c0]
        go_wp2_with fail
        go_ret
        exact ⟨by rw [HE.out]; rfl, HW.out⟩
      · have H11 := Lib.hid (fun W => run_neqS (cS gk) ⟨#[]⟩ true (decide_eq_true (fun h => hz ((nil_iff gk).1 h))) W)
        have hdv := fun W => rdiv_any (cS gk) ⟨#[10]⟩ W (by have := HSZ.out gk hg; omega) (by decide) (by decide)
        rw [ten_nB, nB_cS] at hdv
        have hdg := fun W => rdigit_any (cS (gk % 10)) 0 W (by have := HSZ.out (gk % 10) (by omega); omega) (by omega)
        rw [nB_cS, Nat.pow_zero, Nat.div_one, Nat.mod_eq_of_lt (show gk % 10 < 256 by omega)] at hdg
        have hm : gk % 10 < 10 := by omega
        have hnext : Lib.decDigits A = (if gk / 10 = 0 then UInt8.ofNat (48 + gk % 10) :: L else Lib.decDigits (gk / 10) ++ (UInt8.ofNat (48 + gk % 10) :: L)) := by
          rw [HL.out, if_neg hz]
          by_cases h10 : gk < 10
          · rw [if_pos (by omega), Lib.decDigits_one h10, Nat.mod_eq_of_lt h10]; rfl
          · rw [if_neg (by omega), dec_big h10, List.append_assoc]; rfl
        have hql : gk / 10 < gk := Nat.div_lt_self (by omega) (by decide)
        obtain ⟨q, hq⟩ : ∃ q, gk / 10 = q := ⟨_, rfl⟩
        obtain ⟨m, hme⟩ : ∃ q, gk % 10 = q := ⟨_, rfl⟩
        rw [hq] at hdv hnext hql
        rw [hme] at hdv hdg hm hnext
        have HDV := Lib.hid hdv
        have HDG := Lib.hid hdg
        have HA1 := Lib.hid (fun W => run_addZ48 m W hm)
        have HCV := Lib.hid (fun W => run_cvIB (48 + m) W (by omega))
        obtain ⟨z, hz2⟩ : ∃ z, UInt8.ofNat (48 + m) = z := ⟨_, rfl⟩
        rw [hz2] at HCV hnext
        have HS1 := Lib.hid (fun W g h => run_str1g W g h z)
        have hL5 : L.length ≤ 30001 := by
          have h1 := congrArg List.length HL.out
          have h2 := HDL.out
          rw [if_neg hz, List.length_append] at h1
          omega
        have HCT := Lib.hid (fun W => run_concat W (sb [z]) (sb L) (by rw [sb_size, sb_size]; simp; omega))
        rw [sb_list, sb_list] at HCT
        have HNX := Lib.hid hnext
        clear hdv hdg hm hnext hq hme hz2 hL5 hz HL
        go_wp2_with (first | (refine wpList_dst 11 rfl ?_; refine wpList_run 11 rfl rfl _ (exec_bin .neq 9 _ (.tmp 10) (.const (.string ⟨#[]⟩)) rfl _ _ _ rfl rfl rfl (H11.out _)) ?_))
        refine (HDV.out wr).mono ?_
        unfold dvV
        rintro e w2 ⟨rfl, hb⟩
        have HW2 := Lib.hid (HW.out.trans (hb.mono HW.out.size))
        clear hb
        go_wp2_with fail
        refine (HDG.out _).mono ?_
        rintro e w3 ⟨rfl, hw⟩
        subst hw
        go_wp2_with (first
          | (refine wpList_dst 17 rfl ?_; refine wpList_run 17 rfl rfl _ (exec_bin .add 3 _ (.const (.int .i64 48)) (.tmp 16) rfl _ _ _ rfl rfl rfl (HA1.out _)) ?_)
          | (refine wpList_dst 18 rfl ?_; refine wpList_run 18 rfl rfl _ (exec_convert 3 5 (.tmp 17) rfl _ _ rfl (HCV.out _)) ?_)
          | (refine wpList_dst 20 rfl ?_; refine wpList_run 20 rfl rfl _ (exec_convert 50 9 (.tmp 19) rfl _ _ rfl (HS1.out _ _ (by simp))) ?_)
          | (refine wpList_dst 22 rfl ?_; refine wpList_run 22 rfl rfl _ (exec_bin .add 9 _ (.tmp 20) (.tmp 21) rfl _ _ _ rfl rfl rfl (HCT.out _)) ?_))
        go_roundg q
        case measure => exact hql
        case rel => exact ⟨[z] ++ L, rfl, rfl, by omega, HNX, Lib.hid ((HW2.out.alloc HW2.out.size _).alloc (Nat.le_trans HW2.out.size (by simp)) _)⟩
end Go.Proofs.YtpmlihhofmblpaaGreatDoor

/- The reference: Parse. -/
namespace Go.Proofs.YtpmlihhofmblpaaGreatDoor
open Go.RowKit Hm Wm Wn

theorem by_under : Tryz.prog.underlying 50 = some (.slice 5) := Tryz.underlying50
theorem run_byte1 (w : World) (d : Nat) : (Instr.buildSlice 50 1 #[(0, .int .u8 d)]).run Tryz.prog w = .ok (.slice (some ⟨w.heap.size, 0, none⟩) 1 1) (w.alloc (.cells #[.int .u8 d] 5)) := by
  obtain ⟨i0, hi, hz0, hz1, hz2⟩ := info_parts u8_info
  refine run_buildSlice w _ _ 1 _ _ i0 _ by_under hi hz0 (by rw [hz1]; omega) (by rw [hz1]; omega) ?_
  rw [hz1]
  rw [show (Array.map (fun x => (Value.int .u8 0).cells[x % (Value.int .u8 0).cells.size]!) (Array.range (1 * 1))) = #[.int .u8 0] from by kernel_rfl]
  rfl
theorem exec_byte1 {oi : Oper} {a : Act} {w : World} (x : Operand) (ho : oi.op = .buildSlice 50 1 #[(0, x)]) (d : Nat) (hx : a.eval x = .int .u8 d) : (execOp a.eval oi).run Tryz.prog w = .ok (.value (.slice (some ⟨w.heap.size, 0, none⟩) 1 1)) (w.alloc (.cells #[.int .u8 (d : Int)] 5)) := by
  unfold execOp
  simp only [ho, List.map_toArray, List.map_cons, List.map_nil, hx, Sem.run_bind, run_byte1, Result.andThen_ok]
  rfl
theorem op_make {P : Program} {Q : Exit → Act → World → Prop} {oi : Oper} {a : Act} {w : World} {K : Act → World → Prop} (d : Option Tmp) (hd : oi.dst = d) (v : Value) (w' : World) (hrun : (execOp a.eval oi).run P w = .ok (.value v) w') (h : K (a.put d v) w') : oi.wp P a w K Q := by
  subst hd
  unfold Oper.wp
  rw [hrun]
  exact h
theorem run_sub48 (c : UInt8) (n : Nat) (w : World) (h : 48 + n = c.toNat) : (binOp .sub 5 (.int .u8 c.toNat) (.int .u8 48)).run Tryz.prog w = .ok (.int .u8 (n : Int)) w := by
  have := UInt8.toNat_lt c
  simp [binOp, go_sem]
  simp [IntKind.wrap, IntKind.bits, IntKind.signed]; omega
def RpR (w : World) (l : List UInt8) (ov kv : Value) (wr : World) : Prop :=
  ∃ k : Nat, ov = .string (cS (decN (l.take k))) ∧ kv = .int .i64 k ∧ k ≤ l.length ∧ Hid ((l.take k).all isDig = true) ∧ Hid (Below w.heap.size w wr) ∧ Hid (Blk wr w.heap.size 72 [.string ⟨#[]⟩, .int .i64 0])
theorem not_text {l : List UInt8} {k : Nat} (hk : k < l.length) (h : isDig l[k] = false) : isTextL l = false := by
  have ha : l.all isDig = false := by
    rw [List.all_eq_false]
    exact ⟨_, List.getElem_mem hk, by rw [h]; decide⟩
  unfold isTextL
  split
  · rfl
  · rw [ha, Bool.and_false]
theorem is_text {b : UInt8} {r : List UInt8} (h : (b :: r).all isDig = true) (h2 : ¬ (b = 48 ∧ r ≠ [])) : isTextL (b :: r) = true := by
  unfold isTextL
  have h3 : (b == 48 && !r.isEmpty) = false := by
    cases hbb : b == 48
    · rfl
    · have hb : b = 48 := by simpa using hbb
      have hr : r = [] := Classical.byContradiction fun h => h2 ⟨hb, h⟩
      rw [hr]; rfl
  simp only [h3, h]
  rfl
theorem dec_cS {l : List UInt8} {N K : Nat} (h : N < 10 ^ l.length) (hl : l.length ≤ K) : (cS N).size ≤ K := cS_len (Nat.lt_of_lt_of_le h (Nat.le_trans (Nat.pow_le_pow_left (by decide) _) (Nat.pow_le_pow_right (by decide) hl)))
def rpV (l : List UInt8) : Value := if isTextL l then mdV (cS (decN l)) 0 else mdV ⟨#[]⟩ 27
theorem rpV_yes {l : List UInt8} (h : isTextL l = true) : rpV l = .agg #[.string (cS (decN l)), .int .i64 0] := by unfold rpV; rw [if_pos h]; rfl
theorem rpV_no {l : List UInt8} (h : isTextL l = false) : rpV l = .agg #[.string ⟨#[]⟩, .int .i64 27] := by unfold rpV; rw [h]; rfl
set_option maxRecDepth 100000 in
set_option maxHeartbeats 4000000 in
theorem rparse_any (s : ByteArray) (w : World) (hs : s.size ≤ 1000) : Calls Tryz.prog 39 #[.string s] w fun e w' => e = .returned (rpV s.data.toList) ∧ Below w.heap.size w w' := by
  have HK0 := Lib.hid (Blk.new w 72 [.string ⟨#[]⟩, .int .i64 0])
  have HW0 := Lib.hid ((Below.refl w.heap.size w).alloc (Nat.le_refl _) (.cells #[.string ⟨#[]⟩, .int .i64 0] 72))
  obtain ⟨l, hl⟩ : ∃ l, s.data.toList = l := ⟨_, rfl⟩
  have hsl : s.size = l.length := by rw [← hl]; exact Array.length_toList.symm
  rw [hl]
  cases l with
  | nil =>
    have hse : s = ⟨#[]⟩ := by
      cases s with
      | mk d => cases d with
        | mk ll => simp at hl; rw [hl]
    subst hse
    have HV := Lib.hid (rpV_no (l := []) rfl)
    clear hl hsl hs
    go_enter Tryz.func39, Tryz.ntmps39
    go_wp2_with (refine wpList_store_all rfl 72 (.tmp 2) (.tmp 17) rfl w.heap.size _ [.string ⟨#[]⟩, .int .i64 0] [.string ⟨#[]⟩, .int .i64 27] rfl rfl HK0.out rfl md_size (md_one _ _) ?_; intro w9 HK9 ho9; have HO9 := Lib.hid ho9; clear ho9)
    exact bodyPost_ret (results_blk rfl _ _ w.heap.size _ [.string ⟨#[]⟩, .int .i64 27] _ rfl HK9.out Tryz.underlying72 rfl md_size) rfl ⟨by rw [HV.out], HW0.out.trans (HO9.out.below (Nat.le_refl _))⟩
  | cons b r =>
    have hne : s ≠ ⟨#[]⟩ := fun h => by rw [h] at hl; simp at hl
    have H6 := Lib.hid (fun W => run_eqS s ⟨#[]⟩ false (decide_eq_false hne) W)
    have HL0 := Lib.hid (show s.data.toList[0]? = some b by rw [hl]; rfl)
    have hlen : s.size = r.length + 1 := by rw [hsl]; rfl
    by_cases hbad : b = 48 ∧ r ≠ []
    · have e0 : ((b.toNat : Int) == 48) = true := by rw [hbad.1]; rfl
      have hr1 : 1 ≤ r.length := List.length_pos_iff.2 hbad.2
      have c1 : decide ((1 : Int) < (s.size : Int)) = true := decide_eq_true (by omega)
      have c1' : decide (1 < s.size) = true := decide_eq_true (by omega)
      have HV := Lib.hid (rpV_no (l := b :: r) (by
        unfold isTextL
        have h2 : (b == 48 && !r.isEmpty) = true := by
          rw [hbad.1]
          cases r with
          | nil => exact absurd rfl hbad.2
          | cons x y => rfl
        simp only [h2]
        rfl))
      clear hl hsl hs hne hlen hbad hr1
      go_enter Tryz.func39, Tryz.ntmps39
      go_wp2_with (first
        | (refine wpList_dst 6 rfl ?_; refine wpList_run 6 rfl rfl _ (exec_bin .eql 9 _ (.tmp 5) (.const (.string ⟨#[]⟩)) rfl _ _ _ rfl rfl rfl (H6.out _)) ?_)
        | (refine wpList_dst 9 rfl ?_; refine wpList_runG 9 rfl rfl _ (exec_indexS0 (.tmp 8) (.const (.int .i64 0)) rfl s b HL0.out rfl rfl) ?_)
        | (refine wpList_store_all rfl 72 (.tmp 2) (.tmp 17) rfl w.heap.size _ [.string ⟨#[]⟩, .int .i64 0] [.string ⟨#[]⟩, .int .i64 27] rfl rfl HK0.out rfl md_size (md_one _ _) ?_; intro w9 HK9 ho9; have HO9 := Lib.hid ho9; clear ho9))
      exact bodyPost_ret (results_blk rfl _ _ w.heap.size _ [.string ⟨#[]⟩, .int .i64 27] _ rfl HK9.out Tryz.underlying72 rfl md_size) rfl ⟨by rw [HV.out], HW0.out.trans (HO9.out.below (Nat.le_refl _))⟩
    · have HT := Lib.hid (fun h => rpV_yes (is_text (b := b) (r := r) h hbad))
      have HF := Lib.hid (fun k (hk : k < (b :: r).length) h => rpV_no (not_text (l := b :: r) hk h))
      by_cases h48 : b = 48
      · have hr : r = [] := Classical.byContradiction fun h => hbad ⟨h48, h⟩
        have e0 : ((b.toNat : Int) == 48) = true := by rw [h48]; rfl
        have c1 : decide ((1 : Int) < (s.size : Int)) = false := decide_eq_false (by rw [hlen, hr]; simp)
        have c1' : decide (1 < s.size) = false := decide_eq_false (by rw [hlen, hr]; simp)
        obtain ⟨l, hll⟩ : ∃ l, b :: r = l := ⟨_, rfl⟩
        rw [hll] at HT HF hl hsl ⊢
        have HSZ := Lib.hid hsl
        have HTL := Lib.hid hl
        have hl1000 : l.length ≤ 1000 := by omega
        clear hl hsl hs hne hlen hbad h48 hr hll
        go_enter Tryz.func39, Tryz.ntmps39
        go_wp2_with (first
          | (refine wpList_dst 6 rfl ?_; refine wpList_run 6 rfl rfl _ (exec_bin .eql 9 _ (.tmp 5) (.const (.string ⟨#[]⟩)) rfl _ _ _ rfl rfl rfl (H6.out _)) ?_)
          | (refine wpList_dst 9 rfl ?_; refine wpList_runG 9 rfl rfl _ (exec_indexS0 (.tmp 8) (.const (.int .i64 0)) rfl s b HL0.out rfl rfl) ?_))
        go_loopw [3, 4] (RpR w l) (fun _ kv _ => l.length - (intOf kv).toNat)
        case atStart => exact ⟨0, by rw [List.take_zero, show decN [] = 0 from rfl, c0], rfl, Nat.zero_le _, Lib.hid rfl, HW0, HK0⟩
        case round =>
          clear HW0 HK0
          obtain ⟨k, rfl, rfl, hk, HA, HW, HZ⟩ := hrel
          by_cases hlt : k < l.length
          · have d1 : decide ((k : Int) < (s.size : Int)) = true := decide_eq_true (by rw [HSZ.out]; omega)
            have d1' : decide (k < s.size) = true := decide_eq_true (by rw [HSZ.out]; exact hlt)
            have hc : s.data.toList[k]? = some l[k] := by rw [HTL.out]; exact List.getElem?_eq_getElem hlt
            have hf := fun h : isDig l[k] = false => HF.out k hlt h
            have htk : l.take (k + 1) = l.take k ++ [l[k]] := List.take_succ_eq_append_getElem hlt
            obtain ⟨c, hcc⟩ : ∃ c, l[k] = c := ⟨_, rfl⟩
            rw [hcc] at hc hf htk
            have HIX := Lib.hid hc
            have hbadc : isDig c = false → Hid (rpV l = .agg #[.string ⟨#[]⟩, .int .i64 27]) := fun h => Lib.hid (hf h)
            by_cases h1 : c.toNat < 48
            · have e1 : decide ((c.toNat : Int) < 48) = true := decide_eq_true (by omega)
              have HV := hbadc (by unfold isDig; rw [decide_eq_false (by omega)]; rfl)
              clear hc hf htk hcc hbadc h1 HA
              go_wp2_with (first
                | (refine wpList_dst 26 rfl ?_; refine wpList_run 26 rfl rfl _ (exec_indexS (.tmp 24) (.tmp 25) rfl s k c HIX.out rfl rfl) ?_)
                | (refine wpList_store_all rfl 72 (.tmp 2) (.tmp 34) rfl w.heap.size _ [.string ⟨#[]⟩, .int .i64 0] [.string ⟨#[]⟩, .int .i64 27] rfl rfl HZ.out rfl md_size (md_one _ _) ?_; intro w9 HK9 ho9; have HO9 := Lib.hid ho9; clear ho9))
              exact bodyPost_ret (results_blk rfl _ _ w.heap.size _ [.string ⟨#[]⟩, .int .i64 27] _ rfl HK9.out Tryz.underlying72 rfl md_size) rfl ⟨by rw [HV.out], HW.out.trans (HO9.out.below (Nat.le_refl _))⟩
            have e1 : decide ((c.toNat : Int) < 48) = false := decide_eq_false (by omega)
            by_cases h2 : 57 < c.toNat
            · have e2 : decide ((57 : Int) < (c.toNat : Int)) = true := decide_eq_true (by omega)
              have HV := hbadc (by unfold isDig; rw [decide_eq_false (p := c.toNat ≤ 57) (by omega), Bool.and_false])
              clear hc hf htk hcc hbadc h1 h2 HA
              go_wp2_with (first
                | (refine wpList_dst 26 rfl ?_; refine wpList_run 26 rfl rfl _ (exec_indexS (.tmp 24) (.tmp 25) rfl s k c HIX.out rfl rfl) ?_)
                | (refine wpList_dst 31 rfl ?_; refine wpList_runG 31 rfl rfl _ (exec_indexS (.tmp 29) (.tmp 30) rfl s k c HIX.out rfl rfl) ?_)
                | (refine wpList_store_all rfl 72 (.tmp 2) (.tmp 34) rfl w.heap.size _ [.string ⟨#[]⟩, .int .i64 0] [.string ⟨#[]⟩, .int .i64 27] rfl rfl HZ.out rfl md_size (md_one _ _) ?_; intro w9 HK9 ho9; have HO9 := Lib.hid ho9; clear ho9))
              exact bodyPost_ret (results_blk rfl _ _ w.heap.size _ [.string ⟨#[]⟩, .int .i64 27] _ rfl HK9.out Tryz.underlying72 rfl md_size) rfl ⟨by rw [HV.out], HW.out.trans (HO9.out.below (Nat.le_refl _))⟩
            have e2 : decide ((57 : Int) < (c.toNat : Int)) = false := decide_eq_false (by omega)
            have hcd : isDig c = true := by unfold isDig; rw [decide_eq_true (p := 48 ≤ c.toNat) (by omega), decide_eq_true (p := c.toNat ≤ 57) (by omega)]; rfl
            have HA2 := Lib.hid (show (l.take (k + 1)).all isDig = true by rw [htk, List.all_append, HA.out]; simp [hcd])
            obtain ⟨n, hn⟩ : ∃ n, 48 + n = c.toNat := ⟨c.toNat - 48, by omega⟩
            have hdn : decN (l.take (k + 1)) = 10 * decN (l.take k) + n := by rw [htk, decN_snoc]; omega
            have hlt10 := decN_lt (l.take k) HA.out
            have hlen10 : (l.take k).length ≤ 1000 := by rw [List.length_take]; omega
            obtain ⟨N, hN⟩ : ∃ N, decN (l.take k) = N := ⟨_, rfl⟩
            rw [hN] at hdn hlt10 ⊢
            have hNs : (cS N).size ≤ 1000 := dec_cS (l := l.take k) hlt10 hlen10
            have hMs : (cS (N * 10)).size ≤ 1001 := by
              have h3 := cS_prod (x := cS N) (y := ⟨#[10]⟩) (j := 1000) (k := 1) hNs (by decide)
              rwa [nB_cS, ten_nB] at h3
            have hmu := fun W => rmul_any (cS N) ⟨#[10]⟩ W (by omega) (by decide)
            rw [nB_cS, ten_nB] at hmu
            obtain ⟨z, hz⟩ : ∃ z, UInt8.ofNat n = z := ⟨_, rfl⟩
            have hzn : z.toNat = n := by rw [← hz, UInt8.toNat_ofNat']; exact Nat.mod_eq_of_lt (by omega)
            have hzb : nB (sb [z]) = n := by unfold nB; rw [sb_list]; simp [numB, hzn]
            have had := fun W => radd_any (cS (N * 10)) (sb [z]) W (by omega) (by rw [sb_size]; simp)
            rw [nB_cS, hzb, show N * 10 + n = decN (l.take (k + 1)) by rw [hdn]; omega] at had
            have HMU := Lib.hid hmu
            have HAD := Lib.hid had
            have HSB := Lib.hid (fun W => run_sub48 c n W hn)
            have HZN := Lib.hid hzn
            obtain ⟨X, hX⟩ : ∃ X, cS (decN (l.take (k + 1))) = X := ⟨_, rfl⟩
            rw [hX] at HAD
            have HXX := Lib.hid hX
            clear hc hf htk hcc hbadc h1 h2 HA hcd hn hdn hlt10 hlen10 hN hNs hMs hmu hz hzn hzb had hX
            go_wp2_with (first
              | (refine wpList_dst 26 rfl ?_; refine wpList_run 26 rfl rfl _ (exec_indexS (.tmp 24) (.tmp 25) rfl s k c HIX.out rfl rfl) ?_)
              | (refine wpList_dst 31 rfl ?_; refine wpList_runG 31 rfl rfl _ (exec_indexS (.tmp 29) (.tmp 30) rfl s k c HIX.out rfl rfl) ?_))
            refine late_begin (S := fun _ _ => True) (by kernel_rfl) ?_
            have hWu0 := HW.out.drew
            have hZu0 := HZ.out.drew
            generalize wr.drew = u0 at hWu0 hZu0 ⊢
            refine late_take [] (i := 0) (some 35) rfl rfl rfl (by kernel_rfl) (by kernel_rfl) (by kernel_rfl) (by kernel_rfl) (by kernel_rfl) (fun Ls W h => h) (.string (cS N)) (fun _ _ _ h => h) (fun Ls W hl0 hW => exec_move (.tmp 3) rfl _ rfl) trivial trivial ?_
            go_frame
            refine late_take [] (i := 2) (some 37) rfl rfl rfl (by kernel_rfl) (by kernel_rfl) (by kernel_rfl) (by kernel_rfl) (by kernel_rfl) (fun Ls W h => h) (.string s) (fun _ _ _ h => h) (fun Ls W hl0 hW => exec_move (.tmp 0) rfl _ rfl) trivial trivial ?_
            go_frame
            refine late_take [] (i := 3) (some 38) rfl rfl rfl (by kernel_rfl) (by kernel_rfl) (by kernel_rfl) (by kernel_rfl) (by kernel_rfl) (fun Ls W h => h) (.int .i64 k) (fun _ _ _ h => h) (fun Ls W hl0 hW => exec_move (.tmp 4) rfl _ rfl) trivial trivial ?_
            go_frame
            refine late_take [] (i := 4) (some 39) rfl rfl rfl (by kernel_rfl) (by kernel_rfl) (by kernel_rfl) (by kernel_rfl) (by kernel_rfl) (fun Ls W h => h) (.int .u8 (c.toNat : Int)) (fun _ _ _ h => h) (fun Ls W hl0 hW => exec_indexS (.tmp 37) (.tmp 38) rfl s k c HIX.out rfl rfl) trivial trivial ?_
            go_frame
            refine late_take [] (i := 5) (some 40) rfl rfl rfl (by kernel_rfl) (by kernel_rfl) (by kernel_rfl) (by kernel_rfl) (by kernel_rfl) (fun Ls W h => h) (.int .u8 (n : Int)) (fun _ _ _ h => h) (fun Ls W hl0 hW => exec_bin .sub 5 _ (.tmp 39) (.const (.int .u8 48)) rfl _ _ _ rfl rfl rfl (HSB.out W)) trivial trivial ?_
            go_frame
            refine late_two (i := 1) (j := 6) (by kernel_rfl) ?_ ?_
            · refine op_call (some 36) rfl rfl rfl rfl Tryz.func70 (by kernel_rfl) (by kernel_rfl) #[.string (cS N), .string ⟨#[10]⟩] rfl (HMU.out u0) ?_
              rintro e u1 ⟨rfl, hbu1⟩
              have hWu1 := hWu0.trans (hbu1.mono hWu0.size)
              have hZu1 := hZu0.next hbu1
              refine ⟨_, rfl, trivial, ?_⟩
              go_frame
              refine late_one (i := 6) (by kernel_rfl) (op_wp rfl rfl (op_make (some 41) rfl (.slice (some ⟨u1.heap.size, 0, none⟩) 1 1) (u1.alloc (.cells #[.int .u8 (n : Int)] 5)) (exec_byte1 (.tmp 40) rfl n rfl) ⟨trivial, ?_⟩))
              go_frame
              have hKu2 : Blk (u1.alloc (.cells #[.int .u8 (n : Int)] 5)) u1.heap.size 5 (bc [z]) := by
                have h3 := Blk.new u1 5 (bc [z])
                rwa [show bc [z] = [.int .u8 (n : Int)] by rw [← HZN.out]; rfl] at h3 ⊢
              have hWu2 := hWu1.alloc hWu1.size (.cells #[.int .u8 (n : Int)] 5)
              have hZu2 := hZu1.alloc (.cells #[.int .u8 (n : Int)] 5)
              obtain ⟨g7, hg7⟩ : ∃ g, u1.heap.size = g := ⟨_, rfl⟩
              rw [hg7] at hKu2 ⊢
              generalize (u1.alloc (.cells #[.int .u8 (n : Int)] 5)) = u2 at hKu2 hWu2 hZu2 ⊢
              refine late_one (i := 7) (by kernel_rfl) (op_value (some 42) rfl rfl rfl (.string (sb [z])) (exec_convert 50 9 (.tmp 41) rfl _ _ rfl (run_str (l := [z]) (rdB_blk hKu2) 1)) ⟨trivial, ?_⟩)
              go_frame
              refine late_one (i := 8) (by kernel_rfl) (op_call (some 43) rfl rfl rfl rfl Tryz.func69 (by kernel_rfl) (by kernel_rfl) #[.string (cS (N * 10)), .string (sb [z])] rfl (HAD.out u2) ?_)
              rintro e u9 ⟨rfl, hb9⟩
              have hW9 := hWu2.trans (hb9.mono hWu2.size)
              have hZ9 := hZu2.next hb9
              refine ⟨_, rfl, trivial, ?_⟩
              go_frame
              refine late_one (i := 9) (by kernel_rfl) (op_value (some 3) rfl rfl rfl (.string X) (exec_assign (.tmp 43) rfl _ rfl) ⟨trivial, late_done (by kernel_rfl) ?_ _⟩)
              go_frame
              have HW9 := Lib.hid hW9
              have HZ9 := Lib.hid hZ9
              clear hW9 hZ9 hb9 hWu0 hZu0
              go_wp2_with fail
              go_roundw
              case rel => exact ⟨k + 1, by rw [HXX.out], by go_num, by omega, HA2, HW9, HZ9⟩
              case measure => simp [intOf]; omega
            · refine op_wp rfl rfl (op_make (some 41) rfl (.slice (some ⟨u0.heap.size, 0, none⟩) 1 1) (u0.alloc (.cells #[.int .u8 (n : Int)] 5)) (exec_byte1 (.tmp 40) rfl n rfl) ⟨trivial, ?_⟩)
              go_frame
              have hKu1 : Blk (u0.alloc (.cells #[.int .u8 (n : Int)] 5)) u0.heap.size 5 (bc [z]) := by
                have h3 := Blk.new u0 5 (bc [z])
                rwa [show bc [z] = [.int .u8 (n : Int)] by rw [← HZN.out]; rfl] at h3 ⊢
              have hWu1 := hWu0.alloc hWu0.size (.cells #[.int .u8 (n : Int)] 5)
              have hZu1 := hZu0.alloc (.cells #[.int .u8 (n : Int)] 5)
              obtain ⟨g7, hg7⟩ : ∃ g, u0.heap.size = g := ⟨_, rfl⟩
              rw [hg7] at hKu1 ⊢
              generalize (u0.alloc (.cells #[.int .u8 (n : Int)] 5)) = u1 at hKu1 hWu1 hZu1 ⊢
              refine late_two (i := 1) (j := 7) (by kernel_rfl) ?_ ?_
              · refine op_call (some 36) rfl rfl rfl rfl Tryz.func70 (by kernel_rfl) (by kernel_rfl) #[.string (cS N), .string ⟨#[10]⟩] rfl (HMU.out u1) ?_
                rintro e u2 ⟨rfl, hbu2⟩
                have hWu2 := hWu1.trans (hbu2.mono hWu1.size)
                have hZu2 := hZu1.next hbu2
                refine ⟨_, rfl, trivial, ?_⟩
                go_frame
                refine late_one (i := 7) (by kernel_rfl) (op_value (some 42) rfl rfl rfl (.string (sb [z])) (exec_convert 50 9 (.tmp 41) rfl _ _ rfl (run_str (l := [z]) (rdB_blk (hKu1.next hbu2)) 1)) ⟨trivial, ?_⟩)
                go_frame
                refine late_one (i := 8) (by kernel_rfl) (op_call (some 43) rfl rfl rfl rfl Tryz.func69 (by kernel_rfl) (by kernel_rfl) #[.string (cS (N * 10)), .string (sb [z])] rfl (HAD.out u2) ?_)
                rintro e u9 ⟨rfl, hb9⟩
                have hW9 := hWu2.trans (hb9.mono hWu2.size)
                have hZ9 := hZu2.next hb9
                refine ⟨_, rfl, trivial, ?_⟩
                go_frame
                refine late_one (i := 9) (by kernel_rfl) (op_value (some 3) rfl rfl rfl (.string X) (exec_assign (.tmp 43) rfl _ rfl) ⟨trivial, late_done (by kernel_rfl) ?_ _⟩)
                go_frame
                have HW9 := Lib.hid hW9
                have HZ9 := Lib.hid hZ9
                clear hW9 hZ9 hb9 hWu0 hZu0
                go_wp2_with fail
                go_roundw
                case rel => exact ⟨k + 1, by rw [HXX.out], by go_num, by omega, HA2, HW9, HZ9⟩
                case measure => simp [intOf]; omega
              · refine op_value (some 42) rfl rfl rfl (.string (sb [z])) (exec_convert 50 9 (.tmp 41) rfl _ _ rfl (run_str (l := [z]) (rdB_blk hKu1) 1)) ⟨trivial, ?_⟩
                go_frame
                refine late_one (i := 1) (by kernel_rfl) (op_call (some 36) rfl rfl rfl rfl Tryz.func70 (by kernel_rfl) (by kernel_rfl) #[.string (cS N), .string ⟨#[10]⟩] rfl (HMU.out u1) ?_)
                rintro e u2 ⟨rfl, hbu2⟩
                have hWu2 := hWu1.trans (hbu2.mono hWu1.size)
                have hZu2 := hZu1.next hbu2
                refine ⟨_, rfl, trivial, ?_⟩
                go_frame
                refine late_one (i := 8) (by kernel_rfl) (op_call (some 43) rfl rfl rfl rfl Tryz.func69 (by kernel_rfl) (by kernel_rfl) #[.string (cS (N * 10)), .string (sb [z])] rfl (HAD.out u2) ?_)
                rintro e u9 ⟨rfl, hb9⟩
                have hW9 := hWu2.trans (hb9.mono hWu2.size)
                have hZ9 := hZu2.next hb9
                refine ⟨_, rfl, trivial, ?_⟩
                go_frame
                refine late_one (i := 9) (by kernel_rfl) (op_value (some 3) rfl rfl rfl (.string X) (exec_assign (.tmp 43) rfl _ rfl) ⟨trivial, late_done (by kernel_rfl) ?_ _⟩)
                go_frame
                have HW9 := Lib.hid hW9
                have HZ9 := Lib.hid hZ9
                clear hW9 hZ9 hb9 hWu0 hZu0
                go_wp2_with fail
                go_roundw
                case rel => exact ⟨k + 1, by rw [HXX.out], by go_num, by omega, HA2, HW9, HZ9⟩
                case measure => simp [intOf]; omega
          · obtain rfl : k = l.length := by omega
            have d1 : decide ((l.length : Int) < (s.size : Int)) = false := decide_eq_false (by rw [HSZ.out]; omega)
            have d1' : decide (l.length < s.size) = false := decide_eq_false (by rw [HSZ.out]; omega)
            rw [List.take_length] at HA ⊢
            have HV := Lib.hid (HT.out HA.out)
            go_wp2_with (refine wpList_store_all rfl 72 (.tmp 2) (.tmp 45) rfl w.heap.size _ [.string ⟨#[]⟩, .int .i64 0] [.string (cS (decN l)), .int .i64 0] rfl rfl HZ.out rfl md_size (md_one _ _) ?_; intro w9 HK9 ho9; have HO9 := Lib.hid ho9; clear ho9)
            exact bodyPost_ret (results_blk rfl _ _ w.heap.size _ [.string (cS (decN l)), .int .i64 0] _ rfl HK9.out Tryz.underlying72 rfl md_size) rfl ⟨by rw [HV.out], HW.out.trans (HO9.out.below (Nat.le_refl _))⟩
      · have e0 : ((b.toNat : Int) == 48) = false := by
          rw [beq_eq_false_iff_ne]
          intro h
          have h3 : (48 : UInt8).toNat = 48 := rfl
          exact h48 (UInt8.toNat_inj.1 (by omega))
        obtain ⟨l, hll⟩ : ∃ l, b :: r = l := ⟨_, rfl⟩
        rw [hll] at HT HF hl hsl ⊢
        have HSZ := Lib.hid hsl
        have HTL := Lib.hid hl
        have hl1000 : l.length ≤ 1000 := by omega
        clear hl hsl hs hne hlen hbad h48 hll
        go_enter Tryz.func39, Tryz.ntmps39
        go_wp2_with (first
          | (refine wpList_dst 6 rfl ?_; refine wpList_run 6 rfl rfl _ (exec_bin .eql 9 _ (.tmp 5) (.const (.string ⟨#[]⟩)) rfl _ _ _ rfl rfl rfl (H6.out _)) ?_)
          | (refine wpList_dst 9 rfl ?_; refine wpList_runG 9 rfl rfl _ (exec_indexS0 (.tmp 8) (.const (.int .i64 0)) rfl s b HL0.out rfl rfl) ?_))
        go_loopw [3, 4] (RpR w l) (fun _ kv _ => l.length - (intOf kv).toNat)
        case atStart => exact ⟨0, by rw [List.take_zero, show decN [] = 0 from rfl, c0], rfl, Nat.zero_le _, Lib.hid rfl, HW0, HK0⟩
        case round =>
          clear HW0 HK0
          obtain ⟨k, rfl, rfl, hk, HA, HW, HZ⟩ := hrel
          by_cases hlt : k < l.length
          · have d1 : decide ((k : Int) < (s.size : Int)) = true := decide_eq_true (by rw [HSZ.out]; omega)
            have d1' : decide (k < s.size) = true := decide_eq_true (by rw [HSZ.out]; exact hlt)
            have hc : s.data.toList[k]? = some l[k] := by rw [HTL.out]; exact List.getElem?_eq_getElem hlt
            have hf := fun h : isDig l[k] = false => HF.out k hlt h
            have htk : l.take (k + 1) = l.take k ++ [l[k]] := List.take_succ_eq_append_getElem hlt
            obtain ⟨c, hcc⟩ : ∃ c, l[k] = c := ⟨_, rfl⟩
            rw [hcc] at hc hf htk
            have HIX := Lib.hid hc
            have hbadc : isDig c = false → Hid (rpV l = .agg #[.string ⟨#[]⟩, .int .i64 27]) := fun h => Lib.hid (hf h)
            by_cases h1 : c.toNat < 48
            · have e1 : decide ((c.toNat : Int) < 48) = true := decide_eq_true (by omega)
              have HV := hbadc (by unfold isDig; rw [decide_eq_false (by omega)]; rfl)
              clear hc hf htk hcc hbadc h1 HA
              go_wp2_with (first
                | (refine wpList_dst 26 rfl ?_; refine wpList_run 26 rfl rfl _ (exec_indexS (.tmp 24) (.tmp 25) rfl s k c HIX.out rfl rfl) ?_)
                | (refine wpList_store_all rfl 72 (.tmp 2) (.tmp 34) rfl w.heap.size _ [.string ⟨#[]⟩, .int .i64 0] [.string ⟨#[]⟩, .int .i64 27] rfl rfl HZ.out rfl md_size (md_one _ _) ?_; intro w9 HK9 ho9; have HO9 := Lib.hid ho9; clear ho9))
              exact bodyPost_ret (results_blk rfl _ _ w.heap.size _ [.string ⟨#[]⟩, .int .i64 27] _ rfl HK9.out Tryz.underlying72 rfl md_size) rfl ⟨by rw [HV.out], HW.out.trans (HO9.out.below (Nat.le_refl _))⟩
            have e1 : decide ((c.toNat : Int) < 48) = false := decide_eq_false (by omega)
            by_cases h2 : 57 < c.toNat
            · have e2 : decide ((57 : Int) < (c.toNat : Int)) = true := decide_eq_true (by omega)
              have HV := hbadc (by unfold isDig; rw [decide_eq_false (p := c.toNat ≤ 57) (by omega), Bool.and_false])
              clear hc hf htk hcc hbadc h1 h2 HA
              go_wp2_with (first
                | (refine wpList_dst 26 rfl ?_; refine wpList_run 26 rfl rfl _ (exec_indexS (.tmp 24) (.tmp 25) rfl s k c HIX.out rfl rfl) ?_)
                | (refine wpList_dst 31 rfl ?_; refine wpList_runG 31 rfl rfl _ (exec_indexS (.tmp 29) (.tmp 30) rfl s k c HIX.out rfl rfl) ?_)
                | (refine wpList_store_all rfl 72 (.tmp 2) (.tmp 34) rfl w.heap.size _ [.string ⟨#[]⟩, .int .i64 0] [.string ⟨#[]⟩, .int .i64 27] rfl rfl HZ.out rfl md_size (md_one _ _) ?_; intro w9 HK9 ho9; have HO9 := Lib.hid ho9; clear ho9))
              exact bodyPost_ret (results_blk rfl _ _ w.heap.size _ [.string ⟨#[]⟩, .int .i64 27] _ rfl HK9.out Tryz.underlying72 rfl md_size) rfl ⟨by rw [HV.out], HW.out.trans (HO9.out.below (Nat.le_refl _))⟩
            have e2 : decide ((57 : Int) < (c.toNat : Int)) = false := decide_eq_false (by omega)
            have hcd : isDig c = true := by unfold isDig; rw [decide_eq_true (p := 48 ≤ c.toNat) (by omega), decide_eq_true (p := c.toNat ≤ 57) (by omega)]; rfl
            have HA2 := Lib.hid (show (l.take (k + 1)).all isDig = true by rw [htk, List.all_append, HA.out]; simp [hcd])
            obtain ⟨n, hn⟩ : ∃ n, 48 + n = c.toNat := ⟨c.toNat - 48, by omega⟩
            have hdn : decN (l.take (k + 1)) = 10 * decN (l.take k) + n := by rw [htk, decN_snoc]; omega
            have hlt10 := decN_lt (l.take k) HA.out
            have hlen10 : (l.take k).length ≤ 1000 := by rw [List.length_take]; omega
            obtain ⟨N, hN⟩ : ∃ N, decN (l.take k) = N := ⟨_, rfl⟩
            rw [hN] at hdn hlt10 ⊢
            have hNs : (cS N).size ≤ 1000 := dec_cS (l := l.take k) hlt10 hlen10
            have hMs : (cS (N * 10)).size ≤ 1001 := by
              have h3 := cS_prod (x := cS N) (y := ⟨#[10]⟩) (j := 1000) (k := 1) hNs (by decide)
              rwa [nB_cS, ten_nB] at h3
            have hmu := fun W => rmul_any (cS N) ⟨#[10]⟩ W (by omega) (by decide)
            rw [nB_cS, ten_nB] at hmu
            obtain ⟨z, hz⟩ : ∃ z, UInt8.ofNat n = z := ⟨_, rfl⟩
            have hzn : z.toNat = n := by rw [← hz, UInt8.toNat_ofNat']; exact Nat.mod_eq_of_lt (by omega)
            have hzb : nB (sb [z]) = n := by unfold nB; rw [sb_list]; simp [numB, hzn]
            have had := fun W => radd_any (cS (N * 10)) (sb [z]) W (by omega) (by rw [sb_size]; simp)
            rw [nB_cS, hzb, show N * 10 + n = decN (l.take (k + 1)) by rw [hdn]; omega] at had
            have HMU := Lib.hid hmu
            have HAD := Lib.hid had
            have HSB := Lib.hid (fun W => run_sub48 c n W hn)
            have HZN := Lib.hid hzn
            obtain ⟨X, hX⟩ : ∃ X, cS (decN (l.take (k + 1))) = X := ⟨_, rfl⟩
            rw [hX] at HAD
            have HXX := Lib.hid hX
            clear hc hf htk hcc hbadc h1 h2 HA hcd hn hdn hlt10 hlen10 hN hNs hMs hmu hz hzn hzb had hX
            go_wp2_with (first
              | (refine wpList_dst 26 rfl ?_; refine wpList_run 26 rfl rfl _ (exec_indexS (.tmp 24) (.tmp 25) rfl s k c HIX.out rfl rfl) ?_)
              | (refine wpList_dst 31 rfl ?_; refine wpList_runG 31 rfl rfl _ (exec_indexS (.tmp 29) (.tmp 30) rfl s k c HIX.out rfl rfl) ?_))
            refine late_begin (S := fun _ _ => True) (by kernel_rfl) ?_
            have hWu0 := HW.out.drew
            have hZu0 := HZ.out.drew
            generalize wr.drew = u0 at hWu0 hZu0 ⊢
            refine late_take [] (i := 0) (some 35) rfl rfl rfl (by kernel_rfl) (by kernel_rfl) (by kernel_rfl) (by kernel_rfl) (by kernel_rfl) (fun Ls W h => h) (.string (cS N)) (fun _ _ _ h => h) (fun Ls W hl0 hW => exec_move (.tmp 3) rfl _ rfl) trivial trivial ?_
            go_frame
            refine late_take [] (i := 2) (some 37) rfl rfl rfl (by kernel_rfl) (by kernel_rfl) (by kernel_rfl) (by kernel_rfl) (by kernel_rfl) (fun Ls W h => h) (.string s) (fun _ _ _ h => h) (fun Ls W hl0 hW => exec_move (.tmp 0) rfl _ rfl) trivial trivial ?_
            go_frame
            refine late_take [] (i := 3) (some 38) rfl rfl rfl (by kernel_rfl) (by kernel_rfl) (by kernel_rfl) (by kernel_rfl) (by kernel_rfl) (fun Ls W h => h) (.int .i64 k) (fun _ _ _ h => h) (fun Ls W hl0 hW => exec_move (.tmp 4) rfl _ rfl) trivial trivial ?_
            go_frame
            refine late_take [] (i := 4) (some 39) rfl rfl rfl (by kernel_rfl) (by kernel_rfl) (by kernel_rfl) (by kernel_rfl) (by kernel_rfl) (fun Ls W h => h) (.int .u8 (c.toNat : Int)) (fun _ _ _ h => h) (fun Ls W hl0 hW => exec_indexS (.tmp 37) (.tmp 38) rfl s k c HIX.out rfl rfl) trivial trivial ?_
            go_frame
            refine late_take [] (i := 5) (some 40) rfl rfl rfl (by kernel_rfl) (by kernel_rfl) (by kernel_rfl) (by kernel_rfl) (by kernel_rfl) (fun Ls W h => h) (.int .u8 (n : Int)) (fun _ _ _ h => h) (fun Ls W hl0 hW => exec_bin .sub 5 _ (.tmp 39) (.const (.int .u8 48)) rfl _ _ _ rfl rfl rfl (HSB.out W)) trivial trivial ?_
            go_frame
            refine late_two (i := 1) (j := 6) (by kernel_rfl) ?_ ?_
            · refine op_call (some 36) rfl rfl rfl rfl Tryz.func70 (by kernel_rfl) (by kernel_rfl) #[.string (cS N), .string ⟨#[10]⟩] rfl (HMU.out u0) ?_
              rintro e u1 ⟨rfl, hbu1⟩
              have hWu1 := hWu0.trans (hbu1.mono hWu0.size)
              have hZu1 := hZu0.next hbu1
              refine ⟨_, rfl, trivial, ?_⟩
              go_frame
              refine late_one (i := 6) (by kernel_rfl) (op_wp rfl rfl (op_make (some 41) rfl (.slice (some ⟨u1.heap.size, 0, none⟩) 1 1) (u1.alloc (.cells #[.int .u8 (n : Int)] 5)) (exec_byte1 (.tmp 40) rfl n rfl) ⟨trivial, ?_⟩))
              go_frame
              have hKu2 : Blk (u1.alloc (.cells #[.int .u8 (n : Int)] 5)) u1.heap.size 5 (bc [z]) := by
                have h3 := Blk.new u1 5 (bc [z])
                rwa [show bc [z] = [.int .u8 (n : Int)] by rw [← HZN.out]; rfl] at h3 ⊢
              have hWu2 := hWu1.alloc hWu1.size (.cells #[.int .u8 (n : Int)] 5)
              have hZu2 := hZu1.alloc (.cells #[.int .u8 (n : Int)] 5)
              obtain ⟨g7, hg7⟩ : ∃ g, u1.heap.size = g := ⟨_, rfl⟩
              rw [hg7] at hKu2 ⊢
              generalize (u1.alloc (.cells #[.int .u8 (n : Int)] 5)) = u2 at hKu2 hWu2 hZu2 ⊢
              refine late_one (i := 7) (by kernel_rfl) (op_value (some 42) rfl rfl rfl (.string (sb [z])) (exec_convert 50 9 (.tmp 41) rfl _ _ rfl (run_str (l := [z]) (rdB_blk hKu2) 1)) ⟨trivial, ?_⟩)
              go_frame
              refine late_one (i := 8) (by kernel_rfl) (op_call (some 43) rfl rfl rfl rfl Tryz.func69 (by kernel_rfl) (by kernel_rfl) #[.string (cS (N * 10)), .string (sb [z])] rfl (HAD.out u2) ?_)
              rintro e u9 ⟨rfl, hb9⟩
              have hW9 := hWu2.trans (hb9.mono hWu2.size)
              have hZ9 := hZu2.next hb9
              refine ⟨_, rfl, trivial, ?_⟩
              go_frame
              refine late_one (i := 9) (by kernel_rfl) (op_value (some 3) rfl rfl rfl (.string X) (exec_assign (.tmp 43) rfl _ rfl) ⟨trivial, late_done (by kernel_rfl) ?_ _⟩)
              go_frame
              have HW9 := Lib.hid hW9
              have HZ9 := Lib.hid hZ9
              clear hW9 hZ9 hb9 hWu0 hZu0
              go_wp2_with fail
              go_roundw
              case rel => exact ⟨k + 1, by rw [HXX.out], by go_num, by omega, HA2, HW9, HZ9⟩
              case measure => simp [intOf]; omega
            · refine op_wp rfl rfl (op_make (some 41) rfl (.slice (some ⟨u0.heap.size, 0, none⟩) 1 1) (u0.alloc (.cells #[.int .u8 (n : Int)] 5)) (exec_byte1 (.tmp 40) rfl n rfl) ⟨trivial, ?_⟩)
              go_frame
              have hKu1 : Blk (u0.alloc (.cells #[.int .u8 (n : Int)] 5)) u0.heap.size 5 (bc [z]) := by
                have h3 := Blk.new u0 5 (bc [z])
                rwa [show bc [z] = [.int .u8 (n : Int)] by rw [← HZN.out]; rfl] at h3 ⊢
              have hWu1 := hWu0.alloc hWu0.size (.cells #[.int .u8 (n : Int)] 5)
              have hZu1 := hZu0.alloc (.cells #[.int .u8 (n : Int)] 5)
              obtain ⟨g7, hg7⟩ : ∃ g, u0.heap.size = g := ⟨_, rfl⟩
              rw [hg7] at hKu1 ⊢
              generalize (u0.alloc (.cells #[.int .u8 (n : Int)] 5)) = u1 at hKu1 hWu1 hZu1 ⊢
              refine late_two (i := 1) (j := 7) (by kernel_rfl) ?_ ?_
              · refine op_call (some 36) rfl rfl rfl rfl Tryz.func70 (by kernel_rfl) (by kernel_rfl) #[.string (cS N), .string ⟨#[10]⟩] rfl (HMU.out u1) ?_
                rintro e u2 ⟨rfl, hbu2⟩
                have hWu2 := hWu1.trans (hbu2.mono hWu1.size)
                have hZu2 := hZu1.next hbu2
                refine ⟨_, rfl, trivial, ?_⟩
                go_frame
                refine late_one (i := 7) (by kernel_rfl) (op_value (some 42) rfl rfl rfl (.string (sb [z])) (exec_convert 50 9 (.tmp 41) rfl _ _ rfl (run_str (l := [z]) (rdB_blk (hKu1.next hbu2)) 1)) ⟨trivial, ?_⟩)
                go_frame
                refine late_one (i := 8) (by kernel_rfl) (op_call (some 43) rfl rfl rfl rfl Tryz.func69 (by kernel_rfl) (by kernel_rfl) #[.string (cS (N * 10)), .string (sb [z])] rfl (HAD.out u2) ?_)
                rintro e u9 ⟨rfl, hb9⟩
                have hW9 := hWu2.trans (hb9.mono hWu2.size)
                have hZ9 := hZu2.next hb9
                refine ⟨_, rfl, trivial, ?_⟩
                go_frame
                refine late_one (i := 9) (by kernel_rfl) (op_value (some 3) rfl rfl rfl (.string X) (exec_assign (.tmp 43) rfl _ rfl) ⟨trivial, late_done (by kernel_rfl) ?_ _⟩)
                go_frame
                have HW9 := Lib.hid hW9
                have HZ9 := Lib.hid hZ9
                clear hW9 hZ9 hb9 hWu0 hZu0
                go_wp2_with fail
                go_roundw
                case rel => exact ⟨k + 1, by rw [HXX.out], by go_num, by omega, HA2, HW9, HZ9⟩
                case measure => simp [intOf]; omega
              · refine op_value (some 42) rfl rfl rfl (.string (sb [z])) (exec_convert 50 9 (.tmp 41) rfl _ _ rfl (run_str (l := [z]) (rdB_blk hKu1) 1)) ⟨trivial, ?_⟩
                go_frame
                refine late_one (i := 1) (by kernel_rfl) (op_call (some 36) rfl rfl rfl rfl Tryz.func70 (by kernel_rfl) (by kernel_rfl) #[.string (cS N), .string ⟨#[10]⟩] rfl (HMU.out u1) ?_)
                rintro e u2 ⟨rfl, hbu2⟩
                have hWu2 := hWu1.trans (hbu2.mono hWu1.size)
                have hZu2 := hZu1.next hbu2
                refine ⟨_, rfl, trivial, ?_⟩
                go_frame
                refine late_one (i := 8) (by kernel_rfl) (op_call (some 43) rfl rfl rfl rfl Tryz.func69 (by kernel_rfl) (by kernel_rfl) #[.string (cS (N * 10)), .string (sb [z])] rfl (HAD.out u2) ?_)
                rintro e u9 ⟨rfl, hb9⟩
                have hW9 := hWu2.trans (hb9.mono hWu2.size)
                have hZ9 := hZu2.next hb9
                refine ⟨_, rfl, trivial, ?_⟩
                go_frame
                refine late_one (i := 9) (by kernel_rfl) (op_value (some 3) rfl rfl rfl (.string X) (exec_assign (.tmp 43) rfl _ rfl) ⟨trivial, late_done (by kernel_rfl) ?_ _⟩)
                go_frame
                have HW9 := Lib.hid hW9
                have HZ9 := Lib.hid hZ9
                clear hW9 hZ9 hb9 hWu0 hZu0
                go_wp2_with fail
                go_roundw
                case rel => exact ⟨k + 1, by rw [HXX.out], by go_num, by omega, HA2, HW9, HZ9⟩
                case measure => simp [intOf]; omega
          · obtain rfl : k = l.length := by omega
            have d1 : decide ((l.length : Int) < (s.size : Int)) = false := decide_eq_false (by rw [HSZ.out]; omega)
            have d1' : decide (l.length < s.size) = false := decide_eq_false (by rw [HSZ.out]; omega)
            rw [List.take_length] at HA ⊢
            have HV := Lib.hid (HT.out HA.out)
            go_wp2_with (refine wpList_store_all rfl 72 (.tmp 2) (.tmp 45) rfl w.heap.size _ [.string ⟨#[]⟩, .int .i64 0] [.string (cS (decN l)), .int .i64 0] rfl rfl HZ.out rfl md_size (md_one _ _) ?_; intro w9 HK9 ho9; have HO9 := Lib.hid ho9; clear ho9)
            exact bodyPost_ret (results_blk rfl _ _ w.heap.size _ [.string (cS (decN l)), .int .i64 0] _ rfl HK9.out Tryz.underlying72 rfl md_size) rfl ⟨by rw [HV.out], HW.out.trans (HO9.out.below (Nat.le_refl _))⟩
end Go.Proofs.YtpmlihhofmblpaaGreatDoor

/- Both sides' answers in one; fields of the reference's results. -/
namespace Go.Proofs.YtpmlihhofmblpaaGreatDoor
open Go.RowKit Hm Wm Wn

theorem sub_both (s t : ByteArray) (hs : s.size ≤ 40) (ht : t.size ≤ 40) : ∃ (z : ByteArray) (k : Int), (∀ W, Calls Tryz.prog 127 #[.string s, .string t] W fun e w' => e = .returned (.tuple #[.string z, .int .i64 k]) ∧ Below W.heap.size W w')
    ∧ (∀ W, Calls Tryz.prog 76 #[.string s, .string t] W fun e w' => e = .returned (.agg #[.string z, .int .i64 k]) ∧ Below W.heap.size W w') := by
  by_cases h : nB s < nB t
  · refine ⟨⟨#[]⟩, 3, fun W => ?_, fun W => rsub_low s t W (by omega) (by omega) h⟩
    have h1 := sub_low s t W h
    rw [c0] at h1
    exact h1.mono fun e w' ⟨h2, h3⟩ => ⟨h2, by rw [h3]; exact Below.refl _ _⟩
  · exact ⟨_, 0, fun W => sub_any s t W (by omega) (by omega) (by omega), fun W => rsub_any s t W (by omega) (by omega) (by omega)⟩
theorem div_both (s t : ByteArray) (hs : s.size ≤ 40) (ht : t.size ≤ 40) : ∃ (q r : ByteArray) (k : Int), (∀ W, Calls Tryz.prog 79 #[.string s, .string t] W fun e w' => e = .returned (.tuple #[.string q, .string r, .int .i64 k]) ∧ Below W.heap.size W w')
    ∧ (∀ W, Calls Tryz.prog 60 #[.string s, .string t] W fun e w' => e = .returned (.agg #[.string q, .string r, .int .i64 k]) ∧ Below W.heap.size W w') := by
  by_cases h : nB t = 0
  · refine ⟨⟨#[]⟩, ⟨#[]⟩, 1, fun W => ?_, fun W => rdiv_zero s t W (by omega) h⟩
    have h1 := divMod_zero s t W (by omega) h
    rw [c0] at h1
    exact h1
  · exact ⟨_, _, 0, fun W => divModS_any s t W (by omega) (by omega) h, fun W => rdiv_any s t W (by omega) (by omega) h⟩
theorem sb_back (s : ByteArray) : sb s.data.toList = s := by cases s; rfl
theorem parse_both (s : ByteArray) (hs : s.size ≤ 100) : ∃ (z : ByteArray) (k : Int), (∀ W, Calls Tryz.prog 36 #[.string s] W fun e w' => e = .returned (.tuple #[.string z, .int .i64 k]) ∧ Below W.heap.size W w')
    ∧ (∀ W, Calls Tryz.prog 39 #[.string s] W fun e w' => e = .returned (.agg #[.string z, .int .i64 k]) ∧ Below W.heap.size W w') := by
  have hr := fun W => rparse_any s W (by omega)
  have hl : s.data.toList.length ≤ 20000 := by
    have h1 : s.size = s.data.toList.length := Array.length_toList.symm
    omega
  cases h : isTextL s.data.toList
  · rw [rpV_no h] at hr
    refine ⟨⟨#[]⟩, 27, fun W => ?_, hr⟩
    have h1 := parse_no s.data.toList W hl h
    rw [c0, sb_back] at h1
    exact h1.mono fun e w' ⟨h2, h3⟩ => ⟨h2, by rw [h3]; exact Below.refl _ _⟩
  · rw [rpV_yes h] at hr
    refine ⟨_, 0, fun W => ?_, hr⟩
    have h1 := parse_yes s.data.toList W hl h
    rw [sb_back] at h1
    exact h1
theorem run_eqI (k : Int) (W : World) : (binOp .eql 3 (.int .i64 k) (.int .i64 k)).run Tryz.prog W = .ok (.bool true) W := by
  simp [binOp, go_sem]
theorem run_eqE (k : Int) (W : World) : (binOp .eql 28 (.int .i64 k) (.int .i64 k)).run Tryz.prog W = .ok (.bool true) W := by
  simp [binOp, go_sem]
theorem run_eqB (k : Bool) (W : World) : (binOp .eql 4 (.bool k) (.bool k)).run Tryz.prog W = .ok (.bool true) W := by
  cases k <;> kernel_rfl
theorem md_zero : (Tryz.prog.info? 72).map (·.zero) = some (some (.agg ([.string ⟨#[]⟩, .int .i64 0] : List Value).toArray)) := by kernel_rfl
theorem dv_zero : (Tryz.prog.info? 94).map (·.zero) = some (some (.agg ([.string ⟨#[]⟩, .string ⟨#[]⟩, .int .i64 0] : List Value).toArray)) := by kernel_rfl
theorem md_f0 (g : Nat) (W : World) : (Instr.fieldAt 72 (.pointer (some ⟨g, 0, none⟩)) 0).run Tryz.prog W = .ok (.pointer (some ⟨g, 0, none⟩)) W := by kernel_rfl
theorem md_f1 (g : Nat) (W : World) : (Instr.fieldAt 72 (.pointer (some ⟨g, 0, none⟩)) 1).run Tryz.prog W = .ok (.pointer (some ⟨g, 1, none⟩)) W := by kernel_rfl
theorem dv_f0 (g : Nat) (W : World) : (Instr.fieldAt 94 (.pointer (some ⟨g, 0, none⟩)) 0).run Tryz.prog W = .ok (.pointer (some ⟨g, 0, none⟩)) W := by kernel_rfl
theorem dv_f1 (g : Nat) (W : World) : (Instr.fieldAt 94 (.pointer (some ⟨g, 0, none⟩)) 1).run Tryz.prog W = .ok (.pointer (some ⟨g, 1, none⟩)) W := by kernel_rfl
theorem dv_f2 (g : Nat) (W : World) : (Instr.fieldAt 94 (.pointer (some ⟨g, 0, none⟩)) 2).run Tryz.prog W = .ok (.pointer (some ⟨g, 2, none⟩)) W := by kernel_rfl
theorem str_flat (W : World) : (isAgg 9).run Tryz.prog W = .ok false W := by kernel_rfl
theorem errno_flat (W : World) : (isAgg 28).run Tryz.prog W = .ok false W := by kernel_rfl
theorem exec_loadF {oi : Oper} {a : Act} {w : World} {g o : Nat} (ty : TypeId) (hf : ∀ W, (isAgg ty).run Tryz.prog W = .ok false W) (x : Operand) (ho : oi.op = .load ty x) (v : Value) (hx : a.eval x = .pointer (some ⟨g, o, none⟩)) (h : w.cell? ⟨g, o, none⟩ = some v) : (execOp a.eval oi).run Tryz.prog w = .ok (.value v) w :=
  exec_load ty x ho _ _ hx (run_load_cell hf h)
end Go.Proofs.YtpmlihhofmblpaaGreatDoor
