/- Valid, Int and Value. -/
import Derived.Test.YtkjnfobaoaaopaaGreatDoorN9
namespace Go.Proofs.YtkjnfobaoaaopaaGreatDoor
open Go.RowKit Hm Wm Wn

def validB (s : ByteArray) : Bool := match s.data.toList with | [] => true | b :: _ => b != 0
theorem u8_ne0 (b : UInt8) : ((b.toNat : Int) != 0) = (b != 0) := by
  have hz : (0 : UInt8).toNat = 0 := rfl
  rw [Bool.eq_iff_iff, bne_iff_ne, bne_iff_ne]
  constructor
  · rintro h rfl; exact h rfl
  · intro h e; exact h (UInt8.toNat_inj.1 (by rw [hz]; omega))
set_option maxRecDepth 100000 in
set_option maxHeartbeats 400000 in
theorem valid_any (s : ByteArray) (w : World) : Calls Tryz.prog 10 #[.string s] w fun e w' => e = .returned (.bool (validB s)) ∧ w' = w := by
  obtain ⟨l, rfl⟩ : ∃ l, s = sb l := ⟨s.data.toList, (sb_of s).symm⟩
  have hq := fun W => run_eql_str W l []
  rcases l with _ | ⟨b, r⟩
  · have HV := Lib.hid (show validB (sb []) = true from rfl)
    have HQ := Lib.hid (fun W => show (binOp .eql 9 (.string (sb [])) (.string ⟨#[]⟩)).run Tryz.prog W = .ok (.bool true) W from hq W)
    obtain ⟨t, ht⟩ : ∃ t, sb [] = t := ⟨_, rfl⟩
    rw [ht] at HV HQ ⊢
    clear hq ht
    go_enter Tryz.func10, Tryz.ntmps10
    go_wp2_with (refine wpList_run 4 rfl rfl _ (exec_bin .eql 9 _ (.tmp 3) (.const (.string ⟨#[]⟩)) rfl _ _ _ rfl rfl rfl (HQ.out _)) ?_)
    go_ret
    exact ⟨by rw [HV.out]; rfl, rfl⟩
  · have HV := Lib.hid (show validB (sb (b :: r)) = (b != 0) by unfold validB; rw [sb_list])
    have HI := Lib.hid (show (sb (b :: r)).data.toList[0]? = some b by rw [sb_list]; rfl)
    have HQ := Lib.hid (fun W => show (binOp .eql 9 (.string (sb (b :: r))) (.string ⟨#[]⟩)).run Tryz.prog W = .ok (.bool false) W from hq W)
    have HB := Lib.hid (u8_ne0 b)
    obtain ⟨t, ht⟩ : ∃ t, sb (b :: r) = t := ⟨_, rfl⟩
    rw [ht] at HV HQ HI ⊢
    obtain ⟨hsz', hb0'⟩ := List.getElem?_eq_some_iff.1 HI.out
    have hsz : 0 < t.size := by simpa using hsz'
    have HB0 : Hid (t[0]'hsz = b) := Lib.hid (by rw [← hb0']; rfl)
    clear hq ht hb0' hsz'
    go_enter Tryz.func10, Tryz.ntmps10
    go_wp2_with (first | (refine wpList_run 4 rfl rfl _ (exec_bin .eql 9 _ (.tmp 3) (.const (.string ⟨#[]⟩)) rfl _ _ _ rfl rfl rfl (HQ.out _)) ?_) | fail)
    go_ret
    exact ⟨by rw [HV.out, ← HB.out, ← HB0.out]; rfl, rfl⟩
theorem validB_cS (n : Nat) : validB (cS n) = true := by
  have h := canB_canS n
  unfold validB cS
  rw [sb_list]
  unfold CanB at h
  generalize canS n = l at h ⊢
  rcases l with _ | ⟨b, r⟩
  · rfl
  · simp only [bne_iff_ne]
    intro e
    apply h
    rw [e]; rfl
theorem run_word1 (w : World) (d : Nat) : (Instr.buildSlice 50 1 #[(0, .int .u64 d)]).run Tryz.prog w = .ok (.slice (some ⟨w.heap.size, 0, none⟩) 1 1) (w.alloc (.cells #[.int .u64 d] 53)) := by
  obtain ⟨i0, hi, hz0, hz1, hz2⟩ := info_parts wd_info
  refine run_buildSlice w _ _ 1 _ _ i0 _ dg_under hi hz0 (by rw [hz1]; omega) (by rw [hz1]; omega) ?_
  rw [hz1]
  rw [show (Array.map (fun x => (Value.int .u64 0).cells[x % (Value.int .u64 0).cells.size]!) (Array.range (1 * 1))) = #[.int .u64 0] from by kernel_rfl]
  rfl
theorem wpList_word1 {w : World} {ops : Array Oper} {rest : List Oper} {o : Oper} {a : Act} {Q : Exit → Act → World → Prop} (hw : Region.wanted o (yielded ops a.tmps) = true) (x : Operand) (ho : o.op = .buildSlice 50 1 #[(0, x)]) (d : Nat) (hx : a.eval x = .int .u64 d)
    (h : ∀ w', Hid (Blk w' w.heap.size 53 (ws [d])) → Hid (Below w.heap.size w w') → wpList Tryz.prog ops Q rest (a.put o.dst (.slice (some ⟨w.heap.size, 0, none⟩) 1 1)) w') : wpList Tryz.prog ops Q (o :: rest) a w := by
  refine wpList_want hw fun K hK => ?_
  unfold Oper.wp execOp
  simp only [ho, List.map_toArray, List.map_cons, List.map_nil, hx, Sem.run_bind, run_word1, Result.andThen_ok]
  exact hK _ _ (h _ (Lib.hid (Blk.new w 53 (ws [d]))) (Lib.hid ((Below.refl _ _).alloc (Nat.le_refl _) _)))
theorem num_one (d : Nat) : num [d] = d := by simp [num]
set_option maxRecDepth 100000 in
set_option maxHeartbeats 400000 in
theorem int_any (n : Nat) (w : World) (h : n ≤ 9223372036854775807) : Calls Tryz.prog 22 #[.int .i64 n] w fun e w' => e = .returned (.tuple #[.string (cS n), .int .i64 0]) ∧ Below w.heap.size w w' := by
  have d0 : decide ((n : Int) < 0) = false := decide_eq_false (by omega)
  have hd : Dig [n] := by intro d hd; rw [List.mem_singleton.1 hd]; unfold B; omega
  have hn : n < 18446744073709551616 := by omega
  have HD := Lib.hid hd
  clear hd
  go_enter Tryz.func22, Tryz.ntmps22
  go_wp2_with (refine wpList_word1 rfl (.tmp 7) rfl n (by go_num) ?_; intro w1 HK1 HB1)
  have ht := text_any (some ⟨w.heap.size, 0, none⟩) 1 [n] w1 (rdW_blk HK1.out) HD.out (by simp)
  rw [num_one] at ht
  refine ht.mono ?_
  rintro e w2 ⟨rfl, hb⟩
  have HB2 := Lib.hid (HB1.out.trans (hb.mono HB1.out.size))
  clear ht hb
  go_wp2
  go_ret2
  exact ⟨rfl, HB2.out⟩
set_option maxRecDepth 100000 in
set_option maxHeartbeats 400000 in
theorem int_neg (n : Int) (w : World) (h : n < 0) : Calls Tryz.prog 22 #[.int .i64 n] w fun e w' => e = .returned (.tuple #[.string (cS 0), .int .i64 3]) ∧ w' = w := by
  have d0 : decide (n < 0) = true := decide_eq_true h
  have HZ := Lib.hid (show cS 0 = ⟨#[]⟩ by unfold cS; rw [canS_zero]; rfl)
  clear h
  go_enter Tryz.func22, Tryz.ntmps22
  go_wp2
  go_ret2
  exact ⟨by rw [HZ.out]; rfl, rfl⟩
theorem digW_get0 (n : Nat) : (digW n).getD 0 0 = n % B := by
  by_cases h : n = 0
  · subst h; rw [digW_zero]; rfl
  · rw [digW_pos h]; rfl
theorem digW_short {n : Nat} : (digW n).length ≤ 1 ↔ n < B := by
  constructor
  · intro h
    have := digW_lt n
    exact Nat.lt_of_lt_of_le this (by have := Nat.pow_le_pow_right B_pos h; rwa [Nat.pow_one] at this)
  · intro h; exact digW_len (by rwa [Nat.pow_one])
set_option maxRecDepth 100000 in
set_option maxHeartbeats 400000 in
theorem value_any (s : ByteArray) (w : World) (hs : s.size ≤ 40000) (h : nB s ≤ 9223372036854775807) : Calls Tryz.prog 23 #[.string s] w fun e w' => e = .returned (.tuple #[.int .i64 (nB s), .int .i64 0]) ∧ Below w.heap.size w w' := by
  have hB : nB s < B := by unfold B; omega
  have hl := digW_short.2 hB
  have hg := digW_get0 (nB s)
  rw [Nat.mod_eq_of_lt hB] at hg
  go_enter Tryz.func23, Tryz.ntmps23
  go_wp2_with fail
  refine (readN s w (by omega)).mono ?_
  rintro e w1 ⟨v1, rfl, ⟨A1, c1, rfl, h1, -⟩, hb1⟩
  have hdg := fun W (hr : RdW W A1 (digW (nB s))) => digit_any A1 c1 (digW (nB s)) 0 W hr
  rw [hg] at hdg
  obtain ⟨n, hn⟩ : ∃ n, nB s = n := ⟨_, rfl⟩
  rw [hn] at hdg h1 hl h ⊢
  have HDG := Lib.hid (hdg w1 h1)
  have HB1 := Lib.hid hb1
  have e1 : decide ((1 : Int) < ((digW n).length : Int)) = false := decide_eq_false (by omega)
  have e1' : decide (1 < (digW n).length) = false := decide_eq_false (by omega)
  have e2 : decide ((9223372036854775807 : Int) < (n : Int)) = false := decide_eq_false (by omega)
  clear hdg h1 hb1 hl hg hB hs
  go_wp2_with fail
  refine HDG.out.mono ?_
  rintro e w2 ⟨rfl, hw⟩
  obtain rfl : w1 = w2 := hw.symm
  go_wp2_with fail
  refine HDG.out.mono ?_
  rintro e w2 ⟨rfl, hw⟩
  obtain rfl : w1 = w2 := hw.symm
  go_wp2
  go_ret2
  exact ⟨by rw [hn]; rfl, HB1.out⟩
set_option maxRecDepth 100000 in
set_option maxHeartbeats 400000 in
theorem value_big (s : ByteArray) (w : World) (hs : s.size ≤ 40000) (h : 9223372036854775807 < nB s) : Calls Tryz.prog 23 #[.string s] w fun e w' => e = .returned (.tuple #[.int .i64 0, .int .i64 3]) ∧ Below w.heap.size w w' := by
  have hg := digW_get0 (nB s)
  by_cases hB : nB s < B
  · rw [Nat.mod_eq_of_lt hB] at hg
    have hl := digW_short.2 hB
    go_enter Tryz.func23, Tryz.ntmps23
    go_wp2_with fail
    refine (readN s w (by omega)).mono ?_
    rintro e w1 ⟨v1, rfl, ⟨A1, c1, rfl, h1, -⟩, hb1⟩
    have hdg := fun W (hr : RdW W A1 (digW (nB s))) => digit_any A1 c1 (digW (nB s)) 0 W hr
    rw [hg] at hdg
    obtain ⟨n, hn⟩ : ∃ n, nB s = n := ⟨_, rfl⟩
    rw [hn] at hdg h1 hl h ⊢
    have HDG := Lib.hid (hdg w1 h1)
    have HB1 := Lib.hid hb1
    have e1 : decide ((1 : Int) < ((digW n).length : Int)) = false := decide_eq_false (by omega)
    have e1' : decide (1 < (digW n).length) = false := decide_eq_false (by omega)
    have e2 : decide ((9223372036854775807 : Int) < (n : Int)) = true := decide_eq_true (by omega)
    clear hdg h1 hb1 hl hg hB hs
    go_wp2_with fail
    refine HDG.out.mono ?_
    rintro e w2 ⟨rfl, hw⟩
    obtain rfl : w1 = w2 := hw.symm
    go_wp2
    go_ret2
    exact ⟨rfl, HB1.out⟩
  · have hl : 1 < (digW (nB s)).length := by have := mt digW_short.1 hB; omega
    go_enter Tryz.func23, Tryz.ntmps23
    go_wp2_with fail
    refine (readN s w (by omega)).mono ?_
    rintro e w1 ⟨v1, rfl, ⟨A1, c1, rfl, h1, -⟩, hb1⟩
    have e1 : decide ((1 : Int) < ((digW (nB s)).length : Int)) = true := decide_eq_true (by omega)
    have e1' : decide (1 < (digW (nB s)).length) = true := decide_eq_true (by omega)
    have HB1 := Lib.hid hb1
    clear h1 hb1 hg hB hl
    go_wp2
    go_ret2
    exact ⟨rfl, HB1.out⟩
end Go.Proofs.YtkjnfobaoaaopaaGreatDoor
