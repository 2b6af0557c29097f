/- The reference: names. -/
import Derived.Test.YtggjgikpiljoiaaDoorL35
import Derived.Test.YtggjgikpiljoiaaDoorLM8
namespace Go.Proofs.YtggjgikpiljoiaaDoor
open Go.RowKit Hm Wm Lx

def zO : List Value := [.int .i64 0, .int .i64 0, .string ByteArray.empty, .int .i64 0, .int .i64 0, .int .i64 0]
theorem on_zero : (Tryd.prog.info? 50).map (·.zero) = some (some (.agg zO.toArray)) := by kernel_rfl
theorem on_size : (Tryd.prog.info? 50).map (·.size) = some 6 := by kernel_rfl
theorem on_under : Tryd.prog.underlying 50 = some (.struct (Tryd.prog.fieldsOf 50)) := by kernel_rfl
theorem build_oe (e : Int) (W : World) : (Instr.build 50 #[(2, .int .i64 e)]).run Tryd.prog W = .ok (.agg #[.int .i64 0, .int .i64 0, .string ByteArray.empty, .int .i64 0, .int .i64 0, .int .i64 e]) W := by kernel_rfl
theorem build_ot (k a v tx : Int) (s : ByteArray) (W : World) : (Instr.build 50 #[(0, .agg #[.int .i64 k, .int .i64 a, .string s, .int .i64 v]), (1, .int .i64 tx)]).run Tryd.prog W = .ok (.agg #[.int .i64 k, .int .i64 a, .string s, .int .i64 v, .int .i64 tx, .int .i64 0]) W := by kernel_rfl
theorem build_ks (k a : Int) (s : ByteArray) (W : World) : (Instr.build 33 #[(0, .int .i64 k), (1, .int .i64 a), (2, .string s)]).run Tryd.prog W = .ok (.agg #[.int .i64 k, .int .i64 a, .string s, .int .i64 0]) W := by kernel_rfl
theorem build_kv (k a v : Int) (W : World) : (Instr.build 33 #[(0, .int .i64 k), (1, .int .i64 a), (3, .int .i64 v)]).run Tryd.prog W = .ok (.agg #[.int .i64 k, .int .i64 a, .string ByteArray.empty, .int .i64 v]) W := by kernel_rfl
/-- What the reference's readers return for a Lx.step at p. -/
def oneV (p : Nat) : St → Value
  | .tok k s v n => .agg #[.int .i64 k, .int .i64 p, .string (sb s), .int .i64 v, .int .i64 ((p + n : Nat) : Int), .int .i64 0]
  | .bad e => .agg #[.int .i64 0, .int .i64 0, .string ByteArray.empty, .int .i64 0, .int .i64 0, .int .i64 e]
  | .skip _ => .agg #[.int .i64 0, .int .i64 0, .string ByteArray.empty, .int .i64 0, .int .i64 0, .int .i64 0]
theorem sb_nil : sb [] = ByteArray.empty := rfl
set_option maxRecDepth 100000 in
set_option maxHeartbeats 2000000 in
theorem rname_any (l r : List UInt8) (c : UInt8) (p : Nat) (w : World) (hl : l.length ≤ 65536) (hd : l.drop p = c :: r) (hc : lt c = true) :
    Calls Tryd.prog 32 #[.string (sb l), .int .i64 p] w fun e w' => e = .returned (oneV p (Lx.step (c :: r))) ∧ Below w.heap.size w w' := by
  have hz : (sb l).size = l.length := sb_size l
  have HZ := Lib.hid hz
  have hlen : p + (c :: r).length = l.length := by
    have h1 := congrArg List.length hd
    have h2 := (at_drop hd).2.2
    rw [List.length_drop] at h1; omega
  have hwl : (word (c :: r)).length ≤ (c :: r).length := tw_le wd (c :: r)
  have HIN := Lib.hid (show ∀ k, k < (word (c :: r)).length → ∃ d, l[p + k]? = some d ∧ wd d = true from fun k hk => by
    obtain ⟨d, h1, h2⟩ := tw_in wd (c :: r) k hk
    exact ⟨d, by rw [← hd, List.getElem?_drop] at h1; exact h1, h2⟩)
  have HOUT := Lib.hid (show p + (word (c :: r)).length = l.length ∨ ∃ d, l[p + (word (c :: r)).length]? = some d ∧ wd d = false from by
    rcases tw_out wd (c :: r) with h | ⟨d, h1, h2⟩
    · exact .inl (by unfold word; omega)
    · refine .inr ⟨d, ?_, h2⟩
      have e : ∀ k, (c :: r)[k]? = l[p + k]? := fun k => by rw [← hd, List.getElem?_drop]
      rw [e] at h1; exact h1)
  have HSL := Lib.hid (show ∀ W, (Instr.sliceAt 9 (.string (sb l)) (some (.int .i64 p)) (some (.int .i64 ((p + (word (c :: r)).length : Nat) : Int))) none).run Tryd.prog W = .ok (.string (sb (word (c :: r)))) W from fun W => by
    have := run_str_mid W l p (p + (word (c :: r)).length) (by omega) (by omega)
    rw [Nat.add_sub_cancel_left, hd, show (c :: r).take (word (c :: r)).length = word (c :: r) from tw_take wd _] at this
    exact this)
  have HST := Lib.hid (step_lt (r := r) hc)
  clear hz hd hc
  generalize hw : word (c :: r) = u at hwl HIN HOUT HSL HST
  generalize Lx.step (c :: r) = q at HST ⊢
  clear hw
  have hul : p + u.length ≤ l.length := by omega
  have HSB := Lib.hid (wrap_subN (p + u.length) u.length p rfl (by omega))
  have HSB2 := Lib.hid (show IntKind.i64.wrap (((p + u.length : Nat) : Int) - (p : Int)) = (u.length : Int) from wrap_subN (p + u.length) p u.length (by omega) (by omega))
  go_enter Tryd.func32, Tryd.ntmps32
  go_wp2_with (first | (refine wpList_new rfl 50 rfl zO on_zero ?_; intro w1 HP HW))
  go_loopw [5] (fun a wr => ∃ k : Nat, a = .int .i64 ((p + k : Nat) : Int) ∧ k ≤ u.length ∧ wr = w1) (fun a _ => p + u.length - (intOf a).toNat)
  case atStart => exact ⟨0, rfl, Nat.zero_le _, rfl⟩
  case round =>
    obtain ⟨k, rfl, hk, rfl⟩ := hrel
    by_cases hlt : k < u.length
    · obtain ⟨d, hd, hw⟩ := HIN.out k hlt
      have HC := Lib.hid (show (sb l).data.toList[p + k]? = some d by rw [sb_list]; exact hd)
      have hlt2 := (List.getElem?_eq_some_iff.1 hd).1
      have l1 : decide (((p + k : Nat) : Int) < ((sb l).size : Int)) = true := decide_eq_true (by rw [HZ.out]; omega)
      clear hd
      cases hle : lt d with
      | true =>
        have HLE := Lib.hid hle
        clear hle hw
        go_upto_region 2 with fail
        refine wp_region_lit ?_
        refine wpList_run 7 rfl rfl (.int .i64 ((p + k : Nat) : Int)) (exec_move (.tmp 5) rfl _ rfl) ?_
        go_frame
        refine wpList_run 8 rfl rfl (.string (sb l)) (exec_move (.tmp 0) rfl _ rfl) ?_
        go_frame
        refine wpList_run 9 rfl rfl (.int .i64 (sb l).size) (exec_lenS (.tmp 8) rfl (sb l) rfl) ?_
        go_frame
        refine wpList_run 10 rfl rfl (.bool true) (exec_lssI' _ _ _ _ rfl .i64 (((p + k : Nat) : Int)) ((sb l).size) true l1 rfl rfl) ?_
        go_frame
        refine wpList_run 11 rfl rfl (.bool true) (exec_move (.tmp 10) rfl _ rfl) ?_
        go_frame
        refine wpList_runG 12 rfl (by first | rfl | kernel_rfl) (.string (sb l)) (exec_move (.tmp 0) rfl _ rfl) ?_
        go_frame
        refine wpList_runG 13 rfl (by first | rfl | kernel_rfl) (.int .i64 ((p + k : Nat) : Int)) (exec_move (.tmp 5) rfl _ rfl) ?_
        go_frame
        refine wpList_runG 14 rfl (by first | rfl | kernel_rfl) (.int .u8 d.toNat) (exec_index 9 (.tmp 12) (.tmp 13) rfl _ _ (.int .u8 d.toNat) rfl rfl (sb_at (sb l) (k := p + k) HC.out _)) ?_
        go_frame
        refine wpList_callF 15 rfl (by first | rfl | kernel_rfl) rfl Tryd.func31 (by kernel_rfl) (by kernel_rfl) #[.int .u8 d.toNat] rfl (letter_any d true HLE.out _) ?_
        rintro e wz ⟨rfl, rfl⟩
        refine ⟨_, rfl, ?_⟩
        go_frame
        refine wpList_runSkip 16 rfl (by first | rfl | kernel_rfl) (.bool true) (exec_move (.tmp 15) rfl _ rfl) 4 [17, 18, 19, 20] (by kernel_rfl) ?_
        simp only [List.drop_succ_cons, List.drop_zero, List.foldl_cons, List.foldl_nil]
        go_frame
        refine wpList_runG 21 rfl (by first | rfl | kernel_rfl) (.bool true) (exec_pickT _ _ _ rfl (.bool true) rfl rfl) ?_
        go_frame
        refine wpList_run 22 rfl rfl (.bool true) (exec_pickT _ _ _ rfl (.bool true) rfl rfl) ?_
        go_frame
        refine wpList_nil ?_
        go_wp2_with fail
        go_roundw
        case rel => exact ⟨k + 1, by go_num, by omega, by first | rfl | trivial⟩
        case measure => simp [intOf]; omega
      | false =>
        have HLE := Lib.hid hle
        have HDG := Lib.hid (show dg d = true by simpa [wd, hle] using hw)
        clear hle hw
        go_upto_region 2 with fail
        refine wp_region_lit ?_
        refine wpList_run 7 rfl rfl (.int .i64 ((p + k : Nat) : Int)) (exec_move (.tmp 5) rfl _ rfl) ?_
        go_frame
        refine wpList_run 8 rfl rfl (.string (sb l)) (exec_move (.tmp 0) rfl _ rfl) ?_
        go_frame
        refine wpList_run 9 rfl rfl (.int .i64 (sb l).size) (exec_lenS (.tmp 8) rfl (sb l) rfl) ?_
        go_frame
        refine wpList_run 10 rfl rfl (.bool true) (exec_lssI' _ _ _ _ rfl .i64 (((p + k : Nat) : Int)) ((sb l).size) true l1 rfl rfl) ?_
        go_frame
        refine wpList_run 11 rfl rfl (.bool true) (exec_move (.tmp 10) rfl _ rfl) ?_
        go_frame
        refine wpList_runG 12 rfl (by first | rfl | kernel_rfl) (.string (sb l)) (exec_move (.tmp 0) rfl _ rfl) ?_
        go_frame
        refine wpList_runG 13 rfl (by first | rfl | kernel_rfl) (.int .i64 ((p + k : Nat) : Int)) (exec_move (.tmp 5) rfl _ rfl) ?_
        go_frame
        refine wpList_runG 14 rfl (by first | rfl | kernel_rfl) (.int .u8 d.toNat) (exec_index 9 (.tmp 12) (.tmp 13) rfl _ _ (.int .u8 d.toNat) rfl rfl (sb_at (sb l) (k := p + k) HC.out _)) ?_
        go_frame
        refine wpList_callF 15 rfl (by first | rfl | kernel_rfl) rfl Tryd.func31 (by kernel_rfl) (by kernel_rfl) #[.int .u8 d.toNat] rfl (letter_any d false HLE.out _) ?_
        rintro e wz ⟨rfl, rfl⟩
        refine ⟨_, rfl, ?_⟩
        go_frame
        refine wpList_runG 16 rfl (by first | rfl | kernel_rfl) (.bool false) (exec_move (.tmp 15) rfl _ rfl) ?_
        go_frame
        refine wpList_runG 17 rfl (by first | rfl | kernel_rfl) (.string (sb l)) (exec_move (.tmp 0) rfl _ rfl) ?_
        go_frame
        refine wpList_runG 18 rfl (by first | rfl | kernel_rfl) (.int .i64 ((p + k : Nat) : Int)) (exec_move (.tmp 5) rfl _ rfl) ?_
        go_frame
        refine wpList_runG 19 rfl (by first | rfl | kernel_rfl) (.int .u8 d.toNat) (exec_index 9 (.tmp 17) (.tmp 18) rfl _ _ (.int .u8 d.toNat) rfl rfl (sb_at (sb l) (k := p + k) HC.out _)) ?_
        go_frame
        refine wpList_callF 20 rfl (by first | rfl | kernel_rfl) rfl Tryd.func33 (by kernel_rfl) (by kernel_rfl) #[.int .u8 d.toNat] rfl (digit_any d true HDG.out _) ?_
        rintro e wz ⟨rfl, rfl⟩
        refine ⟨_, rfl, ?_⟩
        go_frame
        refine wpList_runG 21 rfl (by first | rfl | kernel_rfl) (.bool true) (exec_pickF _ _ _ rfl (.bool true) rfl rfl) ?_
        go_frame
        refine wpList_run 22 rfl rfl (.bool true) (exec_pickT _ _ _ rfl (.bool true) rfl rfl) ?_
        go_frame
        refine wpList_nil ?_
        go_wp2_with fail
        go_roundw
        case rel => exact ⟨k + 1, by go_num, by omega, by first | rfl | trivial⟩
        case measure => simp [intOf]; omega
    · obtain rfl : k = u.length := by omega
      rcases HOUT.out with ho | ⟨d, hd, hw⟩
      · have l1 : decide (((p + u.length : Nat) : Int) < ((sb l).size : Int)) = false := decide_eq_false (by rw [HZ.out]; omega)
        clear ho
        go_upto_region 2 with fail
        refine wp_region_lit ?_
        refine wpList_run 7 rfl rfl (.int .i64 ((p + u.length : Nat) : Int)) (exec_move (.tmp 5) rfl _ rfl) ?_
        go_frame
        refine wpList_run 8 rfl rfl (.string (sb l)) (exec_move (.tmp 0) rfl _ rfl) ?_
        go_frame
        refine wpList_run 9 rfl rfl (.int .i64 (sb l).size) (exec_lenS (.tmp 8) rfl (sb l) rfl) ?_
        go_frame
        refine wpList_run 10 rfl rfl (.bool false) (exec_lssI' _ _ _ _ rfl .i64 (((p + u.length : Nat) : Int)) ((sb l).size) false l1 rfl rfl) ?_
        go_frame
        refine wpList_runSkip 11 rfl (by first | rfl | kernel_rfl) (.bool false) (exec_move (.tmp 10) rfl _ rfl) 10 [12, 13, 14, 15, 16, 17, 18, 19, 20, 21] (by kernel_rfl) ?_
        simp only [List.drop_succ_cons, List.drop_zero, List.foldl_cons, List.foldl_nil]
        go_frame
        refine wpList_run 22 rfl rfl (.bool false) (exec_pickF _ _ _ rfl (.bool false) rfl rfl) ?_
        go_frame
        refine wpList_nil ?_
        by_cases h32 : 32 < u.length
        · have g1 : decide ((32 : Int) < (u.length : Int)) = true := decide_eq_true (by omega)
          have g1n : decide (32 < u.length) = true := decide_eq_true h32
          have HQ := Lib.hid (show q = .bad 2 by rw [HST.out, if_pos h32])
          go_upto_region 4 with fail
          refine wp_region_lit ?_
          refine wpList_run 25 rfl rfl (.int .i64 ((p + u.length : Nat) : Int)) (exec_move (.tmp 5) rfl _ rfl) ?_
          go_frame
          refine wpList_run 26 rfl rfl (.int .i64 p) (exec_move (.tmp 1) rfl _ rfl) ?_
          go_frame
          refine wpList_run 27 rfl rfl (.int .i64 u.length) (exec_subI _ _ _ _ rfl _ _ _ rfl rfl HSB2.out) ?_
          go_frame
          refine wpList_run 28 rfl rfl (.bool true) (exec_gtrI _ _ _ _ rfl .i64 (u.length) (32) true g1 rfl rfl) ?_
          go_frame
          refine wpList_nil ?_
          go_wp2_with (first | (refine wpList_dst 29 rfl ?_; refine wpList_run 29 rfl rfl _ (exec_buildF 50 #[(2, .const (.int .i64 2))] rfl #[(2, .int .i64 2)] rfl _ (build_oe 2 _)) ?_; go_frame) | (refine wpList_store_all rfl 50 (.tmp 4) (.tmp 29) rfl w.heap.size 50 zO [.int .i64 0, .int .i64 0, .string ByteArray.empty, .int .i64 0, .int .i64 0, .int .i64 2] rfl rfl HP.out rfl on_size (List.forall_mem_cons.2 ⟨rfl, (List.forall_mem_cons.2 ⟨rfl, (List.forall_mem_cons.2 ⟨rfl, (List.forall_mem_cons.2 ⟨rfl, (List.forall_mem_cons.2 ⟨rfl, (List.forall_mem_cons.2 ⟨rfl, fun _ h => nomatch h⟩)⟩)⟩)⟩)⟩)⟩) ?_; intro w8 HP8 ho8; have HO8 := Lib.hid ho8; clear ho8))
          rw [HQ.out]
          exact bodyPost_ret (results_blk rfl _ _ w.heap.size _ [.int .i64 0, .int .i64 0, .string ByteArray.empty, .int .i64 0, .int .i64 0, .int .i64 2] _ rfl HP8.out on_under rfl on_size) rfl ⟨rfl, HW.out.trans (HO8.out.below (Nat.le_refl _))⟩
        · have g1 : decide ((32 : Int) < (u.length : Int)) = false := decide_eq_false (by omega)
          have g1n : decide (32 < u.length) = false := decide_eq_false h32
          have HQ := Lib.hid (show q = .tok 1 u 0 u.length by rw [HST.out, if_neg h32])
          go_upto_region 4 with fail
          refine wp_region_lit ?_
          refine wpList_run 25 rfl rfl (.int .i64 ((p + u.length : Nat) : Int)) (exec_move (.tmp 5) rfl _ rfl) ?_
          go_frame
          refine wpList_run 26 rfl rfl (.int .i64 p) (exec_move (.tmp 1) rfl _ rfl) ?_
          go_frame
          refine wpList_run 27 rfl rfl (.int .i64 u.length) (exec_subI _ _ _ _ rfl _ _ _ rfl rfl HSB2.out) ?_
          go_frame
          refine wpList_run 28 rfl rfl (.bool false) (exec_gtrI _ _ _ _ rfl .i64 (u.length) (32) false g1 rfl rfl) ?_
          go_frame
          refine wpList_nil ?_
          go_upto_region 6 with fail
          go_wp2_with (first | (refine wpList_dst 34 rfl ?_; refine wpList_run 34 rfl rfl _ (exec_slice_both 9 (.tmp 31) (.tmp 32) (.tmp 33) rfl (.string (sb l)) (.int .i64 p) (.int .i64 ((p + u.length : Nat) : Int)) (.string (sb u)) rfl rfl rfl (HSL.out _)) ?_; go_frame) | (refine wpList_dst 35 rfl ?_; refine wpList_run 35 rfl rfl _ (exec_buildF 33 #[(0, .const (.int .i64 1)), (1, .tmp 30), (2, .tmp 34)] rfl #[(0, .int .i64 1), (1, .int .i64 p), (2, .string (sb u))] rfl _ (build_ks 1 p (sb u) _)) ?_; go_frame) | (refine wpList_dst 37 rfl ?_; refine wpList_run 37 rfl rfl _ (exec_buildF 50 #[(0, .tmp 35), (1, .tmp 36)] rfl #[(0, .agg #[.int .i64 1, .int .i64 p, .string (sb u), .int .i64 0]), (1, .int .i64 ((p + u.length : Nat) : Int))] rfl _ (build_ot 1 p 0 _ (sb u) _)) ?_; go_frame) | (refine wpList_store_all rfl 50 (.tmp 4) (.tmp 37) rfl w.heap.size 50 zO [.int .i64 1, .int .i64 p, .string (sb u), .int .i64 0, .int .i64 ((p + u.length : Nat) : Int), .int .i64 0] rfl rfl HP.out rfl on_size (List.forall_mem_cons.2 ⟨rfl, (List.forall_mem_cons.2 ⟨rfl, (List.forall_mem_cons.2 ⟨rfl, (List.forall_mem_cons.2 ⟨rfl, (List.forall_mem_cons.2 ⟨rfl, (List.forall_mem_cons.2 ⟨rfl, fun _ h => nomatch h⟩)⟩)⟩)⟩)⟩)⟩) ?_; intro w8 HP8 ho8; have HO8 := Lib.hid ho8; clear ho8))
          rw [HQ.out]
          exact bodyPost_ret (results_blk rfl _ _ w.heap.size _ [.int .i64 1, .int .i64 p, .string (sb u), .int .i64 0, .int .i64 ((p + u.length : Nat) : Int), .int .i64 0] _ rfl HP8.out on_under rfl on_size) rfl ⟨rfl, HW.out.trans (HO8.out.below (Nat.le_refl _))⟩
      · have HC := Lib.hid (show (sb l).data.toList[p + u.length]? = some d by rw [sb_list]; exact hd)
        have hlt2 := (List.getElem?_eq_some_iff.1 hd).1
        have l1 : decide (((p + u.length : Nat) : Int) < ((sb l).size : Int)) = true := decide_eq_true (by rw [HZ.out]; omega)
        have hw2 : dg d = false ∧ lt d = false := by simpa [wd] using hw
        have HLE := Lib.hid hw2.2
        have HDG := Lib.hid hw2.1
        clear hd hw hw2
        go_upto_region 2 with fail
        refine wp_region_lit ?_
        refine wpList_run 7 rfl rfl (.int .i64 ((p + u.length : Nat) : Int)) (exec_move (.tmp 5) rfl _ rfl) ?_
        go_frame
        refine wpList_run 8 rfl rfl (.string (sb l)) (exec_move (.tmp 0) rfl _ rfl) ?_
        go_frame
        refine wpList_run 9 rfl rfl (.int .i64 (sb l).size) (exec_lenS (.tmp 8) rfl (sb l) rfl) ?_
        go_frame
        refine wpList_run 10 rfl rfl (.bool true) (exec_lssI' _ _ _ _ rfl .i64 (((p + u.length : Nat) : Int)) ((sb l).size) true l1 rfl rfl) ?_
        go_frame
        refine wpList_run 11 rfl rfl (.bool true) (exec_move (.tmp 10) rfl _ rfl) ?_
        go_frame
        refine wpList_runG 12 rfl (by first | rfl | kernel_rfl) (.string (sb l)) (exec_move (.tmp 0) rfl _ rfl) ?_
        go_frame
        refine wpList_runG 13 rfl (by first | rfl | kernel_rfl) (.int .i64 ((p + u.length : Nat) : Int)) (exec_move (.tmp 5) rfl _ rfl) ?_
        go_frame
        refine wpList_runG 14 rfl (by first | rfl | kernel_rfl) (.int .u8 d.toNat) (exec_index 9 (.tmp 12) (.tmp 13) rfl _ _ (.int .u8 d.toNat) rfl rfl (sb_at (sb l) (k := p + u.length) HC.out _)) ?_
        go_frame
        refine wpList_callF 15 rfl (by first | rfl | kernel_rfl) rfl Tryd.func31 (by kernel_rfl) (by kernel_rfl) #[.int .u8 d.toNat] rfl (letter_any d false HLE.out _) ?_
        rintro e wz ⟨rfl, rfl⟩
        refine ⟨_, rfl, ?_⟩
        go_frame
        refine wpList_runG 16 rfl (by first | rfl | kernel_rfl) (.bool false) (exec_move (.tmp 15) rfl _ rfl) ?_
        go_frame
        refine wpList_runG 17 rfl (by first | rfl | kernel_rfl) (.string (sb l)) (exec_move (.tmp 0) rfl _ rfl) ?_
        go_frame
        refine wpList_runG 18 rfl (by first | rfl | kernel_rfl) (.int .i64 ((p + u.length : Nat) : Int)) (exec_move (.tmp 5) rfl _ rfl) ?_
        go_frame
        refine wpList_runG 19 rfl (by first | rfl | kernel_rfl) (.int .u8 d.toNat) (exec_index 9 (.tmp 17) (.tmp 18) rfl _ _ (.int .u8 d.toNat) rfl rfl (sb_at (sb l) (k := p + u.length) HC.out _)) ?_
        go_frame
        refine wpList_callF 20 rfl (by first | rfl | kernel_rfl) rfl Tryd.func33 (by kernel_rfl) (by kernel_rfl) #[.int .u8 d.toNat] rfl (digit_any d false HDG.out _) ?_
        rintro e wz ⟨rfl, rfl⟩
        refine ⟨_, rfl, ?_⟩
        go_frame
        refine wpList_runG 21 rfl (by first | rfl | kernel_rfl) (.bool false) (exec_pickF _ _ _ rfl (.bool false) rfl rfl) ?_
        go_frame
        refine wpList_run 22 rfl rfl (.bool false) (exec_pickT _ _ _ rfl (.bool false) rfl rfl) ?_
        go_frame
        refine wpList_nil ?_
        by_cases h32 : 32 < u.length
        · have g1 : decide ((32 : Int) < (u.length : Int)) = true := decide_eq_true (by omega)
          have g1n : decide (32 < u.length) = true := decide_eq_true h32
          have HQ := Lib.hid (show q = .bad 2 by rw [HST.out, if_pos h32])
          go_upto_region 4 with fail
          refine wp_region_lit ?_
          refine wpList_run 25 rfl rfl (.int .i64 ((p + u.length : Nat) : Int)) (exec_move (.tmp 5) rfl _ rfl) ?_
          go_frame
          refine wpList_run 26 rfl rfl (.int .i64 p) (exec_move (.tmp 1) rfl _ rfl) ?_
          go_frame
          refine wpList_run 27 rfl rfl (.int .i64 u.length) (exec_subI _ _ _ _ rfl _ _ _ rfl rfl HSB2.out) ?_
          go_frame
          refine wpList_run 28 rfl rfl (.bool true) (exec_gtrI _ _ _ _ rfl .i64 (u.length) (32) true g1 rfl rfl) ?_
          go_frame
          refine wpList_nil ?_
          go_wp2_with (first | (refine wpList_dst 29 rfl ?_; refine wpList_run 29 rfl rfl _ (exec_buildF 50 #[(2, .const (.int .i64 2))] rfl #[(2, .int .i64 2)] rfl _ (build_oe 2 _)) ?_; go_frame) | (refine wpList_store_all rfl 50 (.tmp 4) (.tmp 29) rfl w.heap.size 50 zO [.int .i64 0, .int .i64 0, .string ByteArray.empty, .int .i64 0, .int .i64 0, .int .i64 2] rfl rfl HP.out rfl on_size (List.forall_mem_cons.2 ⟨rfl, (List.forall_mem_cons.2 ⟨rfl, (List.forall_mem_cons.2 ⟨rfl, (List.forall_mem_cons.2 ⟨rfl, (List.forall_mem_cons.2 ⟨rfl, (List.forall_mem_cons.2 ⟨rfl, fun _ h => nomatch h⟩)⟩)⟩)⟩)⟩)⟩) ?_; intro w8 HP8 ho8; have HO8 := Lib.hid ho8; clear ho8))
          rw [HQ.out]
          exact bodyPost_ret (results_blk rfl _ _ w.heap.size _ [.int .i64 0, .int .i64 0, .string ByteArray.empty, .int .i64 0, .int .i64 0, .int .i64 2] _ rfl HP8.out on_under rfl on_size) rfl ⟨rfl, HW.out.trans (HO8.out.below (Nat.le_refl _))⟩
        · have g1 : decide ((32 : Int) < (u.length : Int)) = false := decide_eq_false (by omega)
          have g1n : decide (32 < u.length) = false := decide_eq_false h32
          have HQ := Lib.hid (show q = .tok 1 u 0 u.length by rw [HST.out, if_neg h32])
          go_upto_region 4 with fail
          refine wp_region_lit ?_
          refine wpList_run 25 rfl rfl (.int .i64 ((p + u.length : Nat) : Int)) (exec_move (.tmp 5) rfl _ rfl) ?_
          go_frame
          refine wpList_run 26 rfl rfl (.int .i64 p) (exec_move (.tmp 1) rfl _ rfl) ?_
          go_frame
          refine wpList_run 27 rfl rfl (.int .i64 u.length) (exec_subI _ _ _ _ rfl _ _ _ rfl rfl HSB2.out) ?_
          go_frame
          refine wpList_run 28 rfl rfl (.bool false) (exec_gtrI _ _ _ _ rfl .i64 (u.length) (32) false g1 rfl rfl) ?_
          go_frame
          refine wpList_nil ?_
          go_upto_region 6 with fail
          go_wp2_with (first | (refine wpList_dst 34 rfl ?_; refine wpList_run 34 rfl rfl _ (exec_slice_both 9 (.tmp 31) (.tmp 32) (.tmp 33) rfl (.string (sb l)) (.int .i64 p) (.int .i64 ((p + u.length : Nat) : Int)) (.string (sb u)) rfl rfl rfl (HSL.out _)) ?_; go_frame) | (refine wpList_dst 35 rfl ?_; refine wpList_run 35 rfl rfl _ (exec_buildF 33 #[(0, .const (.int .i64 1)), (1, .tmp 30), (2, .tmp 34)] rfl #[(0, .int .i64 1), (1, .int .i64 p), (2, .string (sb u))] rfl _ (build_ks 1 p (sb u) _)) ?_; go_frame) | (refine wpList_dst 37 rfl ?_; refine wpList_run 37 rfl rfl _ (exec_buildF 50 #[(0, .tmp 35), (1, .tmp 36)] rfl #[(0, .agg #[.int .i64 1, .int .i64 p, .string (sb u), .int .i64 0]), (1, .int .i64 ((p + u.length : Nat) : Int))] rfl _ (build_ot 1 p 0 _ (sb u) _)) ?_; go_frame) | (refine wpList_store_all rfl 50 (.tmp 4) (.tmp 37) rfl w.heap.size 50 zO [.int .i64 1, .int .i64 p, .string (sb u), .int .i64 0, .int .i64 ((p + u.length : Nat) : Int), .int .i64 0] rfl rfl HP.out rfl on_size (List.forall_mem_cons.2 ⟨rfl, (List.forall_mem_cons.2 ⟨rfl, (List.forall_mem_cons.2 ⟨rfl, (List.forall_mem_cons.2 ⟨rfl, (List.forall_mem_cons.2 ⟨rfl, (List.forall_mem_cons.2 ⟨rfl, fun _ h => nomatch h⟩)⟩)⟩)⟩)⟩)⟩) ?_; intro w8 HP8 ho8; have HO8 := Lib.hid ho8; clear ho8))
          rw [HQ.out]
          exact bodyPost_ret (results_blk rfl _ _ w.heap.size _ [.int .i64 1, .int .i64 p, .string (sb u), .int .i64 0, .int .i64 ((p + u.length : Nat) : Int), .int .i64 0] _ rfl HP8.out on_under rfl on_size) rfl ⟨rfl, HW.out.trans (HO8.out.below (Nat.le_refl _))⟩
end Go.Proofs.YtggjgikpiljoiaaDoor
