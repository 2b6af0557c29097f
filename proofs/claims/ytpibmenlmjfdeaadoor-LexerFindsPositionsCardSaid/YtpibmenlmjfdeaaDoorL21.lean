/- The reference: lines and columns. -/
import Derived.Test.YtpibmenlmjfdeaaDoorL19
namespace Go.Proofs.YtpibmenlmjfdeaaDoor
open Go.RowKit Hm Wm Lx


theorem pl_size : (Tryd.prog.info? 40).map (·.size) = some 2 := by kernel_rfl
theorem pl_zero : (Tryd.prog.info? 40).map (·.zero) = some (some (.agg #[.int .i64 0, .int .i64 0])) := by kernel_rfl
theorem pl_f (g k : Nat) (hk : k = 0 ∨ k = 1) (W : World) : (Instr.fieldAt 40 (.pointer (some ⟨g, 0, none⟩)) k).run Tryd.prog W = .ok (.pointer (some ⟨g, k, none⟩)) W := by
  rcases hk with rfl | rfl <;> kernel_rfl
theorem build_pl (x k : Int) (W : World) : (Instr.build 40 #[(0, .int .i64 x), (1, .int .i64 k)]).run Tryd.prog W = .ok (.agg #[.int .i64 x, .int .i64 k]) W := by kernel_rfl
theorem build_pl0 (W : World) : (Instr.build 40 #[]).run Tryd.prog W = .ok (.agg #[.int .i64 0, .int .i64 0]) W := by kernel_rfl
set_option maxRecDepth 100000 in
theorem pl_eq (a b : Int) (W : World) : (binOp .eql 40 (.agg #[.int .i64 a, .int .i64 b]) (.agg #[.int .i64 a, .int .i64 b])).run Tryd.prog W = .ok (.bool true) W := by
  have u1 := Tryd.underlying3
  have a1 := Tryd.isAgg3
  have z1 := Tryd.sizeOf3
  have hS : Tryd.prog.underlying 40 = some (.struct (Tryd.prog.fieldsOf 40)) := by kernel_rfl
  have hp : Tryd.prog.stoodInHeld 40 = false := by kernel_rfl
  rw [run_eql_struct, show (10000 : Nat) = 9999 + 1 from rfl, run_equalIn_agg W 9999 40 _ _ hS hp]
  simp only [Program.fieldsOf, Tryd.underlying40]
  go_simp
theorem pl_g (x y : Operand) (xs ys : Array Value) (W : World) : (eqGuard .eql 40 x y (.agg xs) (.agg ys)).run Tryd.prog W = .ok () W := run_eqGuard_agg W .eql _ x y xs ys (by kernel_rfl)
theorem posL_next {l : List UInt8} {k : Nat} {d : UInt8} (h : l[k]? = some d) : posL (l.take (k + 1)) = posS (posL (l.take k)) d := by
  obtain ⟨hk, rfl⟩ := List.getElem?_eq_some_iff.1 h
  rw [List.take_succ_eq_append_getElem hk, posL_snoc]
set_option maxRecDepth 100000 in
set_option maxHeartbeats 800000 in
theorem rpos_no (l : List UInt8) (i : Int) (w : World) (hl : l.length ≤ 2 ^ 48) (h : i < 0 ∨ (l.length : Int) < i) : Calls Tryd.prog 17 #[.string (sb l), .int .i64 i] w fun e w' => e = .returned (.agg #[.int .i64 0, .int .i64 0]) ∧ Below w.heap.size w w' := by
  have hz : (sb l).size = l.length := sb_size l
  obtain ⟨s, hs⟩ : ∃ s, s = sb l := ⟨_, rfl⟩
  rw [← hs] at hz ⊢
  have h2 : i < 0 ∨ (0 ≤ i ∧ decide ((s.size : Int) < i) = true) := by
    rcases h with h | h
    · exact .inl h
    · exact .inr ⟨by omega, decide_eq_true (by rw [hz]; exact h)⟩
  clear hs hz h hl
  rcases h2 with h2 | ⟨h2, h3⟩
  · go_enter Tryd.func17, Tryd.ntmps17
    go_wp2_with (first | (refine wpList_new rfl 40 rfl [.int .i64 0, .int .i64 0] pl_zero ?_; intro w1 HP HW) | (refine wpList_dst 15 rfl ?_; refine wpList_run 15 rfl rfl _ (exec_buildF 40 #[] rfl #[] rfl _ (build_pl0 _)) ?_; go_frame) | (refine wpList_store_all rfl 40 (.tmp 4) (.tmp 15) rfl w.heap.size 40 [.int .i64 0, .int .i64 0] [.int .i64 0, .int .i64 0] rfl rfl HP.out rfl pl_size (List.forall_mem_cons.2 ⟨rfl, (List.forall_mem_cons.2 ⟨rfl, fun _ h => nomatch h⟩)⟩) ?_; intro w8 HP8 ho8; have HO8 := Lib.hid ho8; clear ho8))
    exact bodyPost_ret (results_blk rfl _ _ w.heap.size _ [.int .i64 0, .int .i64 0] _ rfl HP8.out Tryd.underlying40 rfl pl_size) rfl ⟨rfl, HW.out.trans (HO8.out.below (Nat.le_refl _))⟩
  · go_enter Tryd.func17, Tryd.ntmps17
    go_wp2_with (first | (refine wpList_new rfl 40 rfl [.int .i64 0, .int .i64 0] pl_zero ?_; intro w1 HP HW) | (refine wpList_dst 15 rfl ?_; refine wpList_run 15 rfl rfl _ (exec_buildF 40 #[] rfl #[] rfl _ (build_pl0 _)) ?_; go_frame) | (refine wpList_store_all rfl 40 (.tmp 4) (.tmp 15) rfl w.heap.size 40 [.int .i64 0, .int .i64 0] [.int .i64 0, .int .i64 0] rfl rfl HP.out rfl pl_size (List.forall_mem_cons.2 ⟨rfl, (List.forall_mem_cons.2 ⟨rfl, fun _ h => nomatch h⟩)⟩) ?_; intro w8 HP8 ho8; have HO8 := Lib.hid ho8; clear ho8))
    exact bodyPost_ret (results_blk rfl _ _ w.heap.size _ [.int .i64 0, .int .i64 0] _ rfl HP8.out Tryd.underlying40 rfl pl_size) rfl ⟨rfl, HW.out.trans (HO8.out.below (Nat.le_refl _))⟩
set_option maxRecDepth 100000 in
set_option maxHeartbeats 800000 in
theorem rpos_yes (l : List UInt8) (i : Nat) (w : World) (hl : l.length ≤ 2 ^ 40) (h : i ≤ l.length) : Calls Tryd.prog 17 #[.string (sb l), .int .i64 i] w fun e w' => e = .returned (.agg #[.int .i64 ((posL (l.take i)).1 : Nat), .int .i64 ((posL (l.take i)).2 : Nat)]) ∧ Below w.heap.size w w' := by
  have hz : (sb l).size = l.length := sb_size l
  have hp := fun k (hk : k ≤ l.length) => show (posL (l.take k)).1 ≤ k + 1 ∧ (posL (l.take k)).2 ≤ k + 1 from by
    have h1 := posL_len (l.take k)
    rw [List.length_take, Nat.min_eq_left hk] at h1
    exact ⟨h1.1, h1.2.1⟩
  have HPL := Lib.hid hp
  have h1 : decide ((i : Int) < 0) = false := decide_eq_false (by omega)
  have h2 : decide (((sb l).size : Int) < (i : Int)) = false := decide_eq_false (by omega)
  have h2n : decide ((sb l).size < i) = false := decide_eq_false (by omega)
  clear hp
  go_enter Tryd.func17, Tryd.ntmps17
  go_wp2_with (first | (refine wpList_var rfl rfl 40 5 rfl rfl rfl (.tmp 16) rfl [.int .i64 0, .int .i64 0] [.int .i64 1, .int .i64 1] pl_zero rfl rfl rfl pl_size (List.forall_mem_cons.2 ⟨rfl, (List.forall_mem_cons.2 ⟨rfl, fun _ h => nomatch h⟩)⟩) ?_; intro w2 HV HBw; have HP2 := Lib.hid (HP.out.next HBw.out); have HW2 := Lib.hid (HW.out.trans (HBw.out.mono HW.out.size)); have HL2 := Lib.hid (show w.heap.size < w1.heap.size from HP.out.lt)) | (refine wpList_new rfl 40 rfl [.int .i64 0, .int .i64 0] pl_zero ?_; intro w1 HP HW) | (refine wpList_dst 16 rfl ?_; refine wpList_run 16 rfl rfl _ (exec_buildF 40 #[(0, .const (.int .i64 1)), (1, .const (.int .i64 1))] rfl #[(0, .int .i64 1), (1, .int .i64 1)] rfl _ (build_pl 1 1 _)) ?_; go_frame))
  obtain ⟨g, hg⟩ : ∃ g, g = w1.heap.size := ⟨_, rfl⟩
  rw [← hg] at HV HL2
  simp only [← hg]
  clear hg HP HW HBw h1 h2 h2n
  go_loopw [6] (fun a wr => ∃ k : Nat, a = .int .i64 k ∧ k ≤ i ∧ Hid (Blk wr g 40 [.int .i64 ((posL (l.take k)).1 : Nat), .int .i64 ((posL (l.take k)).2 : Nat)]) ∧ Hid (Blk wr w.heap.size 40 [.int .i64 0, .int .i64 0]) ∧ Hid (Below w.heap.size w wr)) (fun a _ => i - (intOf a).toNat)
  case atStart => exact ⟨0, rfl, Nat.zero_le _, HV, HP2, HW2⟩
  case round =>
    obtain ⟨k, rfl, hk, HV, HP, HW⟩ := hrel
    have hb := HPL.out k (by omega)
    have HGL := Lib.hid (HL2.out)
    clear HP2 HW2
    by_cases hlt : k < i
    · obtain ⟨d, hd⟩ : ∃ d, l[k]? = some d := ⟨l[k], List.getElem?_eq_getElem (by omega)⟩
      have HD := Lib.hid (show (sb l).data.toList[k]? = some d by rw [sb_list]; exact hd)
      have HN := Lib.hid (posL_next hd)
      have h1 : decide ((k : Int) < (i : Int)) = true := decide_eq_true (by omega)
      have h1n : decide (k < i) = true := decide_eq_true hlt
      clear hd
      generalize hpp : posL (l.take k) = q at HV HN hb
      obtain ⟨qa, qb⟩ := q
      simp only at HV HN hb
      clear hpp
      by_cases hd : d = 10
      · have m10 : ((d.toNat : Int) == 10) = true := by rw [hd]; rfl
        have HS := Lib.hid (show posS (qa, qb) d = (qa + 1, 1) by unfold posS; rw [if_pos hd])
        clear hd
        go_wp2_with (first | (refine wpList_dst 22 rfl ?_; refine wpList_run 22 rfl rfl _ (exec_fieldAddr 40 (.tmp 5) 1 rfl _ _ rfl (pl_f _ 1 (by decide) _)) ?_; go_frame) | (refine wpList_dst 23 rfl ?_; refine wpList_run 23 rfl rfl _ (exec_load 3 (.tmp 22) rfl _ (.int .i64 (qb : Nat)) rfl (run_load_cell int_flat (HV.out.cell 1))) ?_; go_frame) | (refine wpList_dst 25 rfl ?_; refine wpList_run 25 rfl rfl _ (exec_fieldAddr 40 (.tmp 5) 1 rfl _ _ rfl (pl_f _ 1 (by decide) _)) ?_; go_frame) | (refine wpList_store_at rfl 3 (.tmp 25) (.tmp 24) rfl g 1 40 [.int .i64 (qa : Nat), .int .i64 (qb : Nat)] (.int .i64 ((qb : Int) + 1)) rfl rfl HV.out (by simp) int_size rfl rfl ?_; intro w7 HV7 ho7; have HP7 := Lib.hid (ho7.blk HP.out (show w.heap.size ≠ g by have := HGL.out; omega)); have HW7 := Lib.hid (HW.out.trans (ho7.below (by have := HGL.out; omega))); clear ho7 HV HP HW) | (refine wpList_dst 28 rfl ?_; refine wpList_run 28 rfl rfl _ (exec_index 9 (.tmp 26) (.tmp 27) rfl _ _ (.int .u8 d.toNat) rfl rfl (sb_at (sb l) (k := k) HD.out _)) ?_; go_frame) | (refine wpList_dst 30 rfl ?_; refine wpList_run 30 rfl rfl _ (exec_fieldAddr 40 (.tmp 5) 0 rfl _ _ rfl (pl_f _ 0 (by decide) _)) ?_; go_frame) | (refine wpList_dst 31 rfl ?_; refine wpList_run 31 rfl rfl _ (exec_load 3 (.tmp 30) rfl _ (.int .i64 (qa : Nat)) rfl (run_load_cell int_flat (HV7.out.cell 0))) ?_; go_frame) | (refine wpList_dst 33 rfl ?_; refine wpList_run 33 rfl rfl _ (exec_buildF 40 #[(0, .tmp 32), (1, .const (.int .i64 1))] rfl #[(0, .int .i64 ((qa : Int) + 1)), (1, .int .i64 1)] rfl _ (build_pl ((qa : Int) + 1) 1 _)) ?_; go_frame) | (refine wpList_store_all rfl 40 (.tmp 5) (.tmp 33) rfl g 40 [.int .i64 (qa : Nat), .int .i64 ((qb : Int) + 1)] [.int .i64 ((qa : Int) + 1), .int .i64 1] rfl rfl HV7.out rfl pl_size (List.forall_mem_cons.2 ⟨rfl, (List.forall_mem_cons.2 ⟨rfl, fun _ h => nomatch h⟩)⟩) ?_; intro w8 HV8 ho8; have HP8 := Lib.hid (ho8.blk HP7.out (show w.heap.size ≠ g by have := HGL.out; omega)); have HW8 := Lib.hid (HW7.out.trans (ho8.below (by have := HGL.out; omega))); clear ho8 HV7 HP7 HW7))
        go_roundw
        case rel => exact ⟨k + 1, by go_num, by omega, Lib.hid (by rw [HN.out, HS.out]; exact HV8.out), HP8, HW8⟩
        case measure => simp [intOf]; omega
      · have m10 : ((d.toNat : Int) == 10) = false := by
          rw [beq_eq_false_iff_ne]
          intro h
          exact hd (UInt8.toNat_inj.1 (by have : ((10 : UInt8).toNat : Int) = 10 := rfl; omega))
        have HS := Lib.hid (show posS (qa, qb) d = (qa, qb + 1) by unfold posS; rw [if_neg hd])
        clear hd
        go_wp2_with (first | (refine wpList_dst 22 rfl ?_; refine wpList_run 22 rfl rfl _ (exec_fieldAddr 40 (.tmp 5) 1 rfl _ _ rfl (pl_f _ 1 (by decide) _)) ?_; go_frame) | (refine wpList_dst 23 rfl ?_; refine wpList_run 23 rfl rfl _ (exec_load 3 (.tmp 22) rfl _ (.int .i64 (qb : Nat)) rfl (run_load_cell int_flat (HV.out.cell 1))) ?_; go_frame) | (refine wpList_dst 25 rfl ?_; refine wpList_run 25 rfl rfl _ (exec_fieldAddr 40 (.tmp 5) 1 rfl _ _ rfl (pl_f _ 1 (by decide) _)) ?_; go_frame) | (refine wpList_store_at rfl 3 (.tmp 25) (.tmp 24) rfl g 1 40 [.int .i64 (qa : Nat), .int .i64 (qb : Nat)] (.int .i64 ((qb : Int) + 1)) rfl rfl HV.out (by simp) int_size rfl rfl ?_; intro w7 HV7 ho7; have HP7 := Lib.hid (ho7.blk HP.out (show w.heap.size ≠ g by have := HGL.out; omega)); have HW7 := Lib.hid (HW.out.trans (ho7.below (by have := HGL.out; omega))); clear ho7 HV HP HW) | (refine wpList_dst 28 rfl ?_; refine wpList_run 28 rfl rfl _ (exec_index 9 (.tmp 26) (.tmp 27) rfl _ _ (.int .u8 d.toNat) rfl rfl (sb_at (sb l) (k := k) HD.out _)) ?_; go_frame))
        go_roundw
        case rel => exact ⟨k + 1, by go_num, by omega, Lib.hid (by rw [HN.out, HS.out]; exact HV7.out), HP7, HW7⟩
        case measure => simp [intOf]; omega
    · obtain rfl : k = i := by omega
      have h1 : decide ((k : Int) < (k : Int)) = false := decide_eq_false (by omega)
      go_wp2_with (first | (refine wpList_dst 34 rfl ?_; refine wpList_run 34 rfl rfl _ (exec_load 40 (.tmp 5) rfl _ (.agg #[.int .i64 ((posL (l.take k)).1 : Nat), .int .i64 ((posL (l.take k)).2 : Nat)]) rfl (run_load_part _ 40 _ 0 2 _ [.int .i64 ((posL (l.take k)).1 : Nat), .int .i64 ((posL (l.take k)).2 : Nat)] _ HV.out (by simp) Tryd.underlying40 rfl pl_size)) ?_; go_frame) | (refine wpList_store_all rfl 40 (.tmp 4) (.tmp 34) rfl w.heap.size 40 [.int .i64 0, .int .i64 0] [.int .i64 ((posL (l.take k)).1 : Nat), .int .i64 ((posL (l.take k)).2 : Nat)] rfl rfl HP.out rfl pl_size (List.forall_mem_cons.2 ⟨rfl, (List.forall_mem_cons.2 ⟨rfl, fun _ h => nomatch h⟩)⟩) ?_; intro w8 HP8 ho8; have HO8 := Lib.hid ho8; clear ho8))
      exact bodyPost_ret (results_blk rfl _ _ w.heap.size _ [.int .i64 ((posL (l.take k)).1 : Nat), .int .i64 ((posL (l.take k)).2 : Nat)] _ rfl HP8.out Tryd.underlying40 rfl pl_size) rfl ⟨rfl, HW.out.trans (HO8.out.below (Nat.le_refl _))⟩
end Go.Proofs.YtpibmenlmjfdeaaDoor
