/- The reference: the tokens of a source. -/
import Derived.Test.YtggjgikpiljoiaaDoorL39
import Derived.Test.YtggjgikpiljoiaaDoorL14
import Derived.Test.YtggjgikpiljoiaaDoorL26
namespace Go.Proofs.YtggjgikpiljoiaaDoor
open Go.RowKit Hm Wm Lx

def zR : List Value := [.slice none 0 0, .int .i64 0, .int .i64 0]
theorem rd_ref_zero : (Tryd.prog.info? 30).map (·.zero) = some (some (.agg zR.toArray)) := by kernel_rfl
theorem rd_ref_size : (Tryd.prog.info? 30).map (·.size) = some 3 := by kernel_rfl
theorem rd_ref_under : Tryd.prog.underlying 30 = some (.struct (Tryd.prog.fieldsOf 30)) := by kernel_rfl
theorem rd_ref_ne : 30 ≠ 33 := by decide
theorem on_ne : 50 ≠ 33 := by decide
theorem build_rp (x k : Int) (W : World) : (Instr.build 30 #[(1, .agg #[.int .i64 x, .int .i64 k])]).run Tryd.prog W = .ok (.agg #[.slice none 0 0, .int .i64 x, .int .i64 k]) W := by kernel_rfl
theorem build_rl (A : Option Addr) (n c : Nat) (W : World) : (Instr.build 30 #[(0, .slice A n c)]).run Tryd.prog W = .ok (.agg #[.slice A n c, .int .i64 0, .int .i64 0]) W := by kernel_rfl
theorem build_fin (n : Int) (W : World) : (Instr.build 33 #[(0, .int .i64 5), (1, .int .i64 n)]).run Tryd.prog W = .ok (.agg #[.int .i64 5, .int .i64 n, .string ByteArray.empty, .int .i64 0]) W := by kernel_rfl
theorem on_f (g k : Nat) (o : Nat) (h : (k = 0 ∧ o = 0) ∨ (k = 1 ∧ o = 4) ∨ (k = 2 ∧ o = 5)) (W : World) : (Instr.fieldAt 50 (.pointer (some ⟨g, 0, none⟩)) k).run Tryd.prog W = .ok (.pointer (some ⟨g, o, none⟩)) W := by
  rcases h with ⟨rfl, rfl⟩ | ⟨rfl, rfl⟩ | ⟨rfl, rfl⟩ <;> kernel_rfl
set_option maxRecDepth 100000 in
/-- A token is built and appended. -/
theorem wpList_pushT {w : World} {ops : Array Oper} {rest : List Oper} {o1 o2 : Oper} {a : Act} {Q : Exit → Act → World → Prop} (d1 d2 : Tmp) (hd1 : o1.dst = some d1) (hd2 : o2.dst = some d2) (h1 : o1.guard = none) (h2 : o2.guard = none) (x s : Operand) (ho1 : o1.op = .buildSlice 23 1 #[(0, x)])
    (ho2 : o2.op = .call { callee := .builtin .append, args := #[s, .tmp d1], argTypes := #[23, 23] }) (base : Nat) (v : Value) (T : List TI) (t : TI) (hx : a.eval x = vT t)
    (hs : (a.put (some d1) (.slice (some ⟨w.heap.size, 0, none⟩) 1 1)).eval s = v) (hself : (a.put (some d1) (.slice (some ⟨w.heap.size, 0, none⟩) 1 1)).eval (.tmp d1) = .slice (some ⟨w.heap.size, 0, none⟩) 1 1)
    (hR : Row w base v T) (hb : base ≤ w.heap.size) (hl : T.length ≤ 1000000)
    (h : ∀ v' w', Row w' base v' (T ++ [t]) → Keeps w w' → Below base w w' → wpList Tryd.prog ops Q rest ((a.put (some d1) (.slice (some ⟨w.heap.size, 0, none⟩) 1 1)).put (some d2) v') w') : wpList Tryd.prog ops Q (o1 :: o2 :: rest) a w := by
  obtain ⟨v5, w5, r1, r2, r3, r4⟩ := run_pushT o2.type w base v T t hR hb (by omega)
  have hk := h v5 w5 r2 r3 r4
  have hrun1 : (execOp a.eval o1).run Tryd.prog w = .ok (.value (.slice (some ⟨w.heap.size, 0, none⟩) 1 1)) (w.alloc (.cells (cT t).toArray 33)) :=
    exec_buildS 23 1 _ ho1 #[(0, vT t)] (by simp [hx]) _ (run_buildT w t)
  have hrun2 : (execOp (a.put (some d1) (.slice (some ⟨w.heap.size, 0, none⟩) 1 1)).eval o2).run Tryd.prog (w.alloc (.cells (cT t).toArray 33)) = .ok (.value v5) w5 := exec_push s (.tmp d1) ho2 _ _ v5 hs hself r1
  have h3 : wpList Tryd.prog ops Q (o2 :: rest) (a.put (some d1) (.slice (some ⟨w.heap.size, 0, none⟩) 1 1)) (w.alloc (.cells (cT t).toArray 33)) := by
    refine wpList_plain h2 fun K hK => ?_
    unfold Oper.wp
    rw [hrun2]
    have := hK _ _ hk
    rw [← hd2] at this
    exact this
  refine wpList_plain h1 fun K hK => ?_
  unfold Oper.wp
  rw [hrun1]
  have := hK _ _ h3
  rw [← hd1] at this
  exact this
/-- What the reference returns for a source. -/
def RTokP (w : World) (q : Rs) (e : Ending) (w' : World) : Prop :=
  match q with
  | .ok T => ∃ A c, e = .returned (.agg #[.slice A T.length c, .int .i64 0, .int .i64 0]) ∧ RdT w' A (T.map toT) ∧ Below w.heap.size w w'
  | .bad x k => e = .returned (.agg #[.slice none 0 0, .int .i64 x, .int .i64 k]) ∧ Below w.heap.size w w'
set_option maxRecDepth 100000 in
set_option maxHeartbeats 800000 in
theorem rtokens_long (l : List UInt8) (w : World) (h : 65536 < l.length) : Calls Tryd.prog 10 #[.string (sb l)] w (RTokP w (.bad 0 2)) := by
  have hz : (sb l).size = l.length := sb_size l
  have h1 : decide ((65536 : Int) < ((sb l).size : Int)) = true := decide_eq_true (by rw [hz]; omega)
  clear hz h
  go_enter Tryd.func10, Tryd.ntmps10
  go_wp2_with (first | (refine wpList_new rfl 30 rfl zR rd_ref_zero ?_; intro w1 HP HW) | (refine wpList_dst 9 rfl ?_; refine wpList_run 9 rfl rfl _ (exec_buildF 26 #[(1, .const (.int .i64 2))] rfl #[(1, .int .i64 2)] rfl _ (build_pb1 2 _)) ?_; go_frame) | (refine wpList_dst 10 rfl ?_; refine wpList_run 10 rfl rfl _ (exec_buildF 30 #[(1, .tmp 9)] rfl #[(1, .agg #[.int .i64 0, .int .i64 2])] rfl _ (build_rp 0 2 _)) ?_; go_frame) | (refine wpList_store_all rfl 30 (.tmp 2) (.tmp 10) rfl w.heap.size 30 zR [.slice none 0 0, .int .i64 0, .int .i64 2] rfl rfl HP.out rfl rd_ref_size (List.forall_mem_cons.2 ⟨rfl, (List.forall_mem_cons.2 ⟨rfl, (List.forall_mem_cons.2 ⟨rfl, fun _ h => nomatch h⟩)⟩)⟩) ?_; intro w8 HP8 ho8; have HO8 := Lib.hid ho8; clear ho8))
  exact bodyPost_ret (results_blk rfl _ _ w.heap.size _ [.slice none 0 0, .int .i64 0, .int .i64 2] _ rfl HP8.out rd_ref_under rfl rd_ref_size) rfl ⟨rfl, HW.out.trans (HO8.out.below (Nat.le_refl _))⟩
set_option maxRecDepth 100000 in
set_option maxHeartbeats 600000 in
theorem rtokens_ok (l : List UInt8) (w : World) (hl : l.length ≤ 65536) : Calls Tryd.prog 10 #[.string (sb l)] w (RTokP w (lex l 0)) := by
  have hz : (sb l).size = l.length := sb_size l
  have HZ := Lib.hid hz
  have h1 : decide ((65536 : Int) < ((sb l).size : Int)) = false := decide_eq_false (by rw [hz]; omega)
  have HB0 := Lib.hid (show ∀ W, Calls Tryd.prog 14 #[.string (sb l), .int .i64 0] W fun e w' => e = .returned (.int .i64 (blk l : Nat)) ∧ Below W.heap.size W w' from fun W => by
    have := rblank_any l 0 W (Nat.zero_le _) (by omega)
    rw [List.drop_zero, Nat.zero_add] at this; exact this)
  obtain ⟨k1, k2, k3⟩ := lex_blk l 0
  rw [Nat.zero_add] at k1
  have HK1 := Lib.hid (show lex l 0 = (lex (l.drop (blk l)) (blk l)).app [] by rw [app_nil]; exact k1)
  have HK3 := Lib.hid k3
  clear hz k1 k3
  generalize blk l = q0 at HB0 k2 HK1 HK3
  go_enter Tryd.func10, Tryd.ntmps10
  go_wp2_with (first | (refine wpList_new rfl 30 rfl zR rd_ref_zero ?_; intro w1 HP HW) | ((with_reducible refine (HB0.out _).mono ?_); rintro e w2 ⟨rfl, hb⟩; have HP2 := Lib.hid (HP.out.next hb); have HW2 := Lib.hid (HW.out.trans (hb.mono HW.out.size)); have HL2 := Lib.hid (show w.heap.size < w1.heap.size from HP.out.lt); clear hb))
  go_loopw [3, 4] (fun a b wr => ∃ (q : Nat) (T : List Tok), b = .int .i64 q ∧ q ≤ l.length ∧ T.length ≤ q ∧ Hid (Row wr w.heap.size a (T.map toT)) ∧ Hid (lex l 0 = (lex (l.drop q) q).app T) ∧ Hid (∀ n, Lx.step (l.drop q) ≠ .skip n) ∧ Hid (Blk wr w.heap.size 30 zR) ∧ Hid (Below w.heap.size w wr)) (fun _ b _ => l.length - (intOf b).toNat)
  case atStart => exact ⟨q0, [], rfl, k2, Nat.zero_le _, Lib.hid (Row.nil _ _), HK1, HK3, HP2, HW2⟩
  case round =>
    clear HP HW HP2 HW2 HK1 HK3 HL2 h1 HB0 k2
    obtain ⟨q, T, rfl, hq, hTq, HT, HX, HN, HP, HW⟩ := hrel
    obtain ⟨A, ca, hv, hca⟩ := HT.out.form
    rw [List.length_map] at hv
    subst hv
    by_cases hlt : q < l.length
    · obtain ⟨c, r, hd⟩ := lex_go hlt
      have hnb : NB c := by
        refine ⟨?_, fun h35 => ?_⟩
        · cases hb : bl c with
          | false => rfl
          | true => exact absurd (by rw [hd]; simp [Lx.step, hb]) (HN.out 1)
        · exact HN.out _ (by rw [hd]; exact step_cmt h35)
      have HTK := Lib.hid (fun W => rtoken_any l r c q W hl hd hnb)
      have HD := Lib.hid hd
      have hln : (c :: r).length = l.length - q := by rw [← hd, List.length_drop]
      have hstep := step_len (c :: r)
      have hnsk : ∀ n, Lx.step (c :: r) ≠ .skip n := fun n => by rw [← hd]; exact HN.out n
      have HSM := Lib.hid (fun e (h : Lx.step (c :: r) = .bad e) => (step_codes h).2)
      have h1 : decide ((q : Int) < ((sb l).size : Int)) = true := decide_eq_true (by rw [HZ.out]; omega)
      have hTl : (T.map toT).length ≤ 1000000 := by rw [List.length_map]; omega
      clear hd hnb HN hca
      cases hs : Lx.step (c :: r) with
      | skip n => exact absurd hs (hnsk n)
      | bad e =>
        have hne := HSM.out e hs
        have he : ((e : Int) != 0) = true := by rw [bne_iff_ne]; omega
        have HR := Lib.hid (show lex l 0 = .bad q e by rw [HX.out, HD.out, lex_bad q hs]; rfl)
        rw [hs] at HTK
        rw [HR.out]
        clear hne HX hs hstep hnsk HSM
        go_wp2_with (first | ((with_reducible refine (HTK.out _).mono ?_); rintro e w3 ⟨rfl, hb⟩; have HPa := Lib.hid (HP.out.next hb); have HTa := Lib.hid (HT.out.below hb); have HWa := Lib.hid (HW.out.trans (hb.mono HW.out.size)); clear hb) | (refine wpList_dst 5 rfl ?_; refine wpList_var rfl rfl 50 5 rfl rfl rfl (.tmp 19) rfl zO [.int .i64 0, .int .i64 0, .string ByteArray.empty, .int .i64 0, .int .i64 0, .int .i64 e] on_zero rfl rfl rfl on_size (List.forall_mem_cons.2 ⟨rfl, (List.forall_mem_cons.2 ⟨rfl, (List.forall_mem_cons.2 ⟨rfl, (List.forall_mem_cons.2 ⟨rfl, (List.forall_mem_cons.2 ⟨rfl, (List.forall_mem_cons.2 ⟨rfl, fun _ h => nomatch h⟩)⟩)⟩)⟩)⟩)⟩) ?_; intro w4 HV HBw; have HPb := Lib.hid (HPa.out.next HBw.out); have HTb := Lib.hid (HTa.out.below HBw.out); have HWb := Lib.hid (HWa.out.trans (HBw.out.mono HWa.out.size)); clear HBw) | (refine wpList_dst 20 rfl ?_; refine wpList_run 20 rfl rfl _ (exec_fieldAddr 50 (.tmp 5) 2 rfl _ _ rfl (on_f _ 2 5 (by decide) _)) ?_; go_frame) | (refine wpList_dst 21 rfl ?_; refine wpList_run 21 rfl rfl _ (exec_load 24 (.tmp 20) rfl _ (.int .i64 e) rfl (run_load_cell er_flat (HV.out.cell 5))) ?_; go_frame) | (refine wpList_dst 24 rfl ?_; refine wpList_run 24 rfl rfl _ (exec_fieldAddr 50 (.tmp 5) 2 rfl _ _ rfl (on_f _ 2 5 (by decide) _)) ?_; go_frame) | (refine wpList_dst 25 rfl ?_; refine wpList_run 25 rfl rfl _ (exec_load 24 (.tmp 24) rfl _ (.int .i64 e) rfl (run_load_cell er_flat (HV.out.cell 5))) ?_; go_frame) | (refine wpList_dst 26 rfl ?_; refine wpList_run 26 rfl rfl _ (exec_buildF 26 #[(0, .tmp 23), (1, .tmp 25)] rfl #[(0, .int .i64 q), (1, .int .i64 e)] rfl _ (build_pb q e _)) ?_; go_frame) | (refine wpList_dst 27 rfl ?_; refine wpList_run 27 rfl rfl _ (exec_buildF 30 #[(1, .tmp 26)] rfl #[(1, .agg #[.int .i64 q, .int .i64 e])] rfl _ (build_rp q e _)) ?_; go_frame) | (refine wpList_store_all rfl 30 (.tmp 2) (.tmp 27) rfl w.heap.size 30 zR [.slice none 0 0, .int .i64 q, .int .i64 e] rfl rfl HPb.out rfl rd_ref_size (List.forall_mem_cons.2 ⟨rfl, (List.forall_mem_cons.2 ⟨rfl, (List.forall_mem_cons.2 ⟨rfl, fun _ h => nomatch h⟩)⟩)⟩) ?_; intro w8 HP8 ho8; have HO8 := Lib.hid ho8; clear ho8))
        exact bodyPost_ret (results_blk rfl _ _ w.heap.size _ [.slice none 0 0, .int .i64 q, .int .i64 e] _ rfl HP8.out rd_ref_under rfl rd_ref_size) rfl ⟨rfl, HWb.out.trans (HO8.out.below (Nat.le_refl _))⟩
      | tok k s v n =>
        rw [hs] at hstep
        obtain ⟨f1, f2⟩ := hstep rfl
        simp only [St.len] at f1 f2
        obtain ⟨z, hz⟩ : ∃ z, z = q + n := ⟨_, rfl⟩
        have HTK2 := Lib.hid (show ∀ W, Calls Tryd.prog 18 #[.string (sb l), .int .i64 q] W fun e w' => e = .returned (.agg #[.int .i64 k, .int .i64 q, .string (sb s), .int .i64 v, .int .i64 z, .int .i64 0]) ∧ Below W.heap.size W w' from fun W => by
          have h9 := HTK.out W
          have e9 : oneC q (.tok k s v n) = [.int .i64 k, .int .i64 q, .string (sb s), .int .i64 v, .int .i64 z, .int .i64 0] := by rw [hz]; rfl
          rw [hs, e9] at h9
          exact h9)
        obtain ⟨m1, m2, m3⟩ := lex_blk (l.drop z) z
        rw [List.drop_drop] at m1 m3
        rw [List.length_drop] at m2
        obtain ⟨y, hy⟩ : ∃ y, y = z + blk (l.drop z) := ⟨_, rfl⟩
        have HBK := Lib.hid (show ∀ W, Calls Tryd.prog 14 #[.string (sb l), .int .i64 z] W fun e w' => e = .returned (.int .i64 y) ∧ Below W.heap.size W w' from fun W => by rw [hy]; exact rblank_any l z W (by omega) (by omega))
        have HX2 := Lib.hid (show lex l 0 = (lex (l.drop y) y).app (T ++ [⟨k, q, s, v⟩]) by rw [HX.out, HD.out, lex_tok q hs, app_app, ← HD.out, List.drop_drop, ← hz, m1, hy])
        have HN2 := Lib.hid (show ∀ n, Lx.step (l.drop y) ≠ .skip n by rw [hy]; exact m3)
        have hyl : y ≤ l.length := by omega
        have hqy : q < y := by omega
        clear hs hnsk HSM HX m1 m2 m3 hz hy HTK f1 f2
        go_upto_region 7 with (first | ((with_reducible refine (HTK2.out _).mono ?_); rintro e w3 ⟨rfl, hb⟩; have HPa := Lib.hid (HP.out.next hb); have HTa := Lib.hid (HT.out.below hb); have HWa := Lib.hid (HW.out.trans (hb.mono HW.out.size)); clear hb) | (refine wpList_dst 5 rfl ?_; refine wpList_var rfl rfl 50 5 rfl rfl rfl (.tmp 19) rfl zO [.int .i64 k, .int .i64 q, .string (sb s), .int .i64 v, .int .i64 z, .int .i64 0] on_zero rfl rfl rfl on_size (List.forall_mem_cons.2 ⟨rfl, (List.forall_mem_cons.2 ⟨rfl, (List.forall_mem_cons.2 ⟨rfl, (List.forall_mem_cons.2 ⟨rfl, (List.forall_mem_cons.2 ⟨rfl, (List.forall_mem_cons.2 ⟨rfl, fun _ h => nomatch h⟩)⟩)⟩)⟩)⟩)⟩) ?_; intro w4 HV HBw; have HPb := Lib.hid (HPa.out.next HBw.out); have HTb := Lib.hid (HTa.out.below HBw.out); have HWb := Lib.hid (HWa.out.trans (HBw.out.mono HWa.out.size)); clear HBw))
        --@@1
        go_upto_region 9 with (first | (refine wpList_dst 20 rfl ?_; refine wpList_run 20 rfl rfl _ (exec_fieldAddr 50 (.tmp 5) 2 rfl _ _ rfl (on_f _ 2 5 (by decide) _)) ?_; go_frame) | (refine wpList_dst 21 rfl ?_; refine wpList_run 21 rfl rfl _ (exec_load 24 (.tmp 20) rfl _ (.int .i64 0) rfl (run_load_cell er_flat (HV.out.cell 5))) ?_; go_frame))
        --@@2
        refine wp_region_lit ?_
        refine wpList_run 28 rfl rfl (.slice A T.length ca) (exec_move (.tmp 3) rfl _ rfl) ?_
        go_frame
        refine wpList_run 29 rfl rfl (.pointer (some ⟨w3.heap.size, 0, none⟩)) (exec_fieldAddr 50 (.tmp 5) 0 rfl _ _ rfl (on_f _ 0 0 (by decide) _)) ?_
        go_frame
        refine wpList_run 30 rfl rfl (vT ⟨k, q, sb s, v⟩) (exec_load 33 (.tmp 29) rfl _ (vT ⟨k, q, sb s, v⟩) rfl (run_load_part _ 33 _ 0 4 _ [.int .i64 k, .int .i64 q, .string (sb s), .int .i64 v, .int .i64 z, .int .i64 0] _ HV.out (by simp) tk_under rfl tk_size)) ?_
        go_frame
        refine wpList_pushT 31 32 rfl rfl rfl rfl (.tmp 30) (.tmp 28) rfl rfl w.heap.size _ (T.map toT) ⟨k, q, sb s, v⟩ rfl rfl rfl HTb.out HWb.out.size hTl ?_
        intro v5 w5 r5 k5 b5
        have HT5 := Lib.hid r5; have HV5 := Lib.hid (k5.blk HV.out (.inl on_ne)); have HP5 := Lib.hid (k5.blk HPb.out (.inl rd_ref_ne)); have HW5 := Lib.hid (HWb.out.trans b5); clear r5 k5 b5
        go_frame
        refine wpList_run 3 rfl rfl v5 (exec_assign (.tmp 32) rfl _ rfl) ?_
        go_frame
        refine wpList_nil ?_
        go_upto_region 10 with fail
        --@@3
        go_wp2_with (first | (refine wpList_dst 34 rfl ?_; refine wpList_run 34 rfl rfl _ (exec_fieldAddr 50 (.tmp 5) 1 rfl _ _ rfl (on_f _ 1 4 (by decide) _)) ?_; go_frame) | (refine wpList_dst 35 rfl ?_; refine wpList_run 35 rfl rfl _ (exec_load 3 (.tmp 34) rfl _ (.int .i64 z) rfl (run_load_cell int_flat (HV5.out.cell 4))) ?_; go_frame) | ((with_reducible refine (HBK.out _).mono ?_); rintro e w6 ⟨rfl, hb⟩; have HT6 := Lib.hid (HT5.out.below hb); have HP6 := Lib.hid (HP5.out.next hb); have HW6 := Lib.hid (HW5.out.trans (hb.mono HW5.out.size)); clear hb))
        --@@4
        go_roundw
        case rel => first | exact ⟨y, T ++ [⟨k, q, s, v⟩], by go_num, by omega, by rw [List.length_append]; simp; omega, Lib.hid (by rw [List.map_append]; exact HT6.out), HX2, HN2, HP6, HW6⟩ | ((repeat apply Exists.intro); exact ⟨⟨y, T ++ [⟨k, q, s, v⟩], by go_num, by omega, by rw [List.length_append]; simp; omega, Lib.hid (by rw [List.map_append]; exact HT6.out), HX2, HN2, HP6, HW6⟩, rfl⟩)
        case measure => simp [intOf]; omega
    · obtain rfl : q = l.length := by omega
      have h1 : decide (((l.length : Nat) : Int) < ((sb l).size : Int)) = false := decide_eq_false (by rw [HZ.out]; omega)
      have HR := Lib.hid (show lex l 0 = .ok (T ++ [fin l.length]) by rw [HX.out, List.drop_length, lex_nil]; rfl)
      have hTl : (T.map toT).length ≤ 1000000 := by rw [List.length_map]; omega
      have HSZ := Lib.hid (show ((sb l).size : Int) = (l.length : Int) by rw [HZ.out])
      clear HX HN hca
      go_upto_region 11 with fail
      refine wp_region_lit ?_
      refine wpList_run 37 rfl rfl (.slice A T.length ca) (exec_move (.tmp 3) rfl _ rfl) ?_
      go_frame
      refine wpList_run 38 rfl rfl (.string (sb l)) (exec_move (.tmp 0) rfl _ rfl) ?_
      go_frame
      refine wpList_run 39 rfl rfl (.int .i64 (sb l).size) (exec_lenS (.tmp 38) rfl (sb l) rfl) ?_
      go_frame
      refine wpList_run 40 rfl rfl (vT ⟨5, (sb l).size, ByteArray.empty, 0⟩) (exec_buildF 33 #[(0, .const (.int .i64 5)), (1, .tmp 39)] rfl #[(0, .int .i64 5), (1, .int .i64 (sb l).size)] rfl _ (build_fin _ _)) ?_
      go_frame
      refine wpList_pushT 41 42 rfl rfl rfl rfl (.tmp 40) (.tmp 37) rfl rfl w.heap.size _ (T.map toT) ⟨5, (sb l).size, ByteArray.empty, 0⟩ rfl rfl rfl HT.out HW.out.size hTl ?_
      intro v5 w5 r5 k5 b5
      obtain ⟨A5, c5, hv5, _, hrd⟩ := r5.reads
      obtain ⟨n5, hn5⟩ : ∃ n5, n5 = (T.map toT ++ [(⟨5, ((sb l).size : Int), ByteArray.empty, 0⟩ : TI)]).length := ⟨_, rfl⟩
      rw [← hn5] at hv5
      subst hv5
      have HP5 := Lib.hid (k5.blk HP.out (.inl rd_ref_ne))
      have HW5 := Lib.hid (HW.out.trans b5)
      have HT5 := Lib.hid r5
      have HN5 := Lib.hid hn5
      clear r5 k5 b5 hrd hn5
      go_frame
      refine wpList_run 43 rfl rfl (.agg #[.slice A5 n5 c5, .int .i64 0, .int .i64 0]) (exec_buildF 30 #[(0, .tmp 42)] rfl #[(0, .slice A5 n5 c5)] rfl _ (build_rl A5 n5 c5 _)) ?_
      go_frame
      refine wpList_store_all rfl 30 (.tmp 2) (.tmp 43) rfl w.heap.size 30 zR [.slice A5 n5 c5, .int .i64 0, .int .i64 0] rfl rfl HP5.out rfl rd_ref_size (List.forall_mem_cons.2 ⟨rfl, (List.forall_mem_cons.2 ⟨rfl, (List.forall_mem_cons.2 ⟨rfl, fun _ h => nomatch h⟩)⟩)⟩) ?_
      intro w8 HP8 ho8
      have HO8 := Lib.hid ho8
      clear ho8
      go_frame
      refine wpList_nil ?_
      go_wp2_with fail
      have e1 : T.map toT ++ [(⟨5, ((sb l).size : Int), ByteArray.empty, 0⟩ : TI)] = (T ++ [fin l.length]).map toT := by rw [List.map_append, HSZ.out]; rfl
      have hT8 := HT5.out.only HO8.out HP5.out rd_ref_ne
      have en := HN5.out
      rw [e1] at hT8 en
      rw [List.length_map] at en
      obtain ⟨A8, c8, e8, _, hr8⟩ := hT8.reads
      injection e8 with e8 e9 e10
      subst e8 e10
      rw [HR.out]
      exact bodyPost_ret (results_blk rfl _ _ w.heap.size _ [.slice A5 n5 c5, .int .i64 0, .int .i64 0] _ rfl HP8.out rd_ref_under rfl rd_ref_size) rfl ⟨A5, c5, by rw [← en], hr8, HW5.out.trans (HO8.out.below (Nat.le_refl _))⟩
theorem rtokens_any (l : List UInt8) (w : World) : Calls Tryd.prog 10 #[.string (sb l)] w (RTokP w (lexAll l)) := by
  unfold lexAll
  by_cases h : 65536 < l.length
  · rw [if_pos h]; exact rtokens_long l w h
  · rw [if_neg h]; exact rtokens_ok l w (by omega)
end Go.Proofs.YtggjgikpiljoiaaDoor
