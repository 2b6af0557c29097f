/- The walk of LexerCoversSources. -/
import Derived.Test.YtggjgikpiljoiaaDoorL24
import Derived.Test.YtggjgikpiljoiaaDoorL26
namespace Go.Proofs.YtggjgikpiljoiaaDoor
open Go.RowKit Hm Wm Lx

theorem wrap_add (a b : Nat) (h : a + b ≤ 9223372036854775807) : IntKind.i64.wrap ((a : Int) + (b : Int)) = ((a + b : Nat) : Int) := by
  simp [IntKind.wrap, IntKind.bits, IntKind.signed]; omega
theorem wrap_sub1 (a : Nat) (h : a ≤ 9223372036854775807) : IntKind.i64.wrap ((a : Int) - 1) = (a : Int) - 1 := by
  simp [IntKind.wrap, IntKind.bits, IntKind.signed]; omega
theorem run_str_mid (w : World) (l : List UInt8) (m n : Nat) (h1 : m ≤ n) (h : n ≤ l.length) : (Instr.sliceAt 9 (.string (sb l)) (some (.int .i64 m)) (some (.int .i64 n)) none).run Tryd.prog w = .ok (.string (sb ((l.drop m).take (n - m)))) w := by
  have hs : (sb l).size = l.length := sb_size l
  have e : (sb l).extract m n = sb ((l.drop m).take (n - m)) := by
    apply ByteArray.ext
    rw [ByteArray.data_extract]
    simp [sb]
  simp [go_sem, run_sliceAt_string, Tryd.underlying9, hs]
  rw [if_pos h, e, if_pos h1]
theorem exec_slice_both {oi : Oper} {a : Act} {w : World} (ty : TypeId) (x y z : Operand) (ho : oi.op = .slice ty x (some y) (some z) none) (p q r v : Value) (hx : a.eval x = p) (hy : a.eval y = q) (hz : a.eval z = r) (hl : (Instr.sliceAt ty p (some q) (some r) none).run Tryd.prog w = .ok v w) : (execOp a.eval oi).run Tryd.prog w = .ok (.value v) w := by
  subst hx hy hz
  simp [execOp, ho, hl]
theorem exec_neqBF {oi : Oper} {a : Act} {w : World} (x y : Operand) (rt : TypeId) (ho : oi.op = .binOp .neq 4 x y rt) (b : Bool) (hx : a.eval x = .bool b) (hy : a.eval y = .bool b) : (execOp a.eval oi).run Tryd.prog w = .ok (.value (.bool false)) w := by
  refine exec_bin .neq 4 rt x y ho _ _ _ hx hy (by simp [go_sem]) ?_
  cases b <;> kernel_rfl
/-- A list of one token is built. -/
theorem wpList_buildT {w : World} {ops : Array Oper} {rest : List Oper} {o : Oper} {a : Act} {Q : Exit → Act → World → Prop} (d : Tmp) (hd : o.dst = some d) (hgd : o.guard = none) (x : Operand) (ho : o.op = .buildSlice 23 1 #[(0, x)]) (v : TI) (hx : a.eval x = vT v)
    (h : ∀ w', Below w.heap.size w w' → RdT w' (some ⟨w.heap.size, 0, none⟩) [v] → wpList Tryd.prog ops Q rest (a.put (some d) (.slice (some ⟨w.heap.size, 0, none⟩) 1 1)) w') : wpList Tryd.prog ops Q (o :: rest) a w := by
  have hr : RdT (w.alloc (.cells (cT v).toArray 33)) (some ⟨w.heap.size, 0, none⟩) [v] := by
    unfold RdT; rw [tL_one]; exact Rd.of_new w (cT v) 33
  have hk := h _ ((Below.refl _ _).alloc (Nat.le_refl _) _) hr
  have hrun : (execOp a.eval o).run Tryd.prog w = .ok (.value (.slice (some ⟨w.heap.size, 0, none⟩) 1 1)) (w.alloc (.cells (cT v).toArray 33)) :=
    exec_buildS 23 1 _ ho #[(0, vT v)] (by simp [hx]) _ (run_buildT w v)
  refine wpList_plain hgd fun K hK => ?_
  unfold Oper.wp
  rw [hrun]
  have := hK _ _ hk
  rw [← hd] at this
  exact this
set_option maxRecDepth 100000 in
set_option maxHeartbeats 1500000 in
theorem covers_long (l : List UInt8) (w : World) (hE : Env w) (h : 2000 < l.length) : Calls Tryd.prog 7 #[.string (sb l)] w fun e w' => e = .returned (.bool true) ∧ Below w.heap.size w w' := by
  have hz : (sb l).size = l.length := sb_size l
  have HE := Lib.hid hE
  have HW := Lib.hid (Below.refl w.heap.size w)
  have h1 : decide ((2000 : Int) < ((sb l).size : Int)) = true := decide_eq_true (by omega)
  clear hz hE h
  go_enter Tryd.func7, Tryd.ntmps7
  go_wp2_with (first | ((with_reducible refine (sanity_any _ HE.out).mono ?_); rintro e wy ⟨rfl, hb⟩; replace HE := Lib.hid (HE.out.next hb); replace HW := Lib.hid (HW.out.trans (hb.mono HW.out.size)); clear hb))
  go_ret
  exact ⟨rfl, HW.out⟩
set_option maxRecDepth 100000 in
set_option maxHeartbeats 1500000 in
theorem covers_bad (l : List UInt8) (w : World) (hE : Env w) (hl : l.length ≤ 2000) (x k : Nat) (hk : k ≠ 0) (h : lex l 0 = .bad x k) : Calls Tryd.prog 7 #[.string (sb l)] w fun e w' => e = .returned (.bool true) ∧ Below w.heap.size w w' := by
  have hz : (sb l).size = l.length := sb_size l
  have HE := Lib.hid hE
  have HW := Lib.hid (Below.refl w.heap.size w)
  have h1 : decide ((2000 : Int) < ((sb l).size : Int)) = false := decide_eq_false (by omega)
  have Hh := Lib.hid h
  have HhL := Lib.hid (show l.length ≤ 65536 by omega)
  have he : ((k : Int) != 0) = true := by rw [bne_iff_ne]; omega
  clear hz hE h hl hk
  go_enter Tryd.func7, Tryd.ntmps7
  go_upto_region 4 with (first | ((with_reducible refine (tok_no l x k (HhL.out) Hh.out _ HE.out).mono ?_); rintro e a1 ⟨rfl, hb⟩; replace HE := Lib.hid (HE.out.next hb); replace HW := Lib.hid (HW.out.trans (hb.mono HW.out.size)); clear hb) | (refine wpList_new rfl 26 rfl [.int .i64 0, .int .i64 0] pb_zero ?_; intro d1 HP1 HB1) | (refine wpList_store_all rfl 26 (.tmp 4) (.tmp 17) rfl a1.heap.size 26 [.int .i64 0, .int .i64 0] [.int .i64 x, .int .i64 k] rfl rfl HP1.out rfl pb_size (List.forall_mem_cons.2 ⟨rfl, (List.forall_mem_cons.2 ⟨rfl, fun _ h => nomatch h⟩)⟩) ?_; intro f1 HQ1 ho; have hb := HB1.out.trans (ho.below (Nat.le_refl _)); replace HE := Lib.hid (HE.out.next hb); replace HW := Lib.hid (HW.out.trans (hb.mono HW.out.size)); clear hb ho HP1 HB1))
  go_wp2_with (first | (refine wpList_dst 18 rfl ?_; refine wpList_run 18 rfl rfl _ (exec_fieldAddr 26 (.tmp 4) 1 rfl _ _ rfl (pb_f _ 1 (by decide) _)) ?_; go_frame) | (refine wpList_dst 19 rfl ?_; refine wpList_run 19 rfl rfl _ (exec_load 24 (.tmp 18) rfl _ (.int .i64 k) rfl (run_load_cell er_flat (HQ1.out.cell 1))) ?_; go_frame) | ((with_reducible refine (sanity_any _ HE.out).mono ?_); rintro e wy ⟨rfl, hb⟩; replace HE := Lib.hid (HE.out.next hb); replace HW := Lib.hid (HW.out.trans (hb.mono HW.out.size)); replace HQ1 := Lib.hid (HQ1.out.next hb); clear hb))
  go_ret
  exact ⟨rfl, HW.out⟩
set_option maxRecDepth 100000 in
set_option maxHeartbeats 1500000 in
theorem covers_ok (l : List UInt8) (w : World) (hE : Env w) (hl : l.length ≤ 2000) (T : List Tok) (h : lex l 0 = .ok T) (hsm : ∀ t ∈ T, t.s.length ≤ l.length ∧ t.v < 1000000000000000) : Calls Tryd.prog 7 #[.string (sb l)] w fun e w' => e = .returned (.bool true) ∧ Below w.heap.size w w' := by
  have hz : (sb l).size = l.length := sb_size l
  have HE := Lib.hid hE
  have HW := Lib.hid (Below.refl w.heap.size w)
  have h1 : decide ((2000 : Int) < ((sb l).size : Int)) = false := decide_eq_false (by omega)
  have Hh := Lib.hid h
  have HhL := Lib.hid (show l.length ≤ 65536 by omega)
  have HSM := Lib.hid hsm
  have HZ := Lib.hid hz
  have hTl : T.length ≤ l.length + 1 := (lex_small l 0 T h).1
  clear hz hE h hsm
  go_enter Tryd.func7, Tryd.ntmps7
  go_upto_region 4 with (first | ((with_reducible refine (tok_ok l _ (HhL.out) _ HE.out Hh.out).mono ?_); rintro e a1 ⟨⟨A1, c1, rfl, hrd⟩, hb⟩; replace HE := Lib.hid (HE.out.next hb); replace HW := Lib.hid (HW.out.trans (hb.mono HW.out.size)); have HR1 := Lib.hid hrd; clear hrd hb) | (refine wpList_new rfl 26 rfl [.int .i64 0, .int .i64 0] pb_zero ?_; intro d1 HP1 HB1) | (refine wpList_store_all rfl 26 (.tmp 4) (.tmp 17) rfl a1.heap.size 26 [.int .i64 0, .int .i64 0] [.int .i64 0, .int .i64 0] rfl rfl HP1.out rfl pb_size (List.forall_mem_cons.2 ⟨rfl, (List.forall_mem_cons.2 ⟨rfl, fun _ h => nomatch h⟩)⟩) ?_; intro f1 HQ1 ho; have hb := HB1.out.trans (ho.below (Nat.le_refl _)); replace HE := Lib.hid (HE.out.next hb); replace HW := Lib.hid (HW.out.trans (hb.mono HW.out.size)); replace HR1 := Lib.hid (HR1.out.below hb); clear hb ho HP1 HB1))
  go_wp2_with (first | (refine wpList_dst 18 rfl ?_; refine wpList_run 18 rfl rfl _ (exec_fieldAddr 26 (.tmp 4) 1 rfl _ _ rfl (pb_f _ 1 (by decide) _)) ?_; go_frame) | (refine wpList_dst 19 rfl ?_; refine wpList_run 19 rfl rfl _ (exec_load 24 (.tmp 18) rfl _ (.int .i64 0) rfl (run_load_cell er_flat (HQ1.out.cell 1))) ?_; go_frame))
  go_loopw [5, 6] (fun a b wr => ∃ p k : Nat, a = .int .i64 p ∧ b = .int .i64 k ∧ k ≤ T.length ∧ p ≤ l.length ∧ Hid ((k < T.length ∧ lex (l.drop p) p = .ok (T.drop k)) ∨ (k = T.length ∧ p = l.length)) ∧ Hid (Env wr) ∧ Hid (RdT wr A1 (T.map toT)) ∧ Hid (Below w.heap.size w wr)) (fun _ b _ => T.length - (intOf b).toNat)
  case atStart => exact ⟨0, 0, rfl, rfl, Nat.zero_le _, Nat.zero_le _, Lib.hid (.inl ⟨lex_nonempty Hh.out, by simpa using Hh.out⟩), HE, HR1, HW⟩
  case round =>
    clear HE HR1 HW HQ1
    obtain ⟨p, k, rfl, rfl, hk, hp, HX, HE, HR1, HW⟩ := hrel
    by_cases hlt : k < T.length
    · have hlx := (HX.out.resolve_right (fun h => by omega)).2
      obtain ⟨t, ht, ha, hle, htk, hcase⟩ := cover_at hlt hlx hp
      obtain ⟨s1, s2⟩ := HSM.out t (List.mem_of_getElem? ht)
      have HTX := Lib.hid (show ∀ (A : Option Addr) (c : Nat) (W : World), Env W → RdT W A [toT t] → Calls Tryd.prog 11 #[.slice A 1 c] W fun e w' => e = .returned (.string (sb (textL [t]))) ∧ Below W.heap.size W w' from fun A c W hW hr => text_tok [t] _ rfl (by simp) (fun u hu => by rw [List.mem_singleton.1 hu]; exact ⟨by omega, s2⟩) (by omega) A c W hW hr)
      have HBK := Lib.hid (show ∀ W, Calls Tryd.prog 14 #[.string (sb l), .int .i64 p] W fun e w' => e = .returned (.int .i64 (t.a : Nat)) ∧ Below W.heap.size W w' from fun W => by have := rblank_any l p W hp (by omega); rw [← ha] at this; exact this)
      obtain ⟨b, off, rfl, hc⟩ := HR1.out.at (show (T.map toT)[k]? = some (toT t) by rw [List.getElem?_map, ht]; rfl)
      have HC := Lib.hid hc
      clear hlx ha hc ht HX HSM
      generalize textL [t] = X at hle htk hcase HTX
      obtain ⟨tk, ta, ts, tv⟩ := t
      simp only [toT] at hle htk hcase HTX HBK HC
      have hxs : (sb X).size = X.length := sb_size X
      have HADD := Lib.hid (show IntKind.i64.wrap ((ta : Int) + ((sb X).size : Int)) = ((ta + X.length : Nat) : Int) by rw [hxs]; exact wrap_add _ _ (by omega))
      have HSL := Lib.hid (show ∀ W, (Instr.sliceAt 9 (.string (sb l)) (some (.int .i64 ta)) (some (.int .i64 ((ta + X.length : Nat) : Int))) none).run Tryd.prog W = .ok (.string (sb X)) W from fun W => by
        have := run_str_mid W l ta (ta + X.length) (by omega) hle
        rw [Nat.add_sub_cancel_left, htk] at this
        exact this)
      have HSU := Lib.hid (show IntKind.i64.wrap ((T.length : Int) - 1) = (T.length : Int) - 1 from wrap_sub1 _ (by have := (lex_small l 0 T Hh.out).1; omega))
      have g1 : decide (((sb l).size : Int) < ((ta + X.length : Nat) : Int)) = false := decide_eq_false (by rw [HZ.out]; omega)
      have h1 : decide ((k : Int) < (T.length : Int)) = true := decide_eq_true (by omega)
      have h1n : decide (k < T.length) = true := decide_eq_true hlt
      have hta : ta + X.length ≤ l.length := hle
      clear htk hle hxs s1 s2
      rcases hcase with ⟨n1, n2, n3⟩ | ⟨n1, n2, n3⟩
      · have HEM := Lib.hid (show ∀ W, (binOp .eql 9 (.string (sb X)) (.string ⟨#[]⟩)).run Tryd.prog W = .ok (.bool false) W from fun W => by
          have := run_eql_str W X []
          rw [show decide (X = []) = false from decide_eq_false n2] at this
          exact this)
        have q1 : ((k : Int) == (T.length : Int) - 1) = false := by rw [beq_eq_false_iff_ne]; omega
        have HC3 := Lib.hid n3
        clear n2 n3
        go_upto_region 11 with (first | (refine wpList_dst 30 rfl ?_; refine wpList_run 30 rfl rfl _ (exec_atT (.tmp 28) (.tmp 29) rfl b off _ c1 k hlt rfl rfl) ?_; go_frame) | (refine wpList_dst 31 rfl ?_; refine wpList_run 31 rfl rfl _ (exec_loadT (.tmp 30) rfl b _ ⟨tk, ta, sb ts, tv⟩ rfl HC.out) ?_; go_frame) | (refine wpList_var rfl rfl 33 7 rfl rfl rfl (.tmp 31) rfl zT [.int .i64 tk, .int .i64 ta, .string (sb ts), .int .i64 tv] tk_zero rfl rfl rfl tk_size (List.forall_mem_cons.2 ⟨rfl, (List.forall_mem_cons.2 ⟨rfl, (List.forall_mem_cons.2 ⟨rfl, (List.forall_mem_cons.2 ⟨rfl, fun _ h => nomatch h⟩)⟩)⟩)⟩) ?_; intro w2 HX HBw; replace HE := Lib.hid (HE.out.next HBw.out); replace HR1 := Lib.hid (HR1.out.below HBw.out); replace HW := Lib.hid (HW.out.trans (HBw.out.mono HW.out.size)); clear HBw))
        refine late_begin (S := fun _ W => Env W ∧ Blk W wr.heap.size 33 [.int .i64 tk, .int .i64 ta, .string (sb ts), .int .i64 tv]) (by kernel_rfl) ?_
        have hE0 := HE.out.next (Below.refl _ _).drew
        have hR10 := HR1.out.below (Below.refl _ _).drew
        have hW0 := HW.out.drew
        have hX0 := HX.out.drew
        generalize w2.drew = u0 at hE0 hR10 hW0 hX0 ⊢
        clear HE HR1 HW HX
        refine late_take [] (i := 0) (some 32) rfl rfl (by first | rfl | kernel_rfl) (by kernel_rfl) (by kernel_rfl) (by kernel_rfl) (by kernel_rfl) (by kernel_rfl) (fun Ls W h => h) (.string (sb l)) (fun _ _ _ h => h) (fun Ls W hl0 hW => exec_move (.tmp 0) rfl _ rfl) ⟨hE0, hX0⟩ ⟨hE0, hX0⟩ ?_
        go_frame
        refine late_take [] (i := 1) (some 33) rfl rfl (by first | rfl | kernel_rfl) (by kernel_rfl) (by kernel_rfl) (by kernel_rfl) (by kernel_rfl) (by kernel_rfl) (fun Ls W h => h) (.int .i64 p) (fun _ _ _ h => h) (fun Ls W hl0 hW => exec_move (.tmp 5) rfl _ rfl) ⟨hE0, hX0⟩ ⟨hE0, hX0⟩ ?_
        go_frame
        refine late_take [] (i := 3) (some 35) rfl rfl (by first | rfl | kernel_rfl) (by kernel_rfl) (by kernel_rfl) (by kernel_rfl) (by kernel_rfl) (by kernel_rfl) (fun Ls W h => h) (.pointer (some ⟨wr.heap.size, 1, none⟩)) (fun _ _ _ h => h) (fun Ls W hl0 hW => exec_fieldAddr 33 (.tmp 7) 1 rfl _ _ rfl (fa_api_Token_1_0 _ _)) ⟨hE0, hX0⟩ ⟨hE0, hX0⟩ ?_
        go_frame
        refine late_take [] (i := 4) (some 36) rfl rfl (by first | rfl | kernel_rfl) (by kernel_rfl) (by kernel_rfl) (by kernel_rfl) (by kernel_rfl) (by kernel_rfl) (fun Ls W h => h) (.int .i64 ta) (fun _ _ _ h => h) (fun Ls W hl0 hW => exec_load 3 (.tmp 35) rfl _ _ rfl (run_load_cell flat_int (hW.2.cell 1))) ⟨hE0, hX0⟩ ⟨hE0, hX0⟩ ?_
        go_frame
        refine late_one (i := 2) (by kernel_rfl) (op_callG (some 34) rfl rfl (by first | rfl | kernel_rfl) rfl Tryd.func14 (by kernel_rfl) (by kernel_rfl) #[.string (sb l), .int .i64 p] rfl (HBK.out u0) ?_)
        rintro e u1 ⟨rfl, hb⟩
        have hE1 := hE0.next hb
        have hR11 := hR10.below hb
        have hW1 := hW0.trans (hb.mono hW0.size)
        have hX1 := hX0.next hb
        refine ⟨_, rfl, ⟨hE1, hX1⟩, ?_⟩
        go_frame
        clear hE0 hR10 hW0 hX0 hb
        refine late_take [] (i := 5) (some 37) rfl rfl (by first | rfl | kernel_rfl) (by kernel_rfl) (by kernel_rfl) (by kernel_rfl) (by kernel_rfl) (by kernel_rfl) (fun Ls W h => h) (.bool false) (fun _ _ _ h => h) (fun Ls W hl0 hW => exec_neqT _ _ _ _ rfl .i64 (ta) rfl rfl) ⟨hE1, hX1⟩ ⟨hE1, hX1⟩ ?_
        refine late_done (by kernel_rfl) ?_ _
        go_frame
        have HE := Lib.hid hE1
        have HR1 := Lib.hid hR11
        have HW := Lib.hid hW1
        have HX := Lib.hid hX1
        clear hE1 hR11 hW1 hX1
        go_upto_region 14 with (first | (refine wpList_dst 38 rfl ?_; refine wpList_run 38 rfl rfl _ (exec_load 33 (.tmp 7) rfl _ (vT ⟨tk, ta, sb ts, tv⟩) rfl (run_load_part _ 33 _ 0 4 _ [.int .i64 tk, .int .i64 ta, .string (sb ts), .int .i64 tv] _ HX.out (by simp) tk_under rfl tk_size)) ?_; go_frame) | (refine wpList_buildT 39 rfl rfl (.tmp 38) rfl ⟨tk, ta, sb ts, tv⟩ rfl ?_; intro w4 hb hrd; have HRD := Lib.hid hrd; replace HE := Lib.hid (HE.out.next hb); replace HR1 := Lib.hid (HR1.out.below hb); replace HW := Lib.hid (HW.out.trans (hb.mono HW.out.size)); replace HX := Lib.hid (HX.out.next hb); clear hb hrd; go_frame) | ((with_reducible refine (HTX.out _ _ _ HE.out HRD.out).mono ?_); rintro e w5 ⟨rfl, hb⟩; replace HE := Lib.hid (HE.out.next hb); replace HR1 := Lib.hid (HR1.out.below hb); replace HW := Lib.hid (HW.out.trans (hb.mono HW.out.size)); replace HX := Lib.hid (HX.out.next hb); clear hb))
        clear HRD
        refine wp_region_lit ?_
        refine wpList_run 41 rfl rfl (.pointer (some ⟨wr.heap.size, 1, none⟩)) (exec_fieldAddr 33 (.tmp 7) 1 rfl _ _ rfl (fa_api_Token_1_0 _ _)) ?_
        go_frame
        refine wpList_run 42 rfl rfl (.int .i64 ta) (exec_load 3 (.tmp 41) rfl _ (.int .i64 ta) rfl (run_load_cell int_flat (HX.out.cell 1))) ?_
        go_frame
        refine wpList_run 43 rfl rfl (.string (sb X)) (exec_move (.tmp 8) rfl _ rfl) ?_
        go_frame
        refine wpList_run 44 rfl rfl (.int .i64 (sb X).size) (exec_lenS (.tmp 43) rfl (sb X) rfl) ?_
        go_frame
        refine wpList_run 45 rfl rfl (.int .i64 ((ta + X.length : Nat) : Int)) (exec_addI _ (.tmp 42) (.tmp 44) _ rfl _ _ _ rfl rfl HADD.out) ?_
        go_frame
        refine wpList_run 46 rfl rfl (.string (sb l)) (exec_move (.tmp 0) rfl _ rfl) ?_
        go_frame
        refine wpList_run 47 rfl rfl (.int .i64 (sb l).size) (exec_lenS (.tmp 46) rfl (sb l) rfl) ?_
        go_frame
        refine wpList_run 48 rfl rfl (.bool false) (exec_gtrI _ _ _ _ rfl .i64 ((ta + X.length : Nat) : Int) (sb l).size false g1 rfl rfl) ?_
        go_frame
        refine wpList_run 49 rfl rfl (.bool false) (exec_move (.tmp 48) rfl _ rfl) ?_
        go_frame
        refine wpList_runG 50 rfl (by first | rfl | kernel_rfl) (.string (sb l)) (exec_move (.tmp 0) rfl _ rfl) ?_
        go_frame
        refine wpList_runG 51 rfl (by first | rfl | kernel_rfl) (.pointer (some ⟨wr.heap.size, 1, none⟩)) (exec_fieldAddr 33 (.tmp 7) 1 rfl _ _ rfl (fa_api_Token_1_0 _ _)) ?_
        go_frame
        refine wpList_runG 52 rfl (by first | rfl | kernel_rfl) (.int .i64 ta) (exec_load 3 (.tmp 51) rfl _ (.int .i64 ta) rfl (run_load_cell int_flat (HX.out.cell 1))) ?_
        go_frame
        refine wpList_runG 53 rfl (by first | rfl | kernel_rfl) (.pointer (some ⟨wr.heap.size, 1, none⟩)) (exec_fieldAddr 33 (.tmp 7) 1 rfl _ _ rfl (fa_api_Token_1_0 _ _)) ?_
        go_frame
        refine wpList_runG 54 rfl (by first | rfl | kernel_rfl) (.int .i64 ta) (exec_load 3 (.tmp 53) rfl _ (.int .i64 ta) rfl (run_load_cell int_flat (HX.out.cell 1))) ?_
        go_frame
        refine wpList_runG 55 rfl (by first | rfl | kernel_rfl) (.string (sb X)) (exec_move (.tmp 8) rfl _ rfl) ?_
        go_frame
        refine wpList_runG 56 rfl (by first | rfl | kernel_rfl) (.int .i64 (sb X).size) (exec_lenS (.tmp 55) rfl (sb X) rfl) ?_
        go_frame
        refine wpList_runG 57 rfl (by first | rfl | kernel_rfl) (.int .i64 ((ta + X.length : Nat) : Int)) (exec_addI _ (.tmp 54) (.tmp 56) _ rfl _ _ _ rfl rfl HADD.out) ?_
        go_frame
        refine wpList_runG 58 rfl (by first | rfl | kernel_rfl) (.string (sb X)) (exec_slice_both 9 (.tmp 50) (.tmp 52) (.tmp 57) rfl _ _ _ _ rfl rfl rfl (HSL.out _)) ?_
        go_frame
        refine wpList_runG 59 rfl (by first | rfl | kernel_rfl) (.string (sb X)) (exec_move (.tmp 8) rfl _ rfl) ?_
        go_frame
        refine wpList_runG 60 rfl (by first | rfl | kernel_rfl) (.bool false) (exec_bin .neq 9 _ (.tmp 58) (.tmp 59) rfl (.string (sb X)) (.string (sb X)) _ rfl rfl rfl (neq_str _ _)) ?_
        go_frame
        refine wpList_run 61 rfl rfl (.bool false) (exec_pickF _ _ _ rfl (.bool false) rfl rfl) ?_
        go_frame
        refine wpList_run 62 rfl rfl (.bool false) (exec_move (.tmp 61) rfl _ rfl) ?_
        go_frame
        refine wpList_runG 63 rfl (by first | rfl | kernel_rfl) (.string (sb X)) (exec_move (.tmp 8) rfl _ rfl) ?_
        go_frame
        refine wpList_runG 64 rfl (by first | rfl | kernel_rfl) (.bool false) (exec_bin .eql 9 _ (.tmp 63) _ rfl (.string (sb X)) (.string ⟨#[]⟩) _ rfl rfl rfl (HEM.out _)) ?_
        go_frame
        refine wpList_runG 65 rfl (by first | rfl | kernel_rfl) (.int .i64 k) (exec_move (.tmp 6) rfl _ rfl) ?_
        go_frame
        refine wpList_runG 66 rfl (by first | rfl | kernel_rfl) (.slice (some ⟨b, off, none⟩) T.length c1) (exec_move (.tmp 3) rfl _ rfl) ?_
        go_frame
        refine wpList_runG 67 rfl (by first | rfl | kernel_rfl) (.int .i64 T.length) (exec_lenT (.tmp 66) rfl _ T.length _ rfl) ?_
        go_frame
        refine wpList_runG 68 rfl (by first | rfl | kernel_rfl) (.int .i64 ((T.length : Int) - 1)) (exec_subI _ (.tmp 67) _ _ rfl _ _ _ rfl rfl HSU.out) ?_
        go_frame
        refine wpList_runG 69 rfl (by first | rfl | kernel_rfl) (.bool false) (exec_eqlI _ _ _ _ rfl .i64 k ((T.length : Int) - 1) false q1 rfl rfl) ?_
        go_frame
        refine wpList_runG 70 rfl (by first | rfl | kernel_rfl) (.bool false) (exec_neqBF (.tmp 64) (.tmp 69) _ rfl false rfl rfl) ?_
        go_frame
        refine wpList_run 71 rfl rfl (.bool false) (exec_pickF _ _ _ rfl (.bool false) rfl rfl) ?_
        go_frame
        refine wpList_nil ?_
        go_upto_region 16 with fail
        refine wp_region_lit ?_
        refine wpList_run 72 rfl rfl (.pointer (some ⟨wr.heap.size, 1, none⟩)) (exec_fieldAddr 33 (.tmp 7) 1 rfl _ _ rfl (fa_api_Token_1_0 _ _)) ?_
        go_frame
        refine wpList_run 73 rfl rfl (.int .i64 ta) (exec_load 3 (.tmp 72) rfl _ (.int .i64 ta) rfl (run_load_cell int_flat (HX.out.cell 1))) ?_
        go_frame
        refine wpList_run 74 rfl rfl (.string (sb X)) (exec_move (.tmp 8) rfl _ rfl) ?_
        go_frame
        refine wpList_run 75 rfl rfl (.int .i64 (sb X).size) (exec_lenS (.tmp 74) rfl (sb X) rfl) ?_
        go_frame
        refine wpList_run 76 rfl rfl (.int .i64 ((ta + X.length : Nat) : Int)) (exec_addI _ (.tmp 73) (.tmp 75) _ rfl _ _ _ rfl rfl HADD.out) ?_
        go_frame
        refine wpList_run 5 rfl rfl (.int .i64 ((ta + X.length : Nat) : Int)) (exec_assign (.tmp 76) rfl _ rfl) ?_
        go_frame
        refine wpList_nil ?_
        go_wp2_with fail
        go_roundw
        case rel => exact ⟨ta + X.length, k + 1, by go_num, by go_num, by omega, hta, Lib.hid (.inl ⟨n1, HC3.out⟩), HE, HR1, HW⟩
        case measure => simp [intOf]; omega
      · have HEM := Lib.hid (show ∀ W, (binOp .eql 9 (.string (sb X)) (.string ⟨#[]⟩)).run Tryd.prog W = .ok (.bool true) W from fun W => by
          have := run_eql_str W X []
          rw [show decide (X = []) = true from decide_eq_true n2] at this
          exact this)
        have q1 : ((k : Int) == (T.length : Int) - 1) = true := by rw [beq_iff_eq]; omega
        have HC3 := Lib.hid n3
        have hX0 : X.length = 0 := by rw [n2]; rfl
        clear n2 n3
        go_upto_region 11 with (first | (refine wpList_dst 30 rfl ?_; refine wpList_run 30 rfl rfl _ (exec_atT (.tmp 28) (.tmp 29) rfl b off _ c1 k hlt rfl rfl) ?_; go_frame) | (refine wpList_dst 31 rfl ?_; refine wpList_run 31 rfl rfl _ (exec_loadT (.tmp 30) rfl b _ ⟨tk, ta, sb ts, tv⟩ rfl HC.out) ?_; go_frame) | (refine wpList_var rfl rfl 33 7 rfl rfl rfl (.tmp 31) rfl zT [.int .i64 tk, .int .i64 ta, .string (sb ts), .int .i64 tv] tk_zero rfl rfl rfl tk_size (List.forall_mem_cons.2 ⟨rfl, (List.forall_mem_cons.2 ⟨rfl, (List.forall_mem_cons.2 ⟨rfl, (List.forall_mem_cons.2 ⟨rfl, fun _ h => nomatch h⟩)⟩)⟩)⟩) ?_; intro w2 HX HBw; replace HE := Lib.hid (HE.out.next HBw.out); replace HR1 := Lib.hid (HR1.out.below HBw.out); replace HW := Lib.hid (HW.out.trans (HBw.out.mono HW.out.size)); clear HBw))
        refine late_begin (S := fun _ W => Env W ∧ Blk W wr.heap.size 33 [.int .i64 tk, .int .i64 ta, .string (sb ts), .int .i64 tv]) (by kernel_rfl) ?_
        have hE0 := HE.out.next (Below.refl _ _).drew
        have hR10 := HR1.out.below (Below.refl _ _).drew
        have hW0 := HW.out.drew
        have hX0 := HX.out.drew
        generalize w2.drew = u0 at hE0 hR10 hW0 hX0 ⊢
        clear HE HR1 HW HX
        refine late_take [] (i := 0) (some 32) rfl rfl (by first | rfl | kernel_rfl) (by kernel_rfl) (by kernel_rfl) (by kernel_rfl) (by kernel_rfl) (by kernel_rfl) (fun Ls W h => h) (.string (sb l)) (fun _ _ _ h => h) (fun Ls W hl0 hW => exec_move (.tmp 0) rfl _ rfl) ⟨hE0, hX0⟩ ⟨hE0, hX0⟩ ?_
        go_frame
        refine late_take [] (i := 1) (some 33) rfl rfl (by first | rfl | kernel_rfl) (by kernel_rfl) (by kernel_rfl) (by kernel_rfl) (by kernel_rfl) (by kernel_rfl) (fun Ls W h => h) (.int .i64 p) (fun _ _ _ h => h) (fun Ls W hl0 hW => exec_move (.tmp 5) rfl _ rfl) ⟨hE0, hX0⟩ ⟨hE0, hX0⟩ ?_
        go_frame
        refine late_take [] (i := 3) (some 35) rfl rfl (by first | rfl | kernel_rfl) (by kernel_rfl) (by kernel_rfl) (by kernel_rfl) (by kernel_rfl) (by kernel_rfl) (fun Ls W h => h) (.pointer (some ⟨wr.heap.size, 1, none⟩)) (fun _ _ _ h => h) (fun Ls W hl0 hW => exec_fieldAddr 33 (.tmp 7) 1 rfl _ _ rfl (fa_api_Token_1_0 _ _)) ⟨hE0, hX0⟩ ⟨hE0, hX0⟩ ?_
        go_frame
        refine late_take [] (i := 4) (some 36) rfl rfl (by first | rfl | kernel_rfl) (by kernel_rfl) (by kernel_rfl) (by kernel_rfl) (by kernel_rfl) (by kernel_rfl) (fun Ls W h => h) (.int .i64 ta) (fun _ _ _ h => h) (fun Ls W hl0 hW => exec_load 3 (.tmp 35) rfl _ _ rfl (run_load_cell flat_int (hW.2.cell 1))) ⟨hE0, hX0⟩ ⟨hE0, hX0⟩ ?_
        go_frame
        refine late_one (i := 2) (by kernel_rfl) (op_callG (some 34) rfl rfl (by first | rfl | kernel_rfl) rfl Tryd.func14 (by kernel_rfl) (by kernel_rfl) #[.string (sb l), .int .i64 p] rfl (HBK.out u0) ?_)
        rintro e u1 ⟨rfl, hb⟩
        have hE1 := hE0.next hb
        have hR11 := hR10.below hb
        have hW1 := hW0.trans (hb.mono hW0.size)
        have hX1 := hX0.next hb
        refine ⟨_, rfl, ⟨hE1, hX1⟩, ?_⟩
        go_frame
        clear hE0 hR10 hW0 hX0 hb
        refine late_take [] (i := 5) (some 37) rfl rfl (by first | rfl | kernel_rfl) (by kernel_rfl) (by kernel_rfl) (by kernel_rfl) (by kernel_rfl) (by kernel_rfl) (fun Ls W h => h) (.bool false) (fun _ _ _ h => h) (fun Ls W hl0 hW => exec_neqT _ _ _ _ rfl .i64 (ta) rfl rfl) ⟨hE1, hX1⟩ ⟨hE1, hX1⟩ ?_
        refine late_done (by kernel_rfl) ?_ _
        go_frame
        have HE := Lib.hid hE1
        have HR1 := Lib.hid hR11
        have HW := Lib.hid hW1
        have HX := Lib.hid hX1
        clear hE1 hR11 hW1 hX1
        go_upto_region 14 with (first | (refine wpList_dst 38 rfl ?_; refine wpList_run 38 rfl rfl _ (exec_load 33 (.tmp 7) rfl _ (vT ⟨tk, ta, sb ts, tv⟩) rfl (run_load_part _ 33 _ 0 4 _ [.int .i64 tk, .int .i64 ta, .string (sb ts), .int .i64 tv] _ HX.out (by simp) tk_under rfl tk_size)) ?_; go_frame) | (refine wpList_buildT 39 rfl rfl (.tmp 38) rfl ⟨tk, ta, sb ts, tv⟩ rfl ?_; intro w4 hb hrd; have HRD := Lib.hid hrd; replace HE := Lib.hid (HE.out.next hb); replace HR1 := Lib.hid (HR1.out.below hb); replace HW := Lib.hid (HW.out.trans (hb.mono HW.out.size)); replace HX := Lib.hid (HX.out.next hb); clear hb hrd; go_frame) | ((with_reducible refine (HTX.out _ _ _ HE.out HRD.out).mono ?_); rintro e w5 ⟨rfl, hb⟩; replace HE := Lib.hid (HE.out.next hb); replace HR1 := Lib.hid (HR1.out.below hb); replace HW := Lib.hid (HW.out.trans (hb.mono HW.out.size)); replace HX := Lib.hid (HX.out.next hb); clear hb))
        clear HRD
        refine wp_region_lit ?_
        refine wpList_run 41 rfl rfl (.pointer (some ⟨wr.heap.size, 1, none⟩)) (exec_fieldAddr 33 (.tmp 7) 1 rfl _ _ rfl (fa_api_Token_1_0 _ _)) ?_
        go_frame
        refine wpList_run 42 rfl rfl (.int .i64 ta) (exec_load 3 (.tmp 41) rfl _ (.int .i64 ta) rfl (run_load_cell int_flat (HX.out.cell 1))) ?_
        go_frame
        refine wpList_run 43 rfl rfl (.string (sb X)) (exec_move (.tmp 8) rfl _ rfl) ?_
        go_frame
        refine wpList_run 44 rfl rfl (.int .i64 (sb X).size) (exec_lenS (.tmp 43) rfl (sb X) rfl) ?_
        go_frame
        refine wpList_run 45 rfl rfl (.int .i64 ((ta + X.length : Nat) : Int)) (exec_addI _ (.tmp 42) (.tmp 44) _ rfl _ _ _ rfl rfl HADD.out) ?_
        go_frame
        refine wpList_run 46 rfl rfl (.string (sb l)) (exec_move (.tmp 0) rfl _ rfl) ?_
        go_frame
        refine wpList_run 47 rfl rfl (.int .i64 (sb l).size) (exec_lenS (.tmp 46) rfl (sb l) rfl) ?_
        go_frame
        refine wpList_run 48 rfl rfl (.bool false) (exec_gtrI _ _ _ _ rfl .i64 ((ta + X.length : Nat) : Int) (sb l).size false g1 rfl rfl) ?_
        go_frame
        refine wpList_run 49 rfl rfl (.bool false) (exec_move (.tmp 48) rfl _ rfl) ?_
        go_frame
        refine wpList_runG 50 rfl (by first | rfl | kernel_rfl) (.string (sb l)) (exec_move (.tmp 0) rfl _ rfl) ?_
        go_frame
        refine wpList_runG 51 rfl (by first | rfl | kernel_rfl) (.pointer (some ⟨wr.heap.size, 1, none⟩)) (exec_fieldAddr 33 (.tmp 7) 1 rfl _ _ rfl (fa_api_Token_1_0 _ _)) ?_
        go_frame
        refine wpList_runG 52 rfl (by first | rfl | kernel_rfl) (.int .i64 ta) (exec_load 3 (.tmp 51) rfl _ (.int .i64 ta) rfl (run_load_cell int_flat (HX.out.cell 1))) ?_
        go_frame
        refine wpList_runG 53 rfl (by first | rfl | kernel_rfl) (.pointer (some ⟨wr.heap.size, 1, none⟩)) (exec_fieldAddr 33 (.tmp 7) 1 rfl _ _ rfl (fa_api_Token_1_0 _ _)) ?_
        go_frame
        refine wpList_runG 54 rfl (by first | rfl | kernel_rfl) (.int .i64 ta) (exec_load 3 (.tmp 53) rfl _ (.int .i64 ta) rfl (run_load_cell int_flat (HX.out.cell 1))) ?_
        go_frame
        refine wpList_runG 55 rfl (by first | rfl | kernel_rfl) (.string (sb X)) (exec_move (.tmp 8) rfl _ rfl) ?_
        go_frame
        refine wpList_runG 56 rfl (by first | rfl | kernel_rfl) (.int .i64 (sb X).size) (exec_lenS (.tmp 55) rfl (sb X) rfl) ?_
        go_frame
        refine wpList_runG 57 rfl (by first | rfl | kernel_rfl) (.int .i64 ((ta + X.length : Nat) : Int)) (exec_addI _ (.tmp 54) (.tmp 56) _ rfl _ _ _ rfl rfl HADD.out) ?_
        go_frame
        refine wpList_runG 58 rfl (by first | rfl | kernel_rfl) (.string (sb X)) (exec_slice_both 9 (.tmp 50) (.tmp 52) (.tmp 57) rfl _ _ _ _ rfl rfl rfl (HSL.out _)) ?_
        go_frame
        refine wpList_runG 59 rfl (by first | rfl | kernel_rfl) (.string (sb X)) (exec_move (.tmp 8) rfl _ rfl) ?_
        go_frame
        refine wpList_runG 60 rfl (by first | rfl | kernel_rfl) (.bool false) (exec_bin .neq 9 _ (.tmp 58) (.tmp 59) rfl (.string (sb X)) (.string (sb X)) _ rfl rfl rfl (neq_str _ _)) ?_
        go_frame
        refine wpList_run 61 rfl rfl (.bool false) (exec_pickF _ _ _ rfl (.bool false) rfl rfl) ?_
        go_frame
        refine wpList_run 62 rfl rfl (.bool false) (exec_move (.tmp 61) rfl _ rfl) ?_
        go_frame
        refine wpList_runG 63 rfl (by first | rfl | kernel_rfl) (.string (sb X)) (exec_move (.tmp 8) rfl _ rfl) ?_
        go_frame
        refine wpList_runG 64 rfl (by first | rfl | kernel_rfl) (.bool true) (exec_bin .eql 9 _ (.tmp 63) _ rfl (.string (sb X)) (.string ⟨#[]⟩) _ rfl rfl rfl (HEM.out _)) ?_
        go_frame
        refine wpList_runG 65 rfl (by first | rfl | kernel_rfl) (.int .i64 k) (exec_move (.tmp 6) rfl _ rfl) ?_
        go_frame
        refine wpList_runG 66 rfl (by first | rfl | kernel_rfl) (.slice (some ⟨b, off, none⟩) T.length c1) (exec_move (.tmp 3) rfl _ rfl) ?_
        go_frame
        refine wpList_runG 67 rfl (by first | rfl | kernel_rfl) (.int .i64 T.length) (exec_lenT (.tmp 66) rfl _ T.length _ rfl) ?_
        go_frame
        refine wpList_runG 68 rfl (by first | rfl | kernel_rfl) (.int .i64 ((T.length : Int) - 1)) (exec_subI _ (.tmp 67) _ _ rfl _ _ _ rfl rfl HSU.out) ?_
        go_frame
        refine wpList_runG 69 rfl (by first | rfl | kernel_rfl) (.bool true) (exec_eqlI _ _ _ _ rfl .i64 k ((T.length : Int) - 1) true q1 rfl rfl) ?_
        go_frame
        refine wpList_runG 70 rfl (by first | rfl | kernel_rfl) (.bool false) (exec_neqBF (.tmp 64) (.tmp 69) _ rfl true rfl rfl) ?_
        go_frame
        refine wpList_run 71 rfl rfl (.bool false) (exec_pickF _ _ _ rfl (.bool false) rfl rfl) ?_
        go_frame
        refine wpList_nil ?_
        go_upto_region 16 with fail
        refine wp_region_lit ?_
        refine wpList_run 72 rfl rfl (.pointer (some ⟨wr.heap.size, 1, none⟩)) (exec_fieldAddr 33 (.tmp 7) 1 rfl _ _ rfl (fa_api_Token_1_0 _ _)) ?_
        go_frame
        refine wpList_run 73 rfl rfl (.int .i64 ta) (exec_load 3 (.tmp 72) rfl _ (.int .i64 ta) rfl (run_load_cell int_flat (HX.out.cell 1))) ?_
        go_frame
        refine wpList_run 74 rfl rfl (.string (sb X)) (exec_move (.tmp 8) rfl _ rfl) ?_
        go_frame
        refine wpList_run 75 rfl rfl (.int .i64 (sb X).size) (exec_lenS (.tmp 74) rfl (sb X) rfl) ?_
        go_frame
        refine wpList_run 76 rfl rfl (.int .i64 ((ta + X.length : Nat) : Int)) (exec_addI _ (.tmp 73) (.tmp 75) _ rfl _ _ _ rfl rfl HADD.out) ?_
        go_frame
        refine wpList_run 5 rfl rfl (.int .i64 ((ta + X.length : Nat) : Int)) (exec_assign (.tmp 76) rfl _ rfl) ?_
        go_frame
        refine wpList_nil ?_
        go_wp2_with fail
        go_roundw
        case rel => exact ⟨ta + X.length, k + 1, by go_num, by go_num, by omega, hta, Lib.hid (.inr ⟨n1, by have := HC3.out; omega⟩), HE, HR1, HW⟩
        case measure => simp [intOf]; omega
    · obtain rfl : k = T.length := by omega
      have hpl : p = l.length := (HX.out.resolve_left (fun h => by omega)).2
      have h1 : decide ((T.length : Int) < (T.length : Int)) = false := decide_eq_false (by omega)
      have q1 : ((p : Int) == ((sb l).size : Int)) = true := by rw [beq_iff_eq, HZ.out]; omega
      clear hpl HX
      go_wp2_with (first | ((with_reducible refine (sanity_any _ HE.out).mono ?_); rintro e wy ⟨rfl, hb⟩; replace HE := Lib.hid (HE.out.next hb); replace HW := Lib.hid (HW.out.trans (hb.mono HW.out.size)); clear hb))
      go_ret
      exact ⟨rfl, HW.out⟩
theorem walk_covers (s : ByteArray) (w : World) (hE : Env w) (_hs : s.size ≤ 9223372036854775807) : Calls Tryd.prog 7 #[.string s] w fun e w' => e = .returned (.bool true) ∧ Below w.heap.size w w' := by
  have e : s = sb s.data.toList := (sb_of s).symm
  have hz : s.data.toList.length = s.size := Array.length_toList
  rw [e]
  generalize s.data.toList = l at hz
  rcases Nat.lt_or_ge 2000 l.length with h | h
  · exact covers_long l w hE h
  · cases hx : lex l 0 with
    | bad x k => exact covers_bad l w hE h x k (lex_codes hx) hx
    | ok T => exact covers_ok l w hE h T hx (lex_small l 0 T hx).2
end Go.Proofs.YtggjgikpiljoiaaDoor
