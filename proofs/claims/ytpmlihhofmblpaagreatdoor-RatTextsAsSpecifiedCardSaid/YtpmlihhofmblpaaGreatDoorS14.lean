/- The reference: Parse. -/
import Derived.Test.YtpmlihhofmblpaaGreatDoorS13
import Derived.Deep.DeepCutAuto
namespace Go.Proofs.YtpmlihhofmblpaaGreatDoor
open Go.RowKit Hm Wm Wn

theorem size_string : (Tryz.prog.info? 9).map (·.size) = some 1 := by kernel_rfl
theorem zero_rivermarkref04_Made : (Tryz.prog.info? 72).map (·.zero) = some (some (.agg #[.string ByteArray.empty, .int .i64 0])) := by kernel_rfl
theorem size_rivermarkref04_Made : (Tryz.prog.info? 72).map (·.size) = some 2 := by kernel_rfl
theorem fa_rivermarkref04_Made_0_0 (g : Nat) (W : World) : (Instr.fieldAt 72 (.pointer (some ⟨g, 0, none⟩)) 0).run Tryz.prog W = .ok (.pointer (some ⟨g, 0, none⟩)) W := by kernel_rfl
theorem exec_slice_lo {oi : Oper} {a : Act} {w : World} (ty : TypeId) (x y : Operand) (ho : oi.op = .slice ty x (some y) none none) (p q v : Value) (hx : a.eval x = p) (hy : a.eval y = q) (hl : (Instr.sliceAt ty p (some q) none none).run Tryz.prog w = .ok v w) : (execOp a.eval oi).run Tryz.prog w = .ok (.value v) w := by
  subst hx hy
  simp [execOp, ho, hl]
theorem rpV_pn (l : List UInt8) : rpV l = .agg #[.string (pn l), .int .i64 (pe l)] := by
  unfold rpV pn pe mdV
  split
  · rfl
  · rw [c0]
theorem sl_zero (l : List UInt8) : slL (47 :: l) = 0 := by unfold slL; rw [List.takeWhile_cons, if_neg (by decide)]; rfl
theorem sl_succ {c : UInt8} (l : List UInt8) (hc : c ≠ 47) : slL (c :: l) = slL l + 1 := by unfold slL; rw [List.takeWhile_cons, if_pos (show (c != 47) = true from bne_iff_ne.2 hc)]; rfl
theorem sl_cut : ∀ l : List UInt8, (slL l < l.length ∧ ∃ p, (47 : UInt8) ∉ p ∧ p.length = slL l ∧ l = p ++ 47 :: l.drop (slL l + 1)) ∨ (slL l = l.length ∧ (47 : UInt8) ∉ l)
  | [] => .inr ⟨rfl, by simp⟩
  | c :: l => by
    by_cases hc : c = 47
    · subst hc
      rw [sl_zero]
      exact .inl ⟨by simp, [], by simp, rfl, rfl⟩
    · have hb : (47 : UInt8) ≠ c := fun e => hc e.symm
      rw [sl_succ l hc]
      have key : ∀ m : List UInt8, (47 : UInt8) ∉ m → (47 : UInt8) ∉ c :: m := fun m hm e => by
        rcases List.mem_cons.1 e with e | e
        · exact hb e
        · exact hm e
      rcases sl_cut l with ⟨h1, p, h2, h3, h4⟩ | ⟨h1, h2⟩
      · refine .inl ⟨by simpa using h1, c :: p, key p h2, by simp [h3], ?_⟩
        rw [List.drop_succ_cons, List.cons_append, ← h4]
      · exact .inr ⟨by simpa using h1, key l h2⟩
theorem sl_le (l : List UInt8) : slL l ≤ l.length := by
  rcases sl_cut l with h | h
  · exact Nat.le_of_lt h.1
  · exact Nat.le_of_eq h.1
theorem sl_yes {l : List UInt8} (h : slL l < l.length) : Lib.cut l [47] = (l.take (slL l), l.drop (slL l + 1), true) := by
  rcases sl_cut l with ⟨_, p, h2, h3, h4⟩ | ⟨h1, _⟩
  · have e := congrArg (List.take p.length) h4
    rw [List.take_left, h3] at e
    have h5 := cut_at (r := l.drop (slL l + 1)) h2
    rw [← h4] at h5
    rw [h5, e]
  · omega
theorem sl_no {l : List UInt8} (h : slL l = l.length) : Lib.cut l [47] = (l, [], false) := by
  rcases sl_cut l with ⟨h1, _⟩ | ⟨_, h2⟩
  · omega
  · exact cut_no h2
theorem m5s_zero : (Tryz.prog.info? 32).map (·.zero) = some (some (.agg ([.bool false, .string ⟨#[]⟩, .string ⟨#[]⟩, .int .i64 0] : List Value).toArray)) := by kernel_rfl
theorem m5s_size : (Tryz.prog.info? 32).map (·.size) = some 4 := by kernel_rfl
theorem wpList_callF {ops : Array Oper} {rest : List Oper} {o : Oper} {a : Act} {w : World} {Q : Exit → Act → World → Prop} (d : Tmp) (hd : o.dst = some d) (hw : Region.wanted o (yielded ops a.tmps) = true) {F : FuncId} {xs : Array Operand} {ts : Array TypeId} (ho : o.op = .call { callee := .value (.func F), args := xs, argTypes := ts })
    {fn : Func} (hf : Tryz.prog.funcs[F]? = some fn) (hn : (fn.name == "runtime.NumGoroutine") = false) (hb : fn.body.isNone = false) (vs : Array Value) (hvs : xs.toList.map a.eval = vs.toList) {R : Ending → World → Prop} (hc : Calls Tryz.prog F vs w R)
    (h : ∀ e w', R e w' → ∃ v, e = .returned v ∧ wpList Tryz.prog ops Q rest (a.put (some d) v) w') : wpList Tryz.prog ops Q (o :: rest) a w :=
  wpList_want hw fun K hK => wp_call_fn ho hf hn hb vs hvs hc fun e w' he => by
    obtain ⟨v, h1, h2⟩ := h e w' he
    rw [← hd] at h2
    exact ⟨v, h1, hK _ _ h2⟩
set_option maxRecDepth 100000 in
set_option maxHeartbeats 800000 in
theorem rparse5_long (s : ByteArray) (w : World) (hs : 400 < s.size) : Calls Tryz.prog 9 #[.string s] w fun e w' => e = .returned (mk5 zR 2) ∧ Below w.heap.size w w' := by
  obtain ⟨W1, hW1⟩ : ∃ W, W = w.alloc (.cells #[.bool false, .string ⟨#[]⟩, .string ⟨#[]⟩, .int .i64 0] 32) := ⟨_, rfl⟩
  have hb1 := (Below.refl w.heap.size w).alloc (Nat.le_refl _) (.cells #[.bool false, .string ⟨#[]⟩, .string ⟨#[]⟩, .int .i64 0] 32)
  have hz1 := Blk.new w 32 [.bool false, .string ⟨#[]⟩, .string ⟨#[]⟩, .int .i64 0]
  have HZ : Hid (Blk W1 w.heap.size 32 [.bool false, .string ⟨#[]⟩, .string ⟨#[]⟩, .int .i64 0]) := Lib.hid (by rw [hW1]; exact hz1)
  have HW : Hid (Below w.heap.size w W1) := Lib.hid (by rw [hW1]; exact hb1)
  have hs1 : W1.heap.size = w.heap.size + 1 := by rw [hW1]; simp
  have HS1 := Lib.hid hs1
  have c1 : decide (400 < s.size) = true := decide_eq_true hs
  have c2 : decide ((400 : Int) < (s.size : Int)) = true := decide_eq_true (by omega)
  have hbd : ∀ W, (Instr.build 32 #[(1, .int .i64 2)]).run Tryz.prog W = .ok (.agg #[.bool false, .string ⟨#[]⟩, .string ⟨#[]⟩, .int .i64 2]) W := fun W => by kernel_rfl
  have HBD := Lib.hid hbd
  clear hs hbd hb1 hz1 hs1
  go_enter Tryz.func9, Tryz.ntmps9
  go_upto_region 2 with fail
  rw [← hW1]
  clear hW1
  go_wp2_with (first | (refine wpList_dst 12 rfl ?_; refine wpList_run 12 rfl rfl _ (exec_build1 32 1 (.const (.int .i64 2)) rfl (.int .i64 2) _ rfl (HBD.out _)) ?_; go_frame) | (refine wpList_store_all rfl 32 (.tmp 2) (.tmp 12) rfl (w.heap.size) _ [.bool false, .string ⟨#[]⟩, .string ⟨#[]⟩, .int .i64 0] [.bool false, .string ⟨#[]⟩, .string ⟨#[]⟩, .int .i64 2] rfl rfl HZ.out rfl m5s_size (List.forall_mem_cons.2 ⟨rfl, (List.forall_mem_cons.2 ⟨rfl, (List.forall_mem_cons.2 ⟨rfl, (List.forall_mem_cons.2 ⟨rfl, fun _ h => nomatch h⟩)⟩)⟩)⟩) ?_; intro w9 HK9 ho9; have HO9 := Lib.hid ho9; clear ho9))
  exact bodyPost_ret (results_blk rfl _ _ (w.heap.size) _ [.bool false, .string ⟨#[]⟩, .string ⟨#[]⟩, .int .i64 2] _ rfl HK9.out Tryz.underlying32 rfl m5s_size) rfl ⟨rfl, HW.out.trans (HO9.out.below (by omega))⟩
set_option maxRecDepth 100000 in
set_option maxHeartbeats 800000 in
theorem rparse5_walk (s : ByteArray) (l R P Q : List UInt8) (k : Nat) (b B z v u : Bool) (N D T : ByteArray) (e1 e2 er : Int) (A r : Rv) (w : World) (hs : s = sb l) (hl : l.length ≤ 400)
    (hneg : (b = true ∧ l = 45 :: R) ∨ (b = false ∧ R = l ∧ (l = [] ∨ ∃ c q, l = c :: q ∧ c ≠ 45)))
    (hk : k ≤ R.length) (hkk : slL R = k) (hB : decide (k < R.length) = B) (hP : R.take k = P) (hQ : B = true → R.drop (k + 1) = Q) (hD : B = false → D = ⟨#[1]⟩)
    (hz : decide (N = ⟨#[]⟩) = z) (hA : A = if z = true then zR else ⟨b, N, D⟩)
    (hu : decide (T ≠ s) = u) (hr : (v = true ∧ u = false ∧ r = A ∧ er = 0) ∨ ((v = false ∨ (v = true ∧ u = true)) ∧ r = zR ∧ er = 27))
    (h30 : (∀ W, Calls Tryz.prog 39 #[.string (sb P)] W fun e w' => e = .returned (.agg #[.string N, .int .i64 e1]) ∧ Below W.heap.size W w')) (h43 : B = true → (∀ W, Calls Tryz.prog 39 #[.string (sb Q)] W fun e w' => e = .returned (.agg #[.string D, .int .i64 e2]) ∧ Below W.heap.size W w'))
    (h52 : (∀ W, Calls Tryz.prog 40 #[rv A] W fun e w' => e = .returned (.bool v) ∧ Below W.heap.size W w')) (h57 : (∀ W, Calls Tryz.prog 7 #[rv A] W fun e w' => e = .returned (.string T) ∧ Below W.heap.size W w')) : Calls Tryz.prog 9 #[.string s] w fun e w' => e = .returned (mk5 r er) ∧ Below w.heap.size w w' := by
  obtain ⟨W1, hW1⟩ : ∃ W, W = w.alloc (.cells #[.bool false, .string ⟨#[]⟩, .string ⟨#[]⟩, .int .i64 0] 32) := ⟨_, rfl⟩
  have hb1 := (Below.refl w.heap.size w).alloc (Nat.le_refl _) (.cells #[.bool false, .string ⟨#[]⟩, .string ⟨#[]⟩, .int .i64 0] 32)
  have hz1 := Blk.new w 32 [.bool false, .string ⟨#[]⟩, .string ⟨#[]⟩, .int .i64 0]
  have HZ : Hid (Blk W1 w.heap.size 32 [.bool false, .string ⟨#[]⟩, .string ⟨#[]⟩, .int .i64 0]) := Lib.hid (by rw [hW1]; exact hz1)
  have HW : Hid (Below w.heap.size w W1) := Lib.hid (by rw [hW1]; exact hb1)
  have hs1 : W1.heap.size = w.heap.size + 1 := by rw [hW1]; simp
  have HS1 := Lib.hid hs1
  have hsz : s.size = l.length := by rw [hs, sb_size]
  have hRl : R.length ≤ 400 := by
    rcases hneg with ⟨_, h⟩ | ⟨_, h, _⟩
    · rw [h] at hl; simp at hl; omega
    · rw [h]; exact hl
  have c1 : decide (400 < s.size) = false := decide_eq_false (by omega)
  have c2 : decide ((400 : Int) < (s.size : Int)) = false := decide_eq_false (by omega)
  have hbd : ∀ W, (Instr.build 32 #[(1, .int .i64 27)]).run Tryz.prog W = .ok (.agg #[.bool false, .string ⟨#[]⟩, .string ⟨#[]⟩, .int .i64 27]) W := fun W => by kernel_rfl
  have HBD := Lib.hid hbd
  have HS := Lib.hid hs
  have HNEG := Lib.hid hneg
  have HKK := Lib.hid hkk
  have HP := Lib.hid hP
  have HQ := Lib.hid hQ
  have HD := Lib.hid hD
  have HZN := Lib.hid hz
  have HAA := Lib.hid hA
  have HU := Lib.hid hu
  have HR := Lib.hid hr
  have F30 := Lib.hid h30
  have F43 := Lib.hid h43
  have F26 := Lib.hid (fun W => by have h6 := rslash_any R W (by omega); rw [hkk] at h6; exact h6 : ∀ W, Calls Tryz.prog 38 #[.string (sb R)] W fun e w' => e = .returned (.int .i64 (k : Nat)) ∧ w' = W)
  have HLT := Lib.hid (fun e => by rw [e] at hB; exact of_decide_eq_true hB : B = true → k + 1 ≤ R.length)
  replace hB : decide ((k : Int) < (((sb R).size : Nat) : Int)) = B := by rw [sb_size, ← hB]; simp
  have HB := Lib.hid hB
  have F52 := Lib.hid h52
  have F57 := Lib.hid h57
  clear hs hneg hkk hB hP hQ hD hz hA hu hr h30 h43 h52 h57 hbd hb1 hz1 hsz hs1
  go_enter Tryz.func9, Tryz.ntmps9
  go_upto_region 4 with fail
  rw [← hW1]
  clear hW1
  go_upto_region 5 with (first | (refine wpList_dst 14 rfl ?_; refine wpList_run 14 rfl rfl _ (exec_build0 26 rfl _ (qr_nil _)) ?_; go_frame) | (refine wpList_var rfl rfl 26 4 rfl rfl rfl (.tmp 14) rfl [.bool false, .string ByteArray.empty, .string ByteArray.empty] [.bool false, .string ⟨#[]⟩, .string ⟨#[]⟩] zero_api_Rat rfl rfl rfl qr_size (List.forall_mem_cons.2 ⟨rfl, (List.forall_mem_cons.2 ⟨rfl, (List.forall_mem_cons.2 ⟨rfl, fun _ h => nomatch h⟩)⟩)⟩) ?_; intro w2 HA HBw; rw [HS1.out] at HA ⊢; replace HZ := Lib.hid (HZ.out.next HBw.out); replace HW := Lib.hid (HW.out.trans ((HBw.out).mono HW.out.size)); clear HBw))
  go_frame
  go_cut [21] (fun c wx => c = .bool b ∧ wx = w2)
  case first =>
    rcases HNEG.out with ⟨hb, h⟩ | ⟨hb, _, h⟩
    · subst hb
      obtain ⟨c, hc⟩ : ∃ c : UInt8, c = 45 := ⟨_, rfl⟩
      rw [← hc] at h
      rw [h] at HS
      have HE := Lib.hid (show decide (s ≠ ⟨#[]⟩) = true from decide_eq_true (fun e => by have h2 := HS.out; rw [e] at h2; have h3 := congrArg ByteArray.size h2; rw [sb_size] at h3; cases h3))
      have HQ5 := Lib.hid (show ∀ W, (binOp .eql 5 (.int .u8 (c.toNat : Int)) (.int .u8 45)).run Tryz.prog W = .ok (.bool true) W from fun W => by rw [hc]; kernel_rfl)
      clear hc h
      go_wp2_with (first | (refine wpList_dst 16 rfl ?_; refine wpList_run 16 rfl rfl _ (exec_bin .neq 9 _ (.tmp 15) (.const (.string ⟨#[]⟩)) rfl _ _ _ rfl rfl rfl (run_neqS s ⟨#[]⟩ true HE.out _)) ?_; go_frame) | (refine wpList_dst 19 rfl ?_; refine wpList_runG 19 rfl rfl _ (exec_indexS0 (.tmp 18) (.const (.int .i64 0)) rfl s c (by rw [HS.out, sb_list]; rfl) rfl rfl) ?_; go_frame) | (refine wpList_dst 20 rfl ?_; refine wpList_runG 20 rfl rfl _ (exec_bin .eql 5 _ (.tmp 19) (.const (.int .u8 45)) rfl _ _ _ rfl rfl rfl (HQ5.out _)) ?_; go_frame))
      go_meet
      exact ⟨rfl, rfl⟩
    · subst hb
      rcases h with h | ⟨c, q, h, hc⟩
      · have HE := Lib.hid (show decide (s ≠ ⟨#[]⟩) = false from decide_eq_false (fun e => e (by rw [HS.out, h]; rfl)))
        clear h
        go_wp2_with (first | (refine wpList_dst 16 rfl ?_; refine wpList_run 16 rfl rfl _ (exec_bin .neq 9 _ (.tmp 15) (.const (.string ⟨#[]⟩)) rfl _ _ _ rfl rfl rfl (run_neqS s ⟨#[]⟩ false HE.out _)) ?_; go_frame))
        go_meet
        exact ⟨rfl, rfl⟩
      · rw [h] at HS
        have HE := Lib.hid (show decide (s ≠ ⟨#[]⟩) = true from decide_eq_true (fun e => by have h2 := HS.out; rw [e] at h2; have h3 := congrArg ByteArray.size h2; rw [sb_size] at h3; cases h3))
        have HQ5 := Lib.hid (show ∀ W, (binOp .eql 5 (.int .u8 (c.toNat : Int)) (.int .u8 45)).run Tryz.prog W = .ok (.bool false) W from fun W => by
          have hn : ((c.toNat : Int) == 45) = false := beq_eq_false_iff_ne.2 (fun e => hc (UInt8.toNat_inj.1 (by show c.toNat = 45; omega)))
          simp [binOp, hn, go_sem])
        clear hc h
        go_wp2_with (first | (refine wpList_dst 16 rfl ?_; refine wpList_run 16 rfl rfl _ (exec_bin .neq 9 _ (.tmp 15) (.const (.string ⟨#[]⟩)) rfl _ _ _ rfl rfl rfl (run_neqS s ⟨#[]⟩ true HE.out _)) ?_; go_frame) | (refine wpList_dst 19 rfl ?_; refine wpList_runG 19 rfl rfl _ (exec_indexS0 (.tmp 18) (.const (.int .i64 0)) rfl s c (by rw [HS.out, sb_list]; rfl) rfl rfl) ?_; go_frame) | (refine wpList_dst 20 rfl ?_; refine wpList_runG 20 rfl rfl _ (exec_bin .eql 5 _ (.tmp 19) (.const (.int .u8 45)) rfl _ _ _ rfl rfl rfl (HQ5.out _)) ?_; go_frame))
        go_meet
        exact ⟨rfl, rfl⟩
  case rest =>
    obtain ⟨rfl, rfl⟩ := hcut
    go_upto_if 21 with fail
    go_cut [3] (fun s3 wx => s3 = .string (sb R) ∧ Hid (Blk wx (w.heap.size + 1) 26 [.bool b, .string ⟨#[]⟩, .string ⟨#[]⟩]) ∧ Hid (Blk wx w.heap.size 32 [.bool false, .string ⟨#[]⟩, .string ⟨#[]⟩, .int .i64 0]) ∧ Hid (Below w.heap.size w wx))
    case first =>
      rcases HNEG.out with ⟨hb, h⟩ | ⟨hb, h, _⟩
      · subst hb
        have H45 := Lib.hid h
        clear h
        go_wp2_with (first | (refine wpList_dst 22 rfl ?_; refine wpList_run 22 rfl rfl _ (exec_fieldAddr 26 (.tmp 4) 0 rfl _ _ rfl (fa_api_Rat_0_0 _ _)) ?_; go_frame) | (refine wpList_store_at rfl 4 (.tmp 22) (.const (.bool true)) rfl (w.heap.size + 1) 0 _ [.bool false, .string ⟨#[]⟩, .string ⟨#[]⟩] (.bool true) rfl rfl HA.out (by simp) size_bool rfl rfl ?_; intro w8 HA8 ho8; replace HZ := Lib.hid (ho8.blk HZ.out (by omega)); replace HW := Lib.hid (HW.out.trans (ho8.below (by omega))); clear ho8; replace HA := HA8; clear HA8) | (refine wpList_dst 24 rfl ?_; refine wpList_run 24 rfl rfl _ (exec_slice_lo 9 (.tmp 23) (.const (.int .i64 1)) rfl _ _ (.string (sb R)) rfl rfl (by rw [HS.out, H45.out]; exact run_str_lo _ (45 :: R) 1 (by simp))) ?_; go_frame))
        go_meet
        exact ⟨rfl, HA, HZ, HW⟩
      · subst hb
        have H45 := Lib.hid h
        clear h
        go_wp2_with fail
        go_meet
        exact ⟨by rw [HS.out, H45.out], HA, HZ, HW⟩
    case rest =>
      clear HA HZ HW
      obtain ⟨rfl, HA, HZ, HW⟩ := hcut
      go_wp2_with fail
      refine (F26.out _).mono ?_
      rintro e w3 ⟨rfl, rfl⟩
      go_wp2_with (first | (refine wpList_dst 29 rfl ?_; refine wpList_run 29 rfl rfl _ (exec_slice_hi 9 (.tmp 27) (.tmp 28) rfl (.string (sb R)) (.int .i64 k) (.string (sb P)) rfl rfl (by rw [← HP.out]; exact run_str_hi _ R k hk)) ?_; go_frame))
      refine (F30.out _).mono ?_
      rintro e w4 ⟨rfl, hb⟩
      replace HA := Lib.hid (HA.out.next hb); replace HZ := Lib.hid (HZ.out.next hb); replace HW := Lib.hid (HW.out.trans ((hb).mono HW.out.size))
      clear hb
      go_upto_if 38 with (first | (refine wpList_var rfl rfl 72 6 rfl rfl rfl (.tmp 30) rfl [.string ByteArray.empty, .int .i64 0] [.string N, .int .i64 e1] zero_rivermarkref04_Made rfl rfl rfl size_rivermarkref04_Made (List.forall_mem_cons.2 ⟨rfl, (List.forall_mem_cons.2 ⟨rfl, fun _ h => nomatch h⟩)⟩) ?_; intro w6 HM6 HBw; replace HA := Lib.hid (HA.out.next HBw.out); replace HZ := Lib.hid (HZ.out.next HBw.out); replace HW := Lib.hid (HW.out.trans ((HBw.out).mono HW.out.size)); clear HBw) | (refine wpList_dst 31 rfl ?_; refine wpList_run 31 rfl rfl _ (exec_fieldAddr 72 (.tmp 6) 0 rfl _ _ rfl (fa_rivermarkref04_Made_0_0 _ _)) ?_; go_frame) | (refine wpList_dst 32 rfl ?_; refine wpList_run 32 rfl rfl _ (exec_load 9 (.tmp 31) rfl _ _ rfl (run_load_cell flat_string (HM6.out.cell 0))) ?_; go_frame) | (refine wpList_dst 33 rfl ?_; refine wpList_run 33 rfl rfl _ (exec_fieldAddr 26 (.tmp 4) 1 rfl _ _ rfl (fa_api_Rat_1_0 _ _)) ?_; go_frame) | (refine wpList_store_at rfl 9 (.tmp 33) (.tmp 32) rfl (w.heap.size + 1) 1 _ [.bool b, .string ⟨#[]⟩, .string ⟨#[]⟩] (.string N) rfl rfl HA.out (by simp) size_string rfl rfl ?_; intro w8 HA8 ho8; replace HZ := Lib.hid (ho8.blk HZ.out (by omega)); replace HW := Lib.hid (HW.out.trans (ho8.below (by omega))); clear ho8; replace HA := HA8; clear HA8) | (refine wpList_dst 34 rfl ?_; refine wpList_run 34 rfl rfl _ (exec_fieldAddr 26 (.tmp 4) 2 rfl _ _ rfl (fa_api_Rat_2_0 _ _)) ?_; go_frame) | (refine wpList_store_at rfl 9 (.tmp 34) (.const (.string ⟨#[1]⟩)) rfl (w.heap.size + 1) 2 _ [.bool b, .string N, .string ⟨#[]⟩] (.string ⟨#[1]⟩) rfl rfl HA.out (by simp) size_string rfl rfl ?_; intro w8 HA8 ho8; replace HZ := Lib.hid (ho8.blk HZ.out (by omega)); replace HW := Lib.hid (HW.out.trans (ho8.below (by omega))); clear ho8; replace HA := HA8; clear HA8) | (refine wpList_dst 38 rfl ?_; refine wpList_run 38 rfl rfl _ (exec_lssI' _ _ _ _ rfl .i64 (k : Nat) (((sb R).size : Nat) : Int) B HB.out rfl rfl) ?_; go_frame))
      go_cut [] (fun wx => Hid (Blk wx (w.heap.size + 1) 26 [.bool b, .string N, .string D]) ∧ Hid (Blk wx w.heap.size 32 [.bool false, .string ⟨#[]⟩, .string ⟨#[]⟩, .int .i64 0]) ∧ Hid (Below w.heap.size w wx))
      case first =>
        cases B with
        | true =>
          have hd43 := F43.out rfl
          have G43 := Lib.hid hd43
          have hq := HQ.out rfl
          have HQQ := Lib.hid hq
          clear hd43 hq
          go_wp2_with (first | (refine wpList_dst 42 rfl ?_; refine wpList_run 42 rfl rfl _ (exec_slice_lo 9 (.tmp 39) (.tmp 41) rfl (.string (sb R)) (.int .i64 ((k : Int) + 1)) (.string (sb Q)) rfl rfl (by rw [← HQQ.out]; exact run_str_lo _ R (k + 1) (HLT.out rfl))) ?_; go_frame))
          refine (G43.out _).mono ?_
          rintro e w5 ⟨rfl, hb⟩
          replace HA := Lib.hid (HA.out.next hb); replace HZ := Lib.hid (HZ.out.next hb); replace HW := Lib.hid (HW.out.trans ((hb).mono HW.out.size))
          clear hb
          go_wp2_with (first | (refine wpList_var rfl rfl 72 7 rfl rfl rfl (.tmp 43) rfl [.string ByteArray.empty, .int .i64 0] [.string D, .int .i64 e2] zero_rivermarkref04_Made rfl rfl rfl size_rivermarkref04_Made (List.forall_mem_cons.2 ⟨rfl, (List.forall_mem_cons.2 ⟨rfl, fun _ h => nomatch h⟩)⟩) ?_; intro w7 HM7 HBw; replace HA := Lib.hid (HA.out.next HBw.out); replace HZ := Lib.hid (HZ.out.next HBw.out); replace HW := Lib.hid (HW.out.trans ((HBw.out).mono HW.out.size)); clear HBw) | (refine wpList_dst 44 rfl ?_; refine wpList_run 44 rfl rfl _ (exec_fieldAddr 72 (.tmp 7) 0 rfl _ _ rfl (fa_rivermarkref04_Made_0_0 _ _)) ?_; go_frame) | (refine wpList_dst 45 rfl ?_; refine wpList_run 45 rfl rfl _ (exec_load 9 (.tmp 44) rfl _ _ rfl (run_load_cell flat_string (HM7.out.cell 0))) ?_; go_frame) | (refine wpList_dst 46 rfl ?_; refine wpList_run 46 rfl rfl _ (exec_fieldAddr 26 (.tmp 4) 2 rfl _ _ rfl (fa_api_Rat_2_0 _ _)) ?_; go_frame) | (refine wpList_store_at rfl 9 (.tmp 46) (.tmp 45) rfl (w.heap.size + 1) 2 _ [.bool b, .string N, .string ⟨#[1]⟩] (.string D) rfl rfl HA.out (by simp) size_string rfl rfl ?_; intro w8 HA8 ho8; replace HZ := Lib.hid (ho8.blk HZ.out (by omega)); replace HW := Lib.hid (HW.out.trans (ho8.below (by omega))); clear ho8; replace HA := HA8; clear HA8))
          go_meet
          exact ⟨HA, HZ, HW⟩
        | false =>
          have hd := HD.out rfl
          subst hd
          go_wp2_with fail
          go_meet
          exact ⟨HA, HZ, HW⟩
      case rest =>
        clear HA HZ HW
        obtain ⟨HA, HZ, HW⟩ := hcut
        go_upto_if 49 with (first | (refine wpList_dst 47 rfl ?_; refine wpList_run 47 rfl rfl _ (exec_fieldAddr 26 (.tmp 4) 1 rfl _ _ rfl (fa_api_Rat_1_0 _ _)) ?_; go_frame) | (refine wpList_dst 48 rfl ?_; refine wpList_run 48 rfl rfl _ (exec_load 9 (.tmp 47) rfl _ _ rfl (run_load_cell flat_string (HA.out.cell 1))) ?_; go_frame) | (refine wpList_dst 49 rfl ?_; refine wpList_run 49 rfl rfl _ (exec_bin .eql 9 _ (.tmp 48) (.const (.string ⟨#[]⟩)) rfl _ _ _ rfl rfl rfl (run_eqS N ⟨#[]⟩ z HZN.out _)) ?_; go_frame))
        go_cut [] (fun wx => Hid (Blk wx (w.heap.size + 1) 26 [.bool A.neg, .string A.n, .string A.d]) ∧ Hid (Blk wx w.heap.size 32 [.bool false, .string ⟨#[]⟩, .string ⟨#[]⟩, .int .i64 0]) ∧ Hid (Below w.heap.size w wx))
        case first =>
          cases z with
          | true =>
            go_wp2_with (first | (refine wpList_dst 50 rfl ?_; refine wpList_run 50 rfl rfl _ (exec_build0 26 rfl _ (qr_nil _)) ?_; go_frame) | (refine wpList_store_all rfl 26 (.tmp 4) (.tmp 50) rfl (w.heap.size + 1) _ [.bool b, .string N, .string D] [.bool false, .string ⟨#[]⟩, .string ⟨#[]⟩] rfl rfl HA.out rfl qr_size (List.forall_mem_cons.2 ⟨rfl, (List.forall_mem_cons.2 ⟨rfl, (List.forall_mem_cons.2 ⟨rfl, fun _ h => nomatch h⟩)⟩)⟩) ?_; intro w9 HK9 ho9; replace HZ := Lib.hid (ho9.blk HZ.out (by omega)); replace HW := Lib.hid (HW.out.trans (ho9.below (by omega))); clear ho9))
            go_meet
            exact ⟨by rw [HAA.out]; exact HK9, HZ, HW⟩
          | false =>
            go_wp2_with fail
            go_meet
            exact ⟨by rw [HAA.out]; exact HA, HZ, HW⟩
        case rest =>
          clear HA HZ HW
          obtain ⟨HA, HZ, HW⟩ := hcut
          go_wp2_with (first | (refine wpList_dst 51 rfl ?_; refine wpList_run 51 rfl rfl _ (exec_load 26 (.tmp 4) rfl _ (rv A) rfl (run_load_part _ 26 _ 0 3 _ [.bool A.neg, .string A.n, .string A.d] _ HA.out (by simp) Tryz.underlying26 rfl qr_size)) ?_; go_frame))
          refine (F52.out _).mono ?_
          rintro e w6 ⟨rfl, hb⟩
          replace HA := Lib.hid (HA.out.next hb); replace HZ := Lib.hid (HZ.out.next hb); replace HW := Lib.hid (HW.out.trans ((hb).mono HW.out.size))
          clear hb
          rcases HR.out with ⟨hv, hu2, hr1, he⟩ | ⟨h, hr1, he⟩
          · subst hv hu2 hr1 he
            go_upto_region 18 with fail
            refine wp_region_lit ?_
            refine wpList_run 53 rfl rfl (.bool true) (exec_move (.tmp 8) rfl _ rfl) ?_
            go_frame
            refine wpList_run 54 rfl rfl (.bool false) (exec_not _ _ rfl true rfl) ?_
            go_frame
            refine wpList_run 55 rfl rfl (.bool false) (exec_move (.tmp 54) rfl _ rfl) ?_
            go_frame
            refine wpList_runG 56 rfl (by first | rfl | kernel_rfl) (rv r) (exec_load 26 (.tmp 4) rfl _ (rv r) rfl (run_load_part _ 26 _ 0 3 _ [.bool r.neg, .string r.n, .string r.d] _ HA.out (by simp) Tryz.underlying26 rfl qr_size)) ?_
            go_frame
            refine wpList_callF 57 rfl (by first | rfl | kernel_rfl) rfl Tryz.func7 (by kernel_rfl) (by kernel_rfl) #[rv r] rfl (F57.out _) ?_
            rintro e wz ⟨rfl, hb⟩
            replace HA := Lib.hid (HA.out.next hb)
            replace HZ := Lib.hid (HZ.out.next hb)
            replace HW := Lib.hid (HW.out.trans (hb.mono HW.out.size))
            clear hb
            refine ⟨_, rfl, ?_⟩
            go_frame
            refine wpList_runG 58 rfl (by first | rfl | kernel_rfl) (.string s) (exec_move (.tmp 0) rfl _ rfl) ?_
            go_frame
            refine wpList_runG 59 rfl (by first | rfl | kernel_rfl) (.bool false) (exec_bin .neq 9 _ (.tmp 57) (.tmp 58) rfl _ _ _ rfl rfl rfl (run_neqS T s false HU.out _)) ?_
            go_frame
            refine wpList_run 60 rfl rfl (.bool false) (exec_pickF _ _ _ rfl (.bool false) rfl rfl) ?_
            go_frame
            refine wpList_nil ?_
            go_wp2_with (first | (refine wpList_dst 62 rfl ?_; refine wpList_run 62 rfl rfl _ (exec_load 26 (.tmp 4) rfl _ (rv r) rfl (run_load_part _ 26 _ 0 3 _ [.bool r.neg, .string r.n, .string r.d] _ HA.out (by simp) Tryz.underlying26 rfl qr_size)) ?_; go_frame) | (refine wpList_dst 63 rfl ?_; refine wpList_run 63 rfl rfl _ (exec_build1 32 0 (.tmp 62) rfl _ _ rfl (m5_ok _ _ _ _)) ?_; go_frame) | (refine wpList_store_all rfl 32 (.tmp 2) (.tmp 63) rfl (w.heap.size) _ [.bool false, .string ⟨#[]⟩, .string ⟨#[]⟩, .int .i64 0] [.bool r.neg, .string r.n, .string r.d, .int .i64 0] rfl rfl HZ.out rfl m5s_size (List.forall_mem_cons.2 ⟨rfl, (List.forall_mem_cons.2 ⟨rfl, (List.forall_mem_cons.2 ⟨rfl, (List.forall_mem_cons.2 ⟨rfl, fun _ h => nomatch h⟩)⟩)⟩)⟩) ?_; intro w9 HK9 ho9; have HO9 := Lib.hid ho9; clear ho9))
            exact bodyPost_ret (results_blk rfl _ _ (w.heap.size) _ [.bool r.neg, .string r.n, .string r.d, .int .i64 0] _ rfl HK9.out Tryz.underlying32 rfl m5s_size) rfl ⟨rfl, HW.out.trans (HO9.out.below (by omega))⟩
          · subst hr1 he
            rcases h with hv | ⟨hv, hu2⟩
            · subst hv
              go_upto_region 18 with fail
              refine wp_region_lit ?_
              refine wpList_run 53 rfl rfl (.bool false) (exec_move (.tmp 8) rfl _ rfl) ?_
              go_frame
              refine wpList_run 54 rfl rfl (.bool true) (exec_not _ _ rfl false rfl) ?_
              go_frame
              refine wpList_runSkip 55 rfl (by first | rfl | kernel_rfl) (.bool true) (exec_move (.tmp 54) rfl _ rfl) 4 [56, 57, 58, 59] (by kernel_rfl) ?_
              simp only [List.drop_succ_cons, List.drop_zero, List.foldl_cons, List.foldl_nil]
              go_frame
              refine wpList_run 60 rfl rfl (.bool true) (exec_pickT _ _ _ rfl (.bool true) rfl rfl) ?_
              go_frame
              refine wpList_nil ?_
              go_wp2_with (first | (refine wpList_dst 61 rfl ?_; refine wpList_run 61 rfl rfl _ (exec_build1 32 1 (.const (.int .i64 27)) rfl (.int .i64 27) _ rfl (HBD.out _)) ?_; go_frame) | (refine wpList_store_all rfl 32 (.tmp 2) (.tmp 61) rfl (w.heap.size) _ [.bool false, .string ⟨#[]⟩, .string ⟨#[]⟩, .int .i64 0] [.bool false, .string ⟨#[]⟩, .string ⟨#[]⟩, .int .i64 27] rfl rfl HZ.out rfl m5s_size (List.forall_mem_cons.2 ⟨rfl, (List.forall_mem_cons.2 ⟨rfl, (List.forall_mem_cons.2 ⟨rfl, (List.forall_mem_cons.2 ⟨rfl, fun _ h => nomatch h⟩)⟩)⟩)⟩) ?_; intro w9 HK9 ho9; have HO9 := Lib.hid ho9; clear ho9))
              exact bodyPost_ret (results_blk rfl _ _ (w.heap.size) _ [.bool false, .string ⟨#[]⟩, .string ⟨#[]⟩, .int .i64 27] _ rfl HK9.out Tryz.underlying32 rfl m5s_size) rfl ⟨rfl, HW.out.trans (HO9.out.below (by omega))⟩
            · subst hv hu2
              go_upto_region 18 with fail
              refine wp_region_lit ?_
              refine wpList_run 53 rfl rfl (.bool true) (exec_move (.tmp 8) rfl _ rfl) ?_
              go_frame
              refine wpList_run 54 rfl rfl (.bool false) (exec_not _ _ rfl true rfl) ?_
              go_frame
              refine wpList_run 55 rfl rfl (.bool false) (exec_move (.tmp 54) rfl _ rfl) ?_
              go_frame
              refine wpList_runG 56 rfl (by first | rfl | kernel_rfl) (rv A) (exec_load 26 (.tmp 4) rfl _ (rv A) rfl (run_load_part _ 26 _ 0 3 _ [.bool A.neg, .string A.n, .string A.d] _ HA.out (by simp) Tryz.underlying26 rfl qr_size)) ?_
              go_frame
              refine wpList_callF 57 rfl (by first | rfl | kernel_rfl) rfl Tryz.func7 (by kernel_rfl) (by kernel_rfl) #[rv A] rfl (F57.out _) ?_
              rintro e wz ⟨rfl, hb⟩
              replace HA := Lib.hid (HA.out.next hb)
              replace HZ := Lib.hid (HZ.out.next hb)
              replace HW := Lib.hid (HW.out.trans (hb.mono HW.out.size))
              clear hb
              refine ⟨_, rfl, ?_⟩
              go_frame
              refine wpList_runG 58 rfl (by first | rfl | kernel_rfl) (.string s) (exec_move (.tmp 0) rfl _ rfl) ?_
              go_frame
              refine wpList_runG 59 rfl (by first | rfl | kernel_rfl) (.bool true) (exec_bin .neq 9 _ (.tmp 57) (.tmp 58) rfl _ _ _ rfl rfl rfl (run_neqS T s true HU.out _)) ?_
              go_frame
              refine wpList_run 60 rfl rfl (.bool true) (exec_pickF _ _ _ rfl (.bool true) rfl rfl) ?_
              go_frame
              refine wpList_nil ?_
              go_wp2_with (first | (refine wpList_dst 61 rfl ?_; refine wpList_run 61 rfl rfl _ (exec_build1 32 1 (.const (.int .i64 27)) rfl (.int .i64 27) _ rfl (HBD.out _)) ?_; go_frame) | (refine wpList_store_all rfl 32 (.tmp 2) (.tmp 61) rfl (w.heap.size) _ [.bool false, .string ⟨#[]⟩, .string ⟨#[]⟩, .int .i64 0] [.bool false, .string ⟨#[]⟩, .string ⟨#[]⟩, .int .i64 27] rfl rfl HZ.out rfl m5s_size (List.forall_mem_cons.2 ⟨rfl, (List.forall_mem_cons.2 ⟨rfl, (List.forall_mem_cons.2 ⟨rfl, (List.forall_mem_cons.2 ⟨rfl, fun _ h => nomatch h⟩)⟩)⟩)⟩) ?_; intro w9 HK9 ho9; have HO9 := Lib.hid ho9; clear ho9))
              exact bodyPost_ret (results_blk rfl _ _ (w.heap.size) _ [.bool false, .string ⟨#[]⟩, .string ⟨#[]⟩, .int .i64 27] _ rfl HK9.out Tryz.underlying32 rfl m5s_size) rfl ⟨rfl, HW.out.trans (HO9.out.below (by omega))⟩
end Go.Proofs.YtpmlihhofmblpaaGreatDoor
