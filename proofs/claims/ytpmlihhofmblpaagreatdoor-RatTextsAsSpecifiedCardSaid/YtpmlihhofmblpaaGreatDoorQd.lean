/- Text. -/
import Derived.Test.YtpmlihhofmblpaaGreatDoorQc
import Derived.Test.YtpmlihhofmblpaaGreatDoorRb
namespace Go.Proofs.YtpmlihhofmblpaaGreatDoor
open Go.RowKit Hm Wm Wn

theorem fa_rat_fraction_0_0 (g : Nat) (W : World) : (Instr.fieldAt 47 (.pointer (some ⟨g, 0, none⟩)) 0).run Tryz.prog W = .ok (.pointer (some ⟨g, 0, none⟩)) W := by kernel_rfl
theorem flat_bool (W : World) : (isAgg 4).run Tryz.prog W = .ok false W := by kernel_rfl
theorem fa_rat_fraction_2_0 (g : Nat) (W : World) : (Instr.fieldAt 47 (.pointer (some ⟨g, 0, none⟩)) 2).run Tryz.prog W = .ok (.pointer (some ⟨g, 2, none⟩)) W := by kernel_rfl
theorem ndig (s : ByteArray) (k : Nat) (h : s.size ≤ k) : (Lib.decDigits (nB s)).length ≤ 3 * k + 1 := by
  refine ddg_len _ _ (Nat.lt_of_lt_of_le (nB_lt s) ?_)
  have h1 : (256 : Nat) ^ s.size ≤ 1000 ^ s.size := Nat.pow_le_pow_left (by decide) _
  have h2 : (1000 : Nat) ^ s.size = 10 ^ (3 * s.size) := by rw [Nat.pow_mul]
  have h3 : (10 : Nat) ^ (3 * s.size) ≤ 10 ^ (3 * k + 1) := Nat.pow_le_pow_right (by decide) (by omega)
  rw [h2] at h1
  exact Nat.le_trans h1 h3
def JoP (w0 : World) (l : List UInt8) (e : Ending) (w' : World) : Prop := (∃ u, e = .returned u) ∧ Lib.IsBuilder 52 5 w0.heap.size w0.heap.size (bc (l)) w' ∧ Below w0.heap.size w0 w'
set_option maxRecDepth 100000 in
set_option maxHeartbeats 600000 in
theorem join_any (w0 : World) (bs : List UInt8) (s p : ByteArray) (w : World) (hi : Lib.IsBuilder 52 5 w0.heap.size w0.heap.size (bc (bs)) w) (hb : Below w0.heap.size w0 w) (hT : Pow w0) (hl : bs.length + s.size ≤ 1000000) (hp : p.size ≤ 10000) :
    Calls Tryz.prog 27 #[.string s, .string p, .pointer (some ⟨w0.heap.size, 0, none⟩)] w (JoP w0 (bs ++ s.data.toList ++ Lib.decDigits (nB p))) := by
  have HI := Lib.hid hi
  have HB := Lib.hid hb
  have HT := Lib.hid hT
  have HL := Lib.hid hl
  have HD := Lib.hid (ndig p 10000 hp)
  have HP := Lib.hid hp
  clear hi hb hT hl hp
  go_enter Tryz.func27, Tryz.ntmps27
  go_wp2_with fail
  refine (write_any w0.heap.size w0.heap.size (bc bs) s w HI.out HB.out.size (by rw [bc_len]; have := HL.out; omega)).mono ?_
  rintro e w1 ⟨rfl, h1, h2⟩
  have HI1 : Hid (Lib.IsBuilder 52 5 w0.heap.size w0.heap.size (bc (bs ++ s.data.toList)) w1) := Lib.hid (by rw [bc_app]; exact h1)
  have HB1 := Lib.hid (HB.out.trans h2)
  clear h1 h2
  go_wp2_with fail
  refine (textS_any p w1 (by have := HP.out; omega) (HT.out.next HB1.out)).mono ?_
  rintro e w2 ⟨rfl, h2⟩
  have HI2 := Lib.hid (isB_next HI1.out h2)
  have HB2 := Lib.hid (HB1.out.trans (h2.mono HB1.out.size))
  clear h2
  obtain ⟨t, ht⟩ : ∃ t, sb (Lib.decDigits (nB p)) = t := ⟨_, rfl⟩
  have hte : t.data.toList = Lib.decDigits (nB p) := by rw [← ht, sb_list]
  have htz : t.size = (Lib.decDigits (nB p)).length := by rw [← ht, sb_size]
  rw [ht]
  have HTE := Lib.hid hte
  have HTZ := Lib.hid htz
  clear ht hte htz
  go_wp2_with fail
  refine (write_any w0.heap.size w0.heap.size (bc (bs ++ s.data.toList)) t w2 HI2.out HB2.out.size (by rw [bc_len, List.length_append]; have h1 := HL.out; have h2 := HD.out; have h3 := HTZ.out; have h4 : s.data.toList.length = s.size := Array.length_toList; omega)).mono ?_
  rintro e w3 ⟨rfl, h1, h2⟩
  have HI3 : Hid (Lib.IsBuilder 52 5 w0.heap.size w0.heap.size (bc (bs ++ s.data.toList ++ Lib.decDigits (nB p))) w3) := Lib.hid (by rw [bc_app _ (Lib.decDigits (nB p)), ← HTE.out]; exact h1)
  have HB3 := Lib.hid (HB2.out.trans h2)
  clear h1 h2
  go_wp2_with fail
  go_end0
  exact ⟨⟨_, rfl⟩, HI3.out, HB3.out⟩
/-- The text of a number. -/
def txtQ (q : Rat) : List UInt8 := (if q.num < 0 then [45] else []) ++ Lib.decDigits q.num.natAbs ++ (if q.den = 1 then [] else 47 :: Lib.decDigits q.den)
theorem sz_help (a b c : List UInt8) (s : ByteArray) (h1 : a.length ≤ 10) (h2 : b.length ≤ 10) (h3 : c.length ≤ 100000) (h4 : s.size ≤ 10) : (a ++ b ++ c).length + s.size ≤ 1000000 := by
  rw [List.length_append, List.length_append]
  omega
theorem wpList_builder {w : World} {ops : Array Oper} {rest : List Oper} {o : Oper} {a : Act} {Q : Exit → Act → World → Prop} (hgd : o.guard = none) (ho : o.op = .alloc 52)
    (h : ∀ w', Hid (Lib.IsBuilder 52 5 w.heap.size w.heap.size (bc []) w') → Hid (Below w.heap.size w w') → wpList Tryz.prog ops Q rest (a.put o.dst (.pointer (some ⟨w.heap.size, 0, none⟩))) w') : wpList Tryz.prog ops Q (o :: rest) a w :=
  wpList_alloc_zero hgd 52 ho [.pointer none, .slice none 0 0] (by kernel_rfl) (h _ (Lib.hid (Lib.fresh_isBuilder _ _ w)) (Lib.hid ((Below.refl _ _).alloc (Nat.le_refl _) _)))
set_option maxRecDepth 100000 in
set_option maxHeartbeats 800000 in
theorem Text_n1 (x f : Rv) (r : List UInt8) (w : World) (hT : Pow w) (hf : f.neg = true) (ho : decide (f.d ≠ ⟨#[1]⟩) = false) (hn : f.n.size ≤ 10000) (hd : f.d.size ≤ 10000) (hr : ([] ++ (⟨#[45]⟩ : ByteArray).data.toList ++ Lib.decDigits (nB f.n)) = r) (h7 : (∀ W, Calls Tryz.prog 26 #[rv x] W fun e w' => e = .returned (rv f) ∧ Below W.heap.size W w')) : Calls Tryz.prog 6 #[.agg #[.bool x.neg, .string x.n, .string x.d]] w fun e w' => e = .returned (.string (sb r)) ∧ Below w.heap.size w w' := by
  obtain ⟨W1, hW1⟩ : ∃ W, W = w.alloc (.cells #[.bool x.neg, .string x.n, .string x.d] 26) := ⟨_, rfl⟩
  have hb1 := (Below.refl w.heap.size w).alloc (Nat.le_refl _) (.cells #[.bool x.neg, .string x.n, .string x.d] 26)
  have hx1 := Blk.new w 26 [.bool x.neg, .string x.n, .string x.d]
  have HX : Hid (Blk W1 w.heap.size 26 [.bool x.neg, .string x.n, .string x.d]) := Lib.hid (by rw [hW1]; exact hx1)
  have HW : Hid (Below w.heap.size w W1) := Lib.hid (by rw [hW1]; exact hb1)
  have HP := Lib.hid (hT.next HW.out)
  have F7 : Hid (∀ W, Calls Tryz.prog 26 #[rv x] W fun e w' => e = .returned (.agg #[.bool true, .string f.n, .string f.d]) ∧ Below W.heap.size W w') := Lib.hid (by rw [← hf]; exact h7)
  have H21 := Lib.hid (fun W => run_neqQ f.d ⟨#[1]⟩ false ho W)
  have HTXT := Lib.hid hr.symm
  have HFN := Lib.hid hn
  have HFD := Lib.hid hd
  have HDN := Lib.hid (ndig f.n 10000 hn)
  clear hb1 hx1 hT hf ho hn hd hr h7
  go_enter Tryz.func6, Tryz.ntmps6
  go_wp2_with fail
  try rw [← hW1]
  clear hW1
  go_wp2_with (first | (refine wpList_dst 6 rfl ?_; refine wpList_run 6 rfl rfl _ (exec_load 26 (.tmp 1) rfl _ (.agg #[.bool x.neg, .string x.n, .string x.d]) rfl (run_load_part _ 26 _ 0 3 _ [.bool x.neg, .string x.n, .string x.d] _ HX.out (by simp) Tryz.underlying26 rfl size_api_Rat)) ?_; go_frame))
  refine (F7.out _).mono ?_
  rintro e w1 ⟨rfl, hb⟩
  replace HW := Lib.hid (HW.out.trans (hb.mono HW.out.size))
  replace HP := Lib.hid (HP.out.next hb)
  replace HX := Lib.hid (HX.out.next hb)
  clear hb
  go_wp2_with (first | (refine wpList_var rfl rfl 47 3 rfl rfl rfl (.tmp 7) rfl [.bool false, .string ByteArray.empty, .string ByteArray.empty] [.bool true, .string f.n, .string f.d] zero_rat_fraction rfl rfl rfl size_rat_fraction (List.forall_mem_cons.2 ⟨rfl, (List.forall_mem_cons.2 ⟨rfl, (List.forall_mem_cons.2 ⟨rfl, fun _ h => nomatch h⟩)⟩)⟩) ?_; intro w2 HD HBw; replace HW := Lib.hid (HW.out.trans (HBw.out.mono HW.out.size)); replace HP := Lib.hid (HP.out.next HBw.out); replace HX := Lib.hid (HX.out.next HBw.out); clear HBw) | (refine wpList_builder rfl rfl ?_; intro wb HI HBb; have HD0 := HD; replace HD := Lib.hid (HD.out.next HBb.out)) | (refine wpList_dst 9 rfl ?_; refine wpList_run 9 rfl rfl _ (exec_fieldAddr 47 (.tmp 3) 0 rfl _ _ rfl (fa_rat_fraction_0_0 _ _)) ?_; go_frame) | (refine wpList_dst 10 rfl ?_; refine wpList_run 10 rfl rfl _ (exec_load 4 (.tmp 9) rfl _ (.bool true) rfl (run_load_cell flat_bool (HD.out.cell 0))) ?_; go_frame) | (refine wpList_dst 12 rfl ?_; refine wpList_run 12 rfl rfl _ (exec_fieldAddr 47 (.tmp 3) 1 rfl _ _ rfl (fa_rat_fraction_1_0 _ _)) ?_; go_frame) | (refine wpList_dst 13 rfl ?_; refine wpList_run 13 rfl rfl _ (exec_load 9 (.tmp 12) rfl _ (.string f.n) rfl (run_load_cell flat_string (HD.out.cell 1))) ?_; go_frame) | (refine wpList_dst 16 rfl ?_; refine wpList_run 16 rfl rfl _ (exec_fieldAddr 47 (.tmp 3) 1 rfl _ _ rfl (fa_rat_fraction_1_0 _ _)) ?_; go_frame) | (refine wpList_dst 17 rfl ?_; refine wpList_run 17 rfl rfl _ (exec_load 9 (.tmp 16) rfl _ (.string f.n) rfl (run_load_cell flat_string (HD.out.cell 1))) ?_; go_frame))
  refine (join_any w2 [] ⟨#[45]⟩ f.n wb HI.out HBb.out HP.out (by decide) HFN.out).mono ?_
  rintro e wc ⟨⟨v, rfl⟩, h1, h2⟩
  have HI1 := Lib.hid h1
  have HB1 := Lib.hid h2
  replace HD := Lib.hid (HD0.out.below h2 HD0.out.lt)
  clear h1 h2 HI HBb
  go_wp2_with (first | (refine wpList_dst 21 rfl ?_; refine wpList_run 21 rfl rfl _ (exec_bin .neq 9 _ (.tmp 20) (.const (.string ⟨#[1]⟩)) rfl _ _ _ rfl rfl rfl (H21.out _)) ?_; go_frame) | (refine wpList_dst 19 rfl ?_; refine wpList_run 19 rfl rfl _ (exec_fieldAddr 47 (.tmp 3) 2 rfl _ _ rfl (fa_rat_fraction_2_0 _ _)) ?_; go_frame) | (refine wpList_dst 20 rfl ?_; refine wpList_run 20 rfl rfl _ (exec_load 9 (.tmp 19) rfl _ (.string f.d) rfl (run_load_cell flat_string (HD.out.cell 2))) ?_; go_frame) | (refine wpList_dst 23 rfl ?_; refine wpList_run 23 rfl rfl _ (exec_fieldAddr 47 (.tmp 3) 2 rfl _ _ rfl (fa_rat_fraction_2_0 _ _)) ?_; go_frame) | (refine wpList_dst 24 rfl ?_; refine wpList_run 24 rfl rfl _ (exec_load 9 (.tmp 23) rfl _ (.string f.d) rfl (run_load_cell flat_string (HD.out.cell 2))) ?_; go_frame))
  have HIR := Lib.hid (show Lib.IsBuilder 52 5 w2.heap.size w2.heap.size (bc r) wc from by rw [HTXT.out]; exact HI1.out)
  refine (Tryz.Builder_String_any w2.heap.size w2.heap.size r wc HIR.out HB1.out.size).mono ?_
  rintro e we ⟨rfl, h1⟩
  have HE := Lib.hid (HW.out.trans ((HB1.out.trans h1).mono HW.out.size))
  clear h1
  go_wp2_with fail
  go_ret
  exact ⟨rfl, HE.out⟩
set_option maxRecDepth 100000 in
set_option maxHeartbeats 800000 in
theorem Text_nd (x f : Rv) (r : List UInt8) (w : World) (hT : Pow w) (hf : f.neg = true) (ho : decide (f.d ≠ ⟨#[1]⟩) = true) (hn : f.n.size ≤ 10000) (hd : f.d.size ≤ 10000) (hr : ([] ++ (⟨#[45]⟩ : ByteArray).data.toList ++ Lib.decDigits (nB f.n) ++ (⟨#[47]⟩ : ByteArray).data.toList ++ Lib.decDigits (nB f.d)) = r) (h7 : (∀ W, Calls Tryz.prog 26 #[rv x] W fun e w' => e = .returned (rv f) ∧ Below W.heap.size W w')) : Calls Tryz.prog 6 #[.agg #[.bool x.neg, .string x.n, .string x.d]] w fun e w' => e = .returned (.string (sb r)) ∧ Below w.heap.size w w' := by
  obtain ⟨W1, hW1⟩ : ∃ W, W = w.alloc (.cells #[.bool x.neg, .string x.n, .string x.d] 26) := ⟨_, rfl⟩
  have hb1 := (Below.refl w.heap.size w).alloc (Nat.le_refl _) (.cells #[.bool x.neg, .string x.n, .string x.d] 26)
  have hx1 := Blk.new w 26 [.bool x.neg, .string x.n, .string x.d]
  have HX : Hid (Blk W1 w.heap.size 26 [.bool x.neg, .string x.n, .string x.d]) := Lib.hid (by rw [hW1]; exact hx1)
  have HW : Hid (Below w.heap.size w W1) := Lib.hid (by rw [hW1]; exact hb1)
  have HP := Lib.hid (hT.next HW.out)
  have F7 : Hid (∀ W, Calls Tryz.prog 26 #[rv x] W fun e w' => e = .returned (.agg #[.bool true, .string f.n, .string f.d]) ∧ Below W.heap.size W w') := Lib.hid (by rw [← hf]; exact h7)
  have H21 := Lib.hid (fun W => run_neqQ f.d ⟨#[1]⟩ true ho W)
  have HTXT := Lib.hid hr.symm
  have HFN := Lib.hid hn
  have HFD := Lib.hid hd
  have HDN := Lib.hid (ndig f.n 10000 hn)
  clear hb1 hx1 hT hf ho hn hd hr h7
  go_enter Tryz.func6, Tryz.ntmps6
  go_wp2_with fail
  try rw [← hW1]
  clear hW1
  go_wp2_with (first | (refine wpList_dst 6 rfl ?_; refine wpList_run 6 rfl rfl _ (exec_load 26 (.tmp 1) rfl _ (.agg #[.bool x.neg, .string x.n, .string x.d]) rfl (run_load_part _ 26 _ 0 3 _ [.bool x.neg, .string x.n, .string x.d] _ HX.out (by simp) Tryz.underlying26 rfl size_api_Rat)) ?_; go_frame))
  refine (F7.out _).mono ?_
  rintro e w1 ⟨rfl, hb⟩
  replace HW := Lib.hid (HW.out.trans (hb.mono HW.out.size))
  replace HP := Lib.hid (HP.out.next hb)
  replace HX := Lib.hid (HX.out.next hb)
  clear hb
  go_wp2_with (first | (refine wpList_var rfl rfl 47 3 rfl rfl rfl (.tmp 7) rfl [.bool false, .string ByteArray.empty, .string ByteArray.empty] [.bool true, .string f.n, .string f.d] zero_rat_fraction rfl rfl rfl size_rat_fraction (List.forall_mem_cons.2 ⟨rfl, (List.forall_mem_cons.2 ⟨rfl, (List.forall_mem_cons.2 ⟨rfl, fun _ h => nomatch h⟩)⟩)⟩) ?_; intro w2 HD HBw; replace HW := Lib.hid (HW.out.trans (HBw.out.mono HW.out.size)); replace HP := Lib.hid (HP.out.next HBw.out); replace HX := Lib.hid (HX.out.next HBw.out); clear HBw) | (refine wpList_builder rfl rfl ?_; intro wb HI HBb; have HD0 := HD; replace HD := Lib.hid (HD.out.next HBb.out)) | (refine wpList_dst 9 rfl ?_; refine wpList_run 9 rfl rfl _ (exec_fieldAddr 47 (.tmp 3) 0 rfl _ _ rfl (fa_rat_fraction_0_0 _ _)) ?_; go_frame) | (refine wpList_dst 10 rfl ?_; refine wpList_run 10 rfl rfl _ (exec_load 4 (.tmp 9) rfl _ (.bool true) rfl (run_load_cell flat_bool (HD.out.cell 0))) ?_; go_frame) | (refine wpList_dst 12 rfl ?_; refine wpList_run 12 rfl rfl _ (exec_fieldAddr 47 (.tmp 3) 1 rfl _ _ rfl (fa_rat_fraction_1_0 _ _)) ?_; go_frame) | (refine wpList_dst 13 rfl ?_; refine wpList_run 13 rfl rfl _ (exec_load 9 (.tmp 12) rfl _ (.string f.n) rfl (run_load_cell flat_string (HD.out.cell 1))) ?_; go_frame) | (refine wpList_dst 16 rfl ?_; refine wpList_run 16 rfl rfl _ (exec_fieldAddr 47 (.tmp 3) 1 rfl _ _ rfl (fa_rat_fraction_1_0 _ _)) ?_; go_frame) | (refine wpList_dst 17 rfl ?_; refine wpList_run 17 rfl rfl _ (exec_load 9 (.tmp 16) rfl _ (.string f.n) rfl (run_load_cell flat_string (HD.out.cell 1))) ?_; go_frame))
  refine (join_any w2 [] ⟨#[45]⟩ f.n wb HI.out HBb.out HP.out (by decide) HFN.out).mono ?_
  rintro e wc ⟨⟨v, rfl⟩, h1, h2⟩
  have HI1 := Lib.hid h1
  have HB1 := Lib.hid h2
  replace HD := Lib.hid (HD0.out.below h2 HD0.out.lt)
  clear h1 h2 HI HBb
  go_wp2_with (first | (refine wpList_dst 21 rfl ?_; refine wpList_run 21 rfl rfl _ (exec_bin .neq 9 _ (.tmp 20) (.const (.string ⟨#[1]⟩)) rfl _ _ _ rfl rfl rfl (H21.out _)) ?_; go_frame) | (refine wpList_dst 19 rfl ?_; refine wpList_run 19 rfl rfl _ (exec_fieldAddr 47 (.tmp 3) 2 rfl _ _ rfl (fa_rat_fraction_2_0 _ _)) ?_; go_frame) | (refine wpList_dst 20 rfl ?_; refine wpList_run 20 rfl rfl _ (exec_load 9 (.tmp 19) rfl _ (.string f.d) rfl (run_load_cell flat_string (HD.out.cell 2))) ?_; go_frame) | (refine wpList_dst 23 rfl ?_; refine wpList_run 23 rfl rfl _ (exec_fieldAddr 47 (.tmp 3) 2 rfl _ _ rfl (fa_rat_fraction_2_0 _ _)) ?_; go_frame) | (refine wpList_dst 24 rfl ?_; refine wpList_run 24 rfl rfl _ (exec_load 9 (.tmp 23) rfl _ (.string f.d) rfl (run_load_cell flat_string (HD.out.cell 2))) ?_; go_frame))
  refine (join_any w2 ([] ++ (⟨#[45]⟩ : ByteArray).data.toList ++ Lib.decDigits (nB f.n)) ⟨#[47]⟩ f.d wc HI1.out HB1.out HP.out (sz_help _ _ _ _ (by decide) (by decide) (Nat.le_trans HDN.out (by decide)) (by decide)) HFD.out).mono ?_
  rintro e wd ⟨⟨v2, rfl⟩, h1, h2⟩
  have HI2 := Lib.hid h1
  have HB2 := Lib.hid h2
  clear h1 h2
  go_wp2_with fail
  have HIR := Lib.hid (show Lib.IsBuilder 52 5 w2.heap.size w2.heap.size (bc r) wd from by rw [HTXT.out]; exact HI2.out)
  refine (Tryz.Builder_String_any w2.heap.size w2.heap.size r wd HIR.out HB2.out.size).mono ?_
  rintro e we ⟨rfl, h1⟩
  have HE := Lib.hid (HW.out.trans ((HB2.out.trans h1).mono HW.out.size))
  clear h1
  go_wp2_with fail
  go_ret
  exact ⟨rfl, HE.out⟩
set_option maxRecDepth 100000 in
set_option maxHeartbeats 800000 in
theorem Text_p1 (x f : Rv) (r : List UInt8) (w : World) (hT : Pow w) (hf : f.neg = false) (ho : decide (f.d ≠ ⟨#[1]⟩) = false) (hn : f.n.size ≤ 10000) (hd : f.d.size ≤ 10000) (hr : ([] ++ (⟨#[]⟩ : ByteArray).data.toList ++ Lib.decDigits (nB f.n)) = r) (h7 : (∀ W, Calls Tryz.prog 26 #[rv x] W fun e w' => e = .returned (rv f) ∧ Below W.heap.size W w')) : Calls Tryz.prog 6 #[.agg #[.bool x.neg, .string x.n, .string x.d]] w fun e w' => e = .returned (.string (sb r)) ∧ Below w.heap.size w w' := by
  obtain ⟨W1, hW1⟩ : ∃ W, W = w.alloc (.cells #[.bool x.neg, .string x.n, .string x.d] 26) := ⟨_, rfl⟩
  have hb1 := (Below.refl w.heap.size w).alloc (Nat.le_refl _) (.cells #[.bool x.neg, .string x.n, .string x.d] 26)
  have hx1 := Blk.new w 26 [.bool x.neg, .string x.n, .string x.d]
  have HX : Hid (Blk W1 w.heap.size 26 [.bool x.neg, .string x.n, .string x.d]) := Lib.hid (by rw [hW1]; exact hx1)
  have HW : Hid (Below w.heap.size w W1) := Lib.hid (by rw [hW1]; exact hb1)
  have HP := Lib.hid (hT.next HW.out)
  have F7 : Hid (∀ W, Calls Tryz.prog 26 #[rv x] W fun e w' => e = .returned (.agg #[.bool false, .string f.n, .string f.d]) ∧ Below W.heap.size W w') := Lib.hid (by rw [← hf]; exact h7)
  have H21 := Lib.hid (fun W => run_neqQ f.d ⟨#[1]⟩ false ho W)
  have HTXT := Lib.hid hr.symm
  have HFN := Lib.hid hn
  have HFD := Lib.hid hd
  have HDN := Lib.hid (ndig f.n 10000 hn)
  clear hb1 hx1 hT hf ho hn hd hr h7
  go_enter Tryz.func6, Tryz.ntmps6
  go_wp2_with fail
  try rw [← hW1]
  clear hW1
  go_wp2_with (first | (refine wpList_dst 6 rfl ?_; refine wpList_run 6 rfl rfl _ (exec_load 26 (.tmp 1) rfl _ (.agg #[.bool x.neg, .string x.n, .string x.d]) rfl (run_load_part _ 26 _ 0 3 _ [.bool x.neg, .string x.n, .string x.d] _ HX.out (by simp) Tryz.underlying26 rfl size_api_Rat)) ?_; go_frame))
  refine (F7.out _).mono ?_
  rintro e w1 ⟨rfl, hb⟩
  replace HW := Lib.hid (HW.out.trans (hb.mono HW.out.size))
  replace HP := Lib.hid (HP.out.next hb)
  replace HX := Lib.hid (HX.out.next hb)
  clear hb
  go_wp2_with (first | (refine wpList_var rfl rfl 47 3 rfl rfl rfl (.tmp 7) rfl [.bool false, .string ByteArray.empty, .string ByteArray.empty] [.bool false, .string f.n, .string f.d] zero_rat_fraction rfl rfl rfl size_rat_fraction (List.forall_mem_cons.2 ⟨rfl, (List.forall_mem_cons.2 ⟨rfl, (List.forall_mem_cons.2 ⟨rfl, fun _ h => nomatch h⟩)⟩)⟩) ?_; intro w2 HD HBw; replace HW := Lib.hid (HW.out.trans (HBw.out.mono HW.out.size)); replace HP := Lib.hid (HP.out.next HBw.out); replace HX := Lib.hid (HX.out.next HBw.out); clear HBw) | (refine wpList_builder rfl rfl ?_; intro wb HI HBb; have HD0 := HD; replace HD := Lib.hid (HD.out.next HBb.out)) | (refine wpList_dst 9 rfl ?_; refine wpList_run 9 rfl rfl _ (exec_fieldAddr 47 (.tmp 3) 0 rfl _ _ rfl (fa_rat_fraction_0_0 _ _)) ?_; go_frame) | (refine wpList_dst 10 rfl ?_; refine wpList_run 10 rfl rfl _ (exec_load 4 (.tmp 9) rfl _ (.bool false) rfl (run_load_cell flat_bool (HD.out.cell 0))) ?_; go_frame) | (refine wpList_dst 12 rfl ?_; refine wpList_run 12 rfl rfl _ (exec_fieldAddr 47 (.tmp 3) 1 rfl _ _ rfl (fa_rat_fraction_1_0 _ _)) ?_; go_frame) | (refine wpList_dst 13 rfl ?_; refine wpList_run 13 rfl rfl _ (exec_load 9 (.tmp 12) rfl _ (.string f.n) rfl (run_load_cell flat_string (HD.out.cell 1))) ?_; go_frame) | (refine wpList_dst 16 rfl ?_; refine wpList_run 16 rfl rfl _ (exec_fieldAddr 47 (.tmp 3) 1 rfl _ _ rfl (fa_rat_fraction_1_0 _ _)) ?_; go_frame) | (refine wpList_dst 17 rfl ?_; refine wpList_run 17 rfl rfl _ (exec_load 9 (.tmp 16) rfl _ (.string f.n) rfl (run_load_cell flat_string (HD.out.cell 1))) ?_; go_frame))
  refine (join_any w2 [] ⟨#[]⟩ f.n wb HI.out HBb.out HP.out (by decide) HFN.out).mono ?_
  rintro e wc ⟨⟨v, rfl⟩, h1, h2⟩
  have HI1 := Lib.hid h1
  have HB1 := Lib.hid h2
  replace HD := Lib.hid (HD0.out.below h2 HD0.out.lt)
  clear h1 h2 HI HBb
  go_wp2_with (first | (refine wpList_dst 21 rfl ?_; refine wpList_run 21 rfl rfl _ (exec_bin .neq 9 _ (.tmp 20) (.const (.string ⟨#[1]⟩)) rfl _ _ _ rfl rfl rfl (H21.out _)) ?_; go_frame) | (refine wpList_dst 19 rfl ?_; refine wpList_run 19 rfl rfl _ (exec_fieldAddr 47 (.tmp 3) 2 rfl _ _ rfl (fa_rat_fraction_2_0 _ _)) ?_; go_frame) | (refine wpList_dst 20 rfl ?_; refine wpList_run 20 rfl rfl _ (exec_load 9 (.tmp 19) rfl _ (.string f.d) rfl (run_load_cell flat_string (HD.out.cell 2))) ?_; go_frame) | (refine wpList_dst 23 rfl ?_; refine wpList_run 23 rfl rfl _ (exec_fieldAddr 47 (.tmp 3) 2 rfl _ _ rfl (fa_rat_fraction_2_0 _ _)) ?_; go_frame) | (refine wpList_dst 24 rfl ?_; refine wpList_run 24 rfl rfl _ (exec_load 9 (.tmp 23) rfl _ (.string f.d) rfl (run_load_cell flat_string (HD.out.cell 2))) ?_; go_frame))
  have HIR := Lib.hid (show Lib.IsBuilder 52 5 w2.heap.size w2.heap.size (bc r) wc from by rw [HTXT.out]; exact HI1.out)
  refine (Tryz.Builder_String_any w2.heap.size w2.heap.size r wc HIR.out HB1.out.size).mono ?_
  rintro e we ⟨rfl, h1⟩
  have HE := Lib.hid (HW.out.trans ((HB1.out.trans h1).mono HW.out.size))
  clear h1
  go_wp2_with fail
  go_ret
  exact ⟨rfl, HE.out⟩
set_option maxRecDepth 100000 in
set_option maxHeartbeats 800000 in
theorem Text_pd (x f : Rv) (r : List UInt8) (w : World) (hT : Pow w) (hf : f.neg = false) (ho : decide (f.d ≠ ⟨#[1]⟩) = true) (hn : f.n.size ≤ 10000) (hd : f.d.size ≤ 10000) (hr : ([] ++ (⟨#[]⟩ : ByteArray).data.toList ++ Lib.decDigits (nB f.n) ++ (⟨#[47]⟩ : ByteArray).data.toList ++ Lib.decDigits (nB f.d)) = r) (h7 : (∀ W, Calls Tryz.prog 26 #[rv x] W fun e w' => e = .returned (rv f) ∧ Below W.heap.size W w')) : Calls Tryz.prog 6 #[.agg #[.bool x.neg, .string x.n, .string x.d]] w fun e w' => e = .returned (.string (sb r)) ∧ Below w.heap.size w w' := by
  obtain ⟨W1, hW1⟩ : ∃ W, W = w.alloc (.cells #[.bool x.neg, .string x.n, .string x.d] 26) := ⟨_, rfl⟩
  have hb1 := (Below.refl w.heap.size w).alloc (Nat.le_refl _) (.cells #[.bool x.neg, .string x.n, .string x.d] 26)
  have hx1 := Blk.new w 26 [.bool x.neg, .string x.n, .string x.d]
  have HX : Hid (Blk W1 w.heap.size 26 [.bool x.neg, .string x.n, .string x.d]) := Lib.hid (by rw [hW1]; exact hx1)
  have HW : Hid (Below w.heap.size w W1) := Lib.hid (by rw [hW1]; exact hb1)
  have HP := Lib.hid (hT.next HW.out)
  have F7 : Hid (∀ W, Calls Tryz.prog 26 #[rv x] W fun e w' => e = .returned (.agg #[.bool false, .string f.n, .string f.d]) ∧ Below W.heap.size W w') := Lib.hid (by rw [← hf]; exact h7)
  have H21 := Lib.hid (fun W => run_neqQ f.d ⟨#[1]⟩ true ho W)
  have HTXT := Lib.hid hr.symm
  have HFN := Lib.hid hn
  have HFD := Lib.hid hd
  have HDN := Lib.hid (ndig f.n 10000 hn)
  clear hb1 hx1 hT hf ho hn hd hr h7
  go_enter Tryz.func6, Tryz.ntmps6
  go_wp2_with fail
  try rw [← hW1]
  clear hW1
  go_wp2_with (first | (refine wpList_dst 6 rfl ?_; refine wpList_run 6 rfl rfl _ (exec_load 26 (.tmp 1) rfl _ (.agg #[.bool x.neg, .string x.n, .string x.d]) rfl (run_load_part _ 26 _ 0 3 _ [.bool x.neg, .string x.n, .string x.d] _ HX.out (by simp) Tryz.underlying26 rfl size_api_Rat)) ?_; go_frame))
  refine (F7.out _).mono ?_
  rintro e w1 ⟨rfl, hb⟩
  replace HW := Lib.hid (HW.out.trans (hb.mono HW.out.size))
  replace HP := Lib.hid (HP.out.next hb)
  replace HX := Lib.hid (HX.out.next hb)
  clear hb
  go_wp2_with (first | (refine wpList_var rfl rfl 47 3 rfl rfl rfl (.tmp 7) rfl [.bool false, .string ByteArray.empty, .string ByteArray.empty] [.bool false, .string f.n, .string f.d] zero_rat_fraction rfl rfl rfl size_rat_fraction (List.forall_mem_cons.2 ⟨rfl, (List.forall_mem_cons.2 ⟨rfl, (List.forall_mem_cons.2 ⟨rfl, fun _ h => nomatch h⟩)⟩)⟩) ?_; intro w2 HD HBw; replace HW := Lib.hid (HW.out.trans (HBw.out.mono HW.out.size)); replace HP := Lib.hid (HP.out.next HBw.out); replace HX := Lib.hid (HX.out.next HBw.out); clear HBw) | (refine wpList_builder rfl rfl ?_; intro wb HI HBb; have HD0 := HD; replace HD := Lib.hid (HD.out.next HBb.out)) | (refine wpList_dst 9 rfl ?_; refine wpList_run 9 rfl rfl _ (exec_fieldAddr 47 (.tmp 3) 0 rfl _ _ rfl (fa_rat_fraction_0_0 _ _)) ?_; go_frame) | (refine wpList_dst 10 rfl ?_; refine wpList_run 10 rfl rfl _ (exec_load 4 (.tmp 9) rfl _ (.bool false) rfl (run_load_cell flat_bool (HD.out.cell 0))) ?_; go_frame) | (refine wpList_dst 12 rfl ?_; refine wpList_run 12 rfl rfl _ (exec_fieldAddr 47 (.tmp 3) 1 rfl _ _ rfl (fa_rat_fraction_1_0 _ _)) ?_; go_frame) | (refine wpList_dst 13 rfl ?_; refine wpList_run 13 rfl rfl _ (exec_load 9 (.tmp 12) rfl _ (.string f.n) rfl (run_load_cell flat_string (HD.out.cell 1))) ?_; go_frame) | (refine wpList_dst 16 rfl ?_; refine wpList_run 16 rfl rfl _ (exec_fieldAddr 47 (.tmp 3) 1 rfl _ _ rfl (fa_rat_fraction_1_0 _ _)) ?_; go_frame) | (refine wpList_dst 17 rfl ?_; refine wpList_run 17 rfl rfl _ (exec_load 9 (.tmp 16) rfl _ (.string f.n) rfl (run_load_cell flat_string (HD.out.cell 1))) ?_; go_frame))
  refine (join_any w2 [] ⟨#[]⟩ f.n wb HI.out HBb.out HP.out (by decide) HFN.out).mono ?_
  rintro e wc ⟨⟨v, rfl⟩, h1, h2⟩
  have HI1 := Lib.hid h1
  have HB1 := Lib.hid h2
  replace HD := Lib.hid (HD0.out.below h2 HD0.out.lt)
  clear h1 h2 HI HBb
  go_wp2_with (first | (refine wpList_dst 21 rfl ?_; refine wpList_run 21 rfl rfl _ (exec_bin .neq 9 _ (.tmp 20) (.const (.string ⟨#[1]⟩)) rfl _ _ _ rfl rfl rfl (H21.out _)) ?_; go_frame) | (refine wpList_dst 19 rfl ?_; refine wpList_run 19 rfl rfl _ (exec_fieldAddr 47 (.tmp 3) 2 rfl _ _ rfl (fa_rat_fraction_2_0 _ _)) ?_; go_frame) | (refine wpList_dst 20 rfl ?_; refine wpList_run 20 rfl rfl _ (exec_load 9 (.tmp 19) rfl _ (.string f.d) rfl (run_load_cell flat_string (HD.out.cell 2))) ?_; go_frame) | (refine wpList_dst 23 rfl ?_; refine wpList_run 23 rfl rfl _ (exec_fieldAddr 47 (.tmp 3) 2 rfl _ _ rfl (fa_rat_fraction_2_0 _ _)) ?_; go_frame) | (refine wpList_dst 24 rfl ?_; refine wpList_run 24 rfl rfl _ (exec_load 9 (.tmp 23) rfl _ (.string f.d) rfl (run_load_cell flat_string (HD.out.cell 2))) ?_; go_frame))
  refine (join_any w2 ([] ++ (⟨#[]⟩ : ByteArray).data.toList ++ Lib.decDigits (nB f.n)) ⟨#[47]⟩ f.d wc HI1.out HB1.out HP.out (sz_help _ _ _ _ (by decide) (by decide) (Nat.le_trans HDN.out (by decide)) (by decide)) HFD.out).mono ?_
  rintro e wd ⟨⟨v2, rfl⟩, h1, h2⟩
  have HI2 := Lib.hid h1
  have HB2 := Lib.hid h2
  clear h1 h2
  go_wp2_with fail
  have HIR := Lib.hid (show Lib.IsBuilder 52 5 w2.heap.size w2.heap.size (bc r) wd from by rw [HTXT.out]; exact HI2.out)
  refine (Tryz.Builder_String_any w2.heap.size w2.heap.size r wd HIR.out HB2.out.size).mono ?_
  rintro e we ⟨rfl, h1⟩
  have HE := Lib.hid (HW.out.trans ((HB2.out.trans h1).mono HW.out.size))
  clear h1
  go_wp2_with fail
  go_ret
  exact ⟨rfl, HE.out⟩
theorem Text_any (x : Rv) (w : World) (hT : Pow w) (hx : szR 10000 x) : Calls Tryz.prog 6 #[rv x] w fun e w' => e = .returned (.string (sb (txtQ (valR x)))) ∧ Below w.heap.size w w' := by
  have sx := Sz_val x 10000 (by decide) hx.1 hx.2
  have h7 := fun W => read_q x W hx.1 hx.2
  have en : nB (fr (valR x)).n = (valR x).num.natAbs := nB_cS _
  have ed : nB (fr (valR x)).d = (valR x).den := nB_cS _
  by_cases h : (valR x).num < 0
  · have hneg : (fr (valR x)).neg = true := decide_eq_true h
    by_cases h1 : (valR x).den = 1
    · exact Text_n1 x (fr (valR x)) _ w hT hneg (decide_eq_false (fun e => e (show cS (valR x).den = _ by rw [h1, c1]))) sx.1 sx.2 (by unfold txtQ; rw [if_pos h, if_pos h1, en]; simp) h7
    · exact Text_nd x (fr (valR x)) _ w hT hneg (decide_eq_true (fun e => h1 (cS_inj (by rw [c1]; exact e)))) sx.1 sx.2 (by unfold txtQ; rw [if_pos h, if_neg h1, en, ed]; simp) h7
  · have hneg : (fr (valR x)).neg = false := decide_eq_false h
    by_cases h1 : (valR x).den = 1
    · exact Text_p1 x (fr (valR x)) _ w hT hneg (decide_eq_false (fun e => e (show cS (valR x).den = _ by rw [h1, c1]))) sx.1 sx.2 (by unfold txtQ; rw [if_neg h, if_pos h1, en]; simp) h7
    · exact Text_pd x (fr (valR x)) _ w hT hneg (decide_eq_true (fun e => h1 (cS_inj (by rw [c1]; exact e)))) sx.1 sx.2 (by unfold txtQ; rw [if_neg h, if_neg h1, en, ed]; simp) h7
end Go.Proofs.YtpmlihhofmblpaaGreatDoor

/- Parse. -/
namespace Go.Proofs.YtpmlihhofmblpaaGreatDoor
open Go.RowKit Hm Wm Wn

theorem zero_api_Rat : (Tryz.prog.info? 26).map (·.zero) = some (some (.agg #[.bool false, .string ByteArray.empty, .string ByteArray.empty])) := by kernel_rfl
/-- What the walks need of the listed and named variables. -/
structure Env (w : World) : Prop where
  pow : Pow w
  mx : ∃ m : Int, w.cell? ⟨0, 0, none⟩ = some (.int .i64 m)
theorem Env.next {w w' : World} (h : Env w) (hb : Below w.heap.size w w') : Env w' := ⟨h.pow.next hb, by
  obtain ⟨m, hm⟩ := h.mx
  exact ⟨m, (hb.cell (p := ⟨_, 0, none⟩) (World.block_lt_of_cell? w _ hm)).trans hm⟩⟩
theorem index_no {p : List UInt8} (h : (47 : UInt8) ∉ p) : Lib.index p [47] = -1 := by
  induction p with
  | nil => rfl
  | cons b l ih =>
    have hb : (47 : UInt8) ≠ b := fun e => h (by rw [e]; exact List.mem_cons_self)
    have hl := ih (fun e => h (List.mem_cons_of_mem _ e))
    have e : List.isPrefixOf [47] (b :: l) = false := by
      show ((47 : UInt8) == b && _) = false
      rw [beq_eq_false_iff_ne.2 hb]; rfl
    rw [Lib.index, e, hl]
    rfl
theorem index_at {p r : List UInt8} (h : (47 : UInt8) ∉ p) : Lib.index (p ++ 47 :: r) [47] = p.length := by
  induction p with
  | nil =>
    show Lib.index (47 :: r) [47] = 0
    rw [Lib.index]
    rfl
  | cons b l ih =>
    have hb : (47 : UInt8) ≠ b := fun e => h (by rw [e]; exact List.mem_cons_self)
    have hl := ih (fun e => h (List.mem_cons_of_mem _ e))
    have e : List.isPrefixOf [47] (b :: (l ++ 47 :: r)) = false := by
      show ((47 : UInt8) == b && _) = false
      rw [beq_eq_false_iff_ne.2 hb]; rfl
    rw [List.cons_append, Lib.index, e, hl]
    have h2 : (((l.length : Nat) : Int) == -1) = false := by rw [beq_eq_false_iff_ne]; omega
    rw [h2]
    simp
theorem cut_no {p : List UInt8} (h : (47 : UInt8) ∉ p) : Lib.cut p [47] = (p, [], false) := by
  unfold Lib.cut
  rw [index_no h, if_neg (by decide)]
theorem cut_at {p r : List UInt8} (h : (47 : UInt8) ∉ p) : Lib.cut (p ++ 47 :: r) [47] = (p, r, true) := by
  unfold Lib.cut
  rw [index_at h, if_pos (by omega), Int.toNat_natCast, List.take_left]
  have : (p ++ 47 :: r).drop (p.length + ([47] : List UInt8).length) = r := by
    rw [List.drop_append, List.drop_of_length_le (by simp)]
    simp
  rw [this]
theorem dig_no {l : List UInt8} (h : l.all isDig = true) : (47 : UInt8) ∉ l := fun hm => by
  have := List.all_eq_true.1 h _ hm
  revert this
  decide
theorem dig_head {l : List UInt8} (h : l.all isDig = true) (hne : l ≠ []) (r : List UInt8) : Lib.hasPrefix (l ++ r) [45] = false := by
  match l, hne with
  | b :: l, _ =>
    have hb : isDig b = true := List.all_eq_true.1 h _ List.mem_cons_self
    show ((45 : UInt8) == b && _) = false
    have : (45 : UInt8) ≠ b := fun e => by rw [← e] at hb; revert hb; decide
    rw [beq_eq_false_iff_ne.2 this]; rfl
def pn (l : List UInt8) : ByteArray := if isTextL l = true then cS (decN l) else cS 0
def pe (l : List UInt8) : Int := if isTextL l = true then 0 else 27
theorem parse_pn (l : List UInt8) (w : World) (hl : l.length ≤ 20000) : Calls Tryz.prog 36 #[.string (sb l)] w fun e w' => e = .returned (.tuple #[.string (pn l), .int .i64 (pe l)]) ∧ Below w.heap.size w w' := by
  unfold pn pe
  by_cases h : isTextL l = true
  · rw [if_pos h, if_pos h]; exact parse_yes l w hl h
  · rw [if_neg h, if_neg h]
    rw [Bool.not_eq_true] at h
    refine (parse_no l w hl h).mono ?_
    rintro e w' ⟨rfl, rfl⟩
    exact ⟨rfl, Below.refl _ _⟩
theorem pn_size (l : List UInt8) : (pn l).size ≤ l.length := by
  unfold pn
  split
  · rename_i h
    have h1 := decF_lt l 0 (textL_all h)
    have h2 : decN l < 256 ^ l.length := Nat.lt_of_lt_of_le (by unfold decN; simpa using h1) (Nat.pow_le_pow_left (by decide) _)
    exact cS_len h2
  · rw [c0]; exact Nat.zero_le _
def rsL (s : List UInt8) : List UInt8 := Lib.trimPrefix s [45]
def ngL (s : List UInt8) : Bool := Lib.hasPrefix s [45]
def cuL (s : List UInt8) : List UInt8 × List UInt8 × Bool := Lib.cut (rsL s) [47]
def blL (s : List UInt8) : List UInt8 := if (cuL s).2.2 then (cuL s).2.1 else [49]
/-- What Parse tries. -/
def parA (s : List UInt8) : Rv := if pn (cuL s).1 = ⟨#[]⟩ then zR else ⟨ngL s, pn (cuL s).1, pn (blL s)⟩
theorem pn_dec (n : Nat) : pn (Lib.decDigits n) = cS n := by
  unfold pn
  rw [if_pos (dec_text n), (dec_facts n).1]
theorem dec_ne (n : Nat) : Lib.decDigits n ≠ [] := fun e => by
  have := dec_text n
  rw [e] at this
  cases this
theorem rs_txt (q : Rat) : ngL (txtQ q) = decide (q.num < 0) ∧ rsL (txtQ q) = Lib.decDigits q.num.natAbs ++ (if q.den = 1 then [] else 47 :: Lib.decDigits q.den) := by
  unfold ngL rsL txtQ Lib.trimPrefix
  by_cases h : q.num < 0
  · rw [if_pos h, decide_eq_true h]
    exact ⟨rfl, rfl⟩
  · rw [if_neg h, decide_eq_false h, List.nil_append, dig_head (dec_facts _).2.1 (dec_ne _)]
    exact ⟨rfl, rfl⟩
theorem par_txt (q : Rat) : parA (txtQ q) = rt q := by
  obtain ⟨h1, h2⟩ := rs_txt q
  have hno := dig_no (dec_facts q.num.natAbs).2.1
  have hcu : (cuL (txtQ q)).1 = Lib.decDigits q.num.natAbs ∧ blL (txtQ q) = Lib.decDigits q.den := by
    unfold blL cuL
    rw [h2]
    by_cases hd : q.den = 1
    · rw [if_pos hd, List.append_nil, cut_no hno, hd]
      exact ⟨rfl, by rw [show Lib.decDigits 1 = [49] from by decide +kernel]; rfl⟩
    · rw [if_neg hd, cut_at hno]
      exact ⟨rfl, rfl⟩
  unfold parA
  rw [hcu.1, hcu.2, h1, pn_dec, pn_dec]
  by_cases h0 : q = 0
  · subst h0
    rw [rt_zero, if_pos (show cS (0 : Rat).num.natAbs = _ from c0)]
  · rw [if_neg (num_nil h0)]
    unfold rt
    rw [if_neg h0]
    rfl
theorem rs_len (s : List UInt8) : (rsL s).length ≤ s.length := by
  unfold rsL Lib.trimPrefix
  split
  · rw [List.length_drop]; omega
  · exact Nat.le_refl _
theorem cu_len (s : List UInt8) : (cuL s).1.length ≤ s.length ∧ (blL s).length ≤ s.length + 1 := by
  have h := rs_len s
  unfold blL cuL Lib.cut
  split
  · simp only [List.length_take, if_true]
    rw [List.length_drop]
    omega
  · simp only
    exact ⟨h, by simp⟩
theorem par_size (s : List UInt8) (h : s.length ≤ 400) : szR 10000 (parA s) := by
  have h1 := cu_len s
  have h2 := pn_size (cuL s).1
  have h3 := pn_size (blL s)
  unfold parA
  split
  · exact ⟨Nat.zero_le _, Nat.zero_le _⟩
  · exact ⟨show (pn _).size ≤ _ by omega, show (pn _).size ≤ _ by omega⟩
set_option maxRecDepth 100000 in
set_option maxHeartbeats 800000 in
theorem Parse_long (s : ByteArray) (w : World) (hs : 400 < s.size) (hm : s.size ≤ 1000000000000) : Calls Tryz.prog 8 #[.string s] w fun e w' => e = .returned (.tuple #[rv zR, .int .i64 2]) ∧ Below w.heap.size w w' := by
  have HK := Lib.hid (Blk.new w 26 [.bool false, .string ⟨#[]⟩, .string ⟨#[]⟩])
  have HB := Lib.hid ((Below.refl w.heap.size w).alloc (Nat.le_refl _) (.cells ([.bool false, .string ⟨#[]⟩, .string ⟨#[]⟩] : List Value).toArray 26))
  have c1 : decide (400 < s.size) = true := decide_eq_true hs
  have c2 : decide ((400 : Int) < (s.size : Int)) = true := decide_eq_true (by omega)
  clear hs
  go_enter Tryz.func8, Tryz.ntmps8
  go_wp2
  exact bodyPost_ret (results_bt rfl _ _ (w.heap.size) _ [.bool false, .string ⟨#[]⟩, .string ⟨#[]⟩] (.int .i64 2) _ rfl rfl HK.out Tryz.underlying26 rfl qr_size) rfl ⟨rfl, HB.out⟩
set_option maxRecDepth 100000 in
set_option maxHeartbeats 800000 in
theorem Parse_cy (s rest above below N D t : ByteArray) (neg : Bool) (e1 e2 : Int) (a : Rv) (w : World) (hE : Env w) (hs : s.size ≤ 400) (ht : decide (t ≠ s) = false) (h20 : (∀ W, Env W → Calls Tryz.prog 34 #[.string s, .string ⟨#[45]⟩] W fun e w' => e = .returned (.tuple #[.string rest, .bool neg]) ∧ Below W.heap.size W w')) (h25 : (∀ W, Env W → Calls Tryz.prog 35 #[.string rest, .string ⟨#[47]⟩] W fun e w' => e = .returned (.tuple #[.string above, .string below, .bool true]) ∧ Below W.heap.size W w')) (h33 : (∀ W, Env W → Calls Tryz.prog 36 #[.string above] W fun e w' => e = .returned (.tuple #[.string N, .int .i64 e1]) ∧ Below W.heap.size W w')) (h38 : (∀ W, Env W → Calls Tryz.prog 36 #[.string below] W fun e w' => e = .returned (.tuple #[.string D, .int .i64 e2]) ∧ Below W.heap.size W w')) (h45 : (∀ W, Env W → Calls Tryz.prog 37 #[.agg #[.bool neg, .string N, .string D]] W fun e w' => e = .returned (rv a) ∧ Below W.heap.size W w')) (h47 : (∀ W, Env W → Calls Tryz.prog 6 #[rv a] W fun e w' => e = .returned (.string t) ∧ Below W.heap.size W w')) : Calls Tryz.prog 8 #[.string s] w fun e w' => e = .returned (.tuple #[rv a, .int .i64 0]) ∧ Below w.heap.size w w' := by
  obtain ⟨W1, hW1⟩ : ∃ W, W = w.alloc (.cells #[.bool false, .string ⟨#[]⟩, .string ⟨#[]⟩] 26) := ⟨_, rfl⟩
  have hb1 := (Below.refl w.heap.size w).alloc (Nat.le_refl _) (.cells #[.bool false, .string ⟨#[]⟩, .string ⟨#[]⟩] 26)
  have hz1 := Blk.new w 26 [.bool false, .string ⟨#[]⟩, .string ⟨#[]⟩]
  have HZ : Hid (Blk W1 w.heap.size 26 [.bool false, .string ⟨#[]⟩, .string ⟨#[]⟩]) := Lib.hid (by rw [hW1]; exact hz1)
  have HW : Hid (Below w.heap.size w W1) := Lib.hid (by rw [hW1]; exact hb1)
  have HE := Lib.hid (hE.next HW.out)
  have H49 := Lib.hid (fun W => run_neqQ t s false ht W)
  have c1 : decide (400 < s.size) = false := decide_eq_false (by omega)
  have c2 : decide ((400 : Int) < (s.size : Int)) = false := decide_eq_false (by omega)
  have F20 := Lib.hid h20
  have F25 := Lib.hid h25
  have F33 := Lib.hid h33
  have F38 := Lib.hid h38
  have F45 := Lib.hid h45
  have F47 := Lib.hid h47
  clear hb1 hz1 hE ht hs h20 h25 h33 h38 h45 h47
  go_enter Tryz.func8, Tryz.ntmps8
  go_wp2_with fail
  try rw [← hW1]
  clear hW1
  refine (F20.out _ HE.out).mono ?_
  rintro e w1 ⟨rfl, hb⟩
  replace HZ := Lib.hid (HZ.out.next hb)
  replace HW := Lib.hid (HW.out.trans (hb.mono HW.out.size))
  replace HE := Lib.hid (HE.out.next hb)
  clear hb
  go_wp2_with fail
  refine (F25.out _ HE.out).mono ?_
  rintro e w2 ⟨rfl, hb⟩
  replace HZ := Lib.hid (HZ.out.next hb)
  replace HW := Lib.hid (HW.out.trans (hb.mono HW.out.size))
  replace HE := Lib.hid (HE.out.next hb)
  clear hb
  go_wp2_with fail
  refine (F33.out _ HE.out).mono ?_
  rintro e w3 ⟨rfl, hb⟩
  replace HZ := Lib.hid (HZ.out.next hb)
  replace HW := Lib.hid (HW.out.trans (hb.mono HW.out.size))
  replace HE := Lib.hid (HE.out.next hb)
  clear hb
  go_wp2_with fail
  refine (F38.out _ HE.out).mono ?_
  rintro e w4 ⟨rfl, hb⟩
  replace HZ := Lib.hid (HZ.out.next hb)
  replace HW := Lib.hid (HW.out.trans (hb.mono HW.out.size))
  replace HE := Lib.hid (HE.out.next hb)
  clear hb
  go_wp2_with (first | (refine wpList_dst 44 rfl ?_; refine wpList_run 44 rfl rfl _ (exec_build3 47 (.tmp 41) (.tmp 42) (.tmp 43) rfl _ _ _ _ rfl rfl rfl (qf_build _ _ _ _)) ?_; go_frame))
  refine (F45.out _ HE.out).mono ?_
  rintro e w5 ⟨rfl, hb⟩
  replace HZ := Lib.hid (HZ.out.next hb)
  replace HW := Lib.hid (HW.out.trans (hb.mono HW.out.size))
  replace HE := Lib.hid (HE.out.next hb)
  clear hb
  go_wp2_with (first | (refine wpList_var rfl rfl 26 13 rfl rfl rfl (.tmp 45) rfl [.bool false, .string ByteArray.empty, .string ByteArray.empty] [.bool a.neg, .string a.n, .string a.d] zero_api_Rat rfl rfl rfl size_api_Rat (List.forall_mem_cons.2 ⟨rfl, (List.forall_mem_cons.2 ⟨rfl, (List.forall_mem_cons.2 ⟨rfl, fun _ h => nomatch h⟩)⟩)⟩) ?_; intro w6 HA HBw; replace HZ := Lib.hid (HZ.out.next HBw.out); replace HW := Lib.hid (HW.out.trans (HBw.out.mono HW.out.size)); replace HE := Lib.hid (HE.out.next HBw.out); clear HBw) | (refine wpList_dst 46 rfl ?_; refine wpList_run 46 rfl rfl _ (exec_load 26 (.tmp 13) rfl _ (rv a) rfl (run_load_part _ 26 _ 0 3 _ [.bool a.neg, .string a.n, .string a.d] _ HA.out (by simp) Tryz.underlying26 rfl qr_size)) ?_; go_frame))
  refine (F47.out _ HE.out).mono ?_
  rintro e w7 ⟨rfl, hb⟩
  replace HZ := Lib.hid (HZ.out.next hb)
  replace HW := Lib.hid (HW.out.trans (hb.mono HW.out.size))
  replace HE := Lib.hid (HE.out.next hb)
  replace HA := Lib.hid (HA.out.next hb)
  clear hb
  go_wp2_with (first | (refine wpList_dst 49 rfl ?_; refine wpList_run 49 rfl rfl _ (exec_bin .neq 9 _ (.tmp 47) (.tmp 48) rfl _ _ _ rfl rfl rfl (H49.out _)) ?_; go_frame) | (refine wpList_dst 51 rfl ?_; refine wpList_run 51 rfl rfl _ (exec_load 26 (.tmp 13) rfl _ (rv a) rfl (run_load_part _ 26 _ 0 3 _ [.bool a.neg, .string a.n, .string a.d] _ HA.out (by simp) Tryz.underlying26 rfl qr_size)) ?_; go_frame) | (refine wpList_store_all rfl 26 (.tmp 2) (.tmp 51) rfl (w.heap.size) _ [.bool false, .string ⟨#[]⟩, .string ⟨#[]⟩] [.bool a.neg, .string a.n, .string a.d] rfl rfl HZ.out rfl qr_size (List.forall_mem_cons.2 ⟨rfl, (List.forall_mem_cons.2 ⟨rfl, (List.forall_mem_cons.2 ⟨rfl, fun _ h => nomatch h⟩)⟩)⟩) ?_; intro w9 HK9 ho9; have HO9 := Lib.hid ho9; clear ho9))
  exact bodyPost_ret (results_bt rfl _ _ (w.heap.size) _ [.bool a.neg, .string a.n, .string a.d] (.int .i64 0) _ rfl rfl HK9.out Tryz.underlying26 rfl qr_size) rfl ⟨rfl, HW.out.trans (HO9.out.below (by omega))⟩
set_option maxRecDepth 100000 in
set_option maxHeartbeats 800000 in
theorem Parse_cn (s rest above below N D t : ByteArray) (neg : Bool) (e1 e2 : Int) (a : Rv) (w : World) (hE : Env w) (hs : s.size ≤ 400) (ht : decide (t ≠ s) = true) (h20 : (∀ W, Env W → Calls Tryz.prog 34 #[.string s, .string ⟨#[45]⟩] W fun e w' => e = .returned (.tuple #[.string rest, .bool neg]) ∧ Below W.heap.size W w')) (h25 : (∀ W, Env W → Calls Tryz.prog 35 #[.string rest, .string ⟨#[47]⟩] W fun e w' => e = .returned (.tuple #[.string above, .string below, .bool true]) ∧ Below W.heap.size W w')) (h33 : (∀ W, Env W → Calls Tryz.prog 36 #[.string above] W fun e w' => e = .returned (.tuple #[.string N, .int .i64 e1]) ∧ Below W.heap.size W w')) (h38 : (∀ W, Env W → Calls Tryz.prog 36 #[.string below] W fun e w' => e = .returned (.tuple #[.string D, .int .i64 e2]) ∧ Below W.heap.size W w')) (h45 : (∀ W, Env W → Calls Tryz.prog 37 #[.agg #[.bool neg, .string N, .string D]] W fun e w' => e = .returned (rv a) ∧ Below W.heap.size W w')) (h47 : (∀ W, Env W → Calls Tryz.prog 6 #[rv a] W fun e w' => e = .returned (.string t) ∧ Below W.heap.size W w')) : Calls Tryz.prog 8 #[.string s] w fun e w' => e = .returned (.tuple #[rv zR, .int .i64 27]) ∧ Below w.heap.size w w' := by
  obtain ⟨W1, hW1⟩ : ∃ W, W = w.alloc (.cells #[.bool false, .string ⟨#[]⟩, .string ⟨#[]⟩] 26) := ⟨_, rfl⟩
  have hb1 := (Below.refl w.heap.size w).alloc (Nat.le_refl _) (.cells #[.bool false, .string ⟨#[]⟩, .string ⟨#[]⟩] 26)
  have hz1 := Blk.new w 26 [.bool false, .string ⟨#[]⟩, .string ⟨#[]⟩]
  have HZ : Hid (Blk W1 w.heap.size 26 [.bool false, .string ⟨#[]⟩, .string ⟨#[]⟩]) := Lib.hid (by rw [hW1]; exact hz1)
  have HW : Hid (Below w.heap.size w W1) := Lib.hid (by rw [hW1]; exact hb1)
  have HE := Lib.hid (hE.next HW.out)
  have H49 := Lib.hid (fun W => run_neqQ t s true ht W)
  have c1 : decide (400 < s.size) = false := decide_eq_false (by omega)
  have c2 : decide ((400 : Int) < (s.size : Int)) = false := decide_eq_false (by omega)
  have F20 := Lib.hid h20
  have F25 := Lib.hid h25
  have F33 := Lib.hid h33
  have F38 := Lib.hid h38
  have F45 := Lib.hid h45
  have F47 := Lib.hid h47
  clear hb1 hz1 hE ht hs h20 h25 h33 h38 h45 h47
  go_enter Tryz.func8, Tryz.ntmps8
  go_wp2_with fail
  try rw [← hW1]
  clear hW1
  refine (F20.out _ HE.out).mono ?_
  rintro e w1 ⟨rfl, hb⟩
  replace HZ := Lib.hid (HZ.out.next hb)
  replace HW := Lib.hid (HW.out.trans (hb.mono HW.out.size))
  replace HE := Lib.hid (HE.out.next hb)
  clear hb
  go_wp2_with fail
  refine (F25.out _ HE.out).mono ?_
  rintro e w2 ⟨rfl, hb⟩
  replace HZ := Lib.hid (HZ.out.next hb)
  replace HW := Lib.hid (HW.out.trans (hb.mono HW.out.size))
  replace HE := Lib.hid (HE.out.next hb)
  clear hb
  go_wp2_with fail
  refine (F33.out _ HE.out).mono ?_
  rintro e w3 ⟨rfl, hb⟩
  replace HZ := Lib.hid (HZ.out.next hb)
  replace HW := Lib.hid (HW.out.trans (hb.mono HW.out.size))
  replace HE := Lib.hid (HE.out.next hb)
  clear hb
  go_wp2_with fail
  refine (F38.out _ HE.out).mono ?_
  rintro e w4 ⟨rfl, hb⟩
  replace HZ := Lib.hid (HZ.out.next hb)
  replace HW := Lib.hid (HW.out.trans (hb.mono HW.out.size))
  replace HE := Lib.hid (HE.out.next hb)
  clear hb
  go_wp2_with (first | (refine wpList_dst 44 rfl ?_; refine wpList_run 44 rfl rfl _ (exec_build3 47 (.tmp 41) (.tmp 42) (.tmp 43) rfl _ _ _ _ rfl rfl rfl (qf_build _ _ _ _)) ?_; go_frame))
  refine (F45.out _ HE.out).mono ?_
  rintro e w5 ⟨rfl, hb⟩
  replace HZ := Lib.hid (HZ.out.next hb)
  replace HW := Lib.hid (HW.out.trans (hb.mono HW.out.size))
  replace HE := Lib.hid (HE.out.next hb)
  clear hb
  go_wp2_with (first | (refine wpList_var rfl rfl 26 13 rfl rfl rfl (.tmp 45) rfl [.bool false, .string ByteArray.empty, .string ByteArray.empty] [.bool a.neg, .string a.n, .string a.d] zero_api_Rat rfl rfl rfl size_api_Rat (List.forall_mem_cons.2 ⟨rfl, (List.forall_mem_cons.2 ⟨rfl, (List.forall_mem_cons.2 ⟨rfl, fun _ h => nomatch h⟩)⟩)⟩) ?_; intro w6 HA HBw; replace HZ := Lib.hid (HZ.out.next HBw.out); replace HW := Lib.hid (HW.out.trans (HBw.out.mono HW.out.size)); replace HE := Lib.hid (HE.out.next HBw.out); clear HBw) | (refine wpList_dst 46 rfl ?_; refine wpList_run 46 rfl rfl _ (exec_load 26 (.tmp 13) rfl _ (rv a) rfl (run_load_part _ 26 _ 0 3 _ [.bool a.neg, .string a.n, .string a.d] _ HA.out (by simp) Tryz.underlying26 rfl qr_size)) ?_; go_frame))
  refine (F47.out _ HE.out).mono ?_
  rintro e w7 ⟨rfl, hb⟩
  replace HZ := Lib.hid (HZ.out.next hb)
  replace HW := Lib.hid (HW.out.trans (hb.mono HW.out.size))
  replace HE := Lib.hid (HE.out.next hb)
  replace HA := Lib.hid (HA.out.next hb)
  clear hb
  go_wp2_with (first | (refine wpList_dst 49 rfl ?_; refine wpList_run 49 rfl rfl _ (exec_bin .neq 9 _ (.tmp 47) (.tmp 48) rfl _ _ _ rfl rfl rfl (H49.out _)) ?_; go_frame) | (refine wpList_dst 50 rfl ?_; refine wpList_run 50 rfl rfl _ (exec_build0 26 rfl _ (qr_nil _)) ?_; go_frame) | (refine wpList_store_all rfl 26 (.tmp 2) (.tmp 50) rfl (w.heap.size) _ [.bool false, .string ⟨#[]⟩, .string ⟨#[]⟩] [.bool false, .string ⟨#[]⟩, .string ⟨#[]⟩] rfl rfl HZ.out rfl qr_size (List.forall_mem_cons.2 ⟨rfl, (List.forall_mem_cons.2 ⟨rfl, (List.forall_mem_cons.2 ⟨rfl, fun _ h => nomatch h⟩)⟩)⟩) ?_; intro w9 HK9 ho9; have HO9 := Lib.hid ho9; clear ho9))
  exact bodyPost_ret (results_bt rfl _ _ (w.heap.size) _ [.bool false, .string ⟨#[]⟩, .string ⟨#[]⟩] (.int .i64 27) _ rfl rfl HK9.out Tryz.underlying26 rfl qr_size) rfl ⟨rfl, HW.out.trans (HO9.out.below (by omega))⟩
set_option maxRecDepth 100000 in
set_option maxHeartbeats 800000 in
theorem Parse_uy (s rest above below N D t : ByteArray) (neg : Bool) (e1 e2 : Int) (a : Rv) (w : World) (hE : Env w) (hs : s.size ≤ 400) (ht : decide (t ≠ s) = false) (h20 : (∀ W, Env W → Calls Tryz.prog 34 #[.string s, .string ⟨#[45]⟩] W fun e w' => e = .returned (.tuple #[.string rest, .bool neg]) ∧ Below W.heap.size W w')) (h25 : (∀ W, Env W → Calls Tryz.prog 35 #[.string rest, .string ⟨#[47]⟩] W fun e w' => e = .returned (.tuple #[.string above, .string below, .bool false]) ∧ Below W.heap.size W w')) (h33 : (∀ W, Env W → Calls Tryz.prog 36 #[.string above] W fun e w' => e = .returned (.tuple #[.string N, .int .i64 e1]) ∧ Below W.heap.size W w')) (h38 : (∀ W, Env W → Calls Tryz.prog 36 #[.string ⟨#[49]⟩] W fun e w' => e = .returned (.tuple #[.string D, .int .i64 e2]) ∧ Below W.heap.size W w')) (h45 : (∀ W, Env W → Calls Tryz.prog 37 #[.agg #[.bool neg, .string N, .string D]] W fun e w' => e = .returned (rv a) ∧ Below W.heap.size W w')) (h47 : (∀ W, Env W → Calls Tryz.prog 6 #[rv a] W fun e w' => e = .returned (.string t) ∧ Below W.heap.size W w')) : Calls Tryz.prog 8 #[.string s] w fun e w' => e = .returned (.tuple #[rv a, .int .i64 0]) ∧ Below w.heap.size w w' := by
  obtain ⟨W1, hW1⟩ : ∃ W, W = w.alloc (.cells #[.bool false, .string ⟨#[]⟩, .string ⟨#[]⟩] 26) := ⟨_, rfl⟩
  have hb1 := (Below.refl w.heap.size w).alloc (Nat.le_refl _) (.cells #[.bool false, .string ⟨#[]⟩, .string ⟨#[]⟩] 26)
  have hz1 := Blk.new w 26 [.bool false, .string ⟨#[]⟩, .string ⟨#[]⟩]
  have HZ : Hid (Blk W1 w.heap.size 26 [.bool false, .string ⟨#[]⟩, .string ⟨#[]⟩]) := Lib.hid (by rw [hW1]; exact hz1)
  have HW : Hid (Below w.heap.size w W1) := Lib.hid (by rw [hW1]; exact hb1)
  have HE := Lib.hid (hE.next HW.out)
  have H49 := Lib.hid (fun W => run_neqQ t s false ht W)
  have c1 : decide (400 < s.size) = false := decide_eq_false (by omega)
  have c2 : decide ((400 : Int) < (s.size : Int)) = false := decide_eq_false (by omega)
  have F20 := Lib.hid h20
  have F25 := Lib.hid h25
  have F33 := Lib.hid h33
  have F38 := Lib.hid h38
  have F45 := Lib.hid h45
  have F47 := Lib.hid h47
  clear hb1 hz1 hE ht hs h20 h25 h33 h38 h45 h47
  go_enter Tryz.func8, Tryz.ntmps8
  go_wp2_with fail
  try rw [← hW1]
  clear hW1
  refine (F20.out _ HE.out).mono ?_
  rintro e w1 ⟨rfl, hb⟩
  replace HZ := Lib.hid (HZ.out.next hb)
  replace HW := Lib.hid (HW.out.trans (hb.mono HW.out.size))
  replace HE := Lib.hid (HE.out.next hb)
  clear hb
  go_wp2_with fail
  refine (F25.out _ HE.out).mono ?_
  rintro e w2 ⟨rfl, hb⟩
  replace HZ := Lib.hid (HZ.out.next hb)
  replace HW := Lib.hid (HW.out.trans (hb.mono HW.out.size))
  replace HE := Lib.hid (HE.out.next hb)
  clear hb
  go_wp2_with fail
  refine (F33.out _ HE.out).mono ?_
  rintro e w3 ⟨rfl, hb⟩
  replace HZ := Lib.hid (HZ.out.next hb)
  replace HW := Lib.hid (HW.out.trans (hb.mono HW.out.size))
  replace HE := Lib.hid (HE.out.next hb)
  clear hb
  go_wp2_with fail
  refine (F38.out _ HE.out).mono ?_
  rintro e w4 ⟨rfl, hb⟩
  replace HZ := Lib.hid (HZ.out.next hb)
  replace HW := Lib.hid (HW.out.trans (hb.mono HW.out.size))
  replace HE := Lib.hid (HE.out.next hb)
  clear hb
  go_wp2_with (first | (refine wpList_dst 44 rfl ?_; refine wpList_run 44 rfl rfl _ (exec_build3 47 (.tmp 41) (.tmp 42) (.tmp 43) rfl _ _ _ _ rfl rfl rfl (qf_build _ _ _ _)) ?_; go_frame))
  refine (F45.out _ HE.out).mono ?_
  rintro e w5 ⟨rfl, hb⟩
  replace HZ := Lib.hid (HZ.out.next hb)
  replace HW := Lib.hid (HW.out.trans (hb.mono HW.out.size))
  replace HE := Lib.hid (HE.out.next hb)
  clear hb
  go_wp2_with (first | (refine wpList_var rfl rfl 26 13 rfl rfl rfl (.tmp 45) rfl [.bool false, .string ByteArray.empty, .string ByteArray.empty] [.bool a.neg, .string a.n, .string a.d] zero_api_Rat rfl rfl rfl size_api_Rat (List.forall_mem_cons.2 ⟨rfl, (List.forall_mem_cons.2 ⟨rfl, (List.forall_mem_cons.2 ⟨rfl, fun _ h => nomatch h⟩)⟩)⟩) ?_; intro w6 HA HBw; replace HZ := Lib.hid (HZ.out.next HBw.out); replace HW := Lib.hid (HW.out.trans (HBw.out.mono HW.out.size)); replace HE := Lib.hid (HE.out.next HBw.out); clear HBw) | (refine wpList_dst 46 rfl ?_; refine wpList_run 46 rfl rfl _ (exec_load 26 (.tmp 13) rfl _ (rv a) rfl (run_load_part _ 26 _ 0 3 _ [.bool a.neg, .string a.n, .string a.d] _ HA.out (by simp) Tryz.underlying26 rfl qr_size)) ?_; go_frame))
  refine (F47.out _ HE.out).mono ?_
  rintro e w7 ⟨rfl, hb⟩
  replace HZ := Lib.hid (HZ.out.next hb)
  replace HW := Lib.hid (HW.out.trans (hb.mono HW.out.size))
  replace HE := Lib.hid (HE.out.next hb)
  replace HA := Lib.hid (HA.out.next hb)
  clear hb
  go_wp2_with (first | (refine wpList_dst 49 rfl ?_; refine wpList_run 49 rfl rfl _ (exec_bin .neq 9 _ (.tmp 47) (.tmp 48) rfl _ _ _ rfl rfl rfl (H49.out _)) ?_; go_frame) | (refine wpList_dst 51 rfl ?_; refine wpList_run 51 rfl rfl _ (exec_load 26 (.tmp 13) rfl _ (rv a) rfl (run_load_part _ 26 _ 0 3 _ [.bool a.neg, .string a.n, .string a.d] _ HA.out (by simp) Tryz.underlying26 rfl qr_size)) ?_; go_frame) | (refine wpList_store_all rfl 26 (.tmp 2) (.tmp 51) rfl (w.heap.size) _ [.bool false, .string ⟨#[]⟩, .string ⟨#[]⟩] [.bool a.neg, .string a.n, .string a.d] rfl rfl HZ.out rfl qr_size (List.forall_mem_cons.2 ⟨rfl, (List.forall_mem_cons.2 ⟨rfl, (List.forall_mem_cons.2 ⟨rfl, fun _ h => nomatch h⟩)⟩)⟩) ?_; intro w9 HK9 ho9; have HO9 := Lib.hid ho9; clear ho9))
  exact bodyPost_ret (results_bt rfl _ _ (w.heap.size) _ [.bool a.neg, .string a.n, .string a.d] (.int .i64 0) _ rfl rfl HK9.out Tryz.underlying26 rfl qr_size) rfl ⟨rfl, HW.out.trans (HO9.out.below (by omega))⟩
set_option maxRecDepth 100000 in
set_option maxHeartbeats 800000 in
theorem Parse_un (s rest above below N D t : ByteArray) (neg : Bool) (e1 e2 : Int) (a : Rv) (w : World) (hE : Env w) (hs : s.size ≤ 400) (ht : decide (t ≠ s) = true) (h20 : (∀ W, Env W → Calls Tryz.prog 34 #[.string s, .string ⟨#[45]⟩] W fun e w' => e = .returned (.tuple #[.string rest, .bool neg]) ∧ Below W.heap.size W w')) (h25 : (∀ W, Env W → Calls Tryz.prog 35 #[.string rest, .string ⟨#[47]⟩] W fun e w' => e = .returned (.tuple #[.string above, .string below, .bool false]) ∧ Below W.heap.size W w')) (h33 : (∀ W, Env W → Calls Tryz.prog 36 #[.string above] W fun e w' => e = .returned (.tuple #[.string N, .int .i64 e1]) ∧ Below W.heap.size W w')) (h38 : (∀ W, Env W → Calls Tryz.prog 36 #[.string ⟨#[49]⟩] W fun e w' => e = .returned (.tuple #[.string D, .int .i64 e2]) ∧ Below W.heap.size W w')) (h45 : (∀ W, Env W → Calls Tryz.prog 37 #[.agg #[.bool neg, .string N, .string D]] W fun e w' => e = .returned (rv a) ∧ Below W.heap.size W w')) (h47 : (∀ W, Env W → Calls Tryz.prog 6 #[rv a] W fun e w' => e = .returned (.string t) ∧ Below W.heap.size W w')) : Calls Tryz.prog 8 #[.string s] w fun e w' => e = .returned (.tuple #[rv zR, .int .i64 27]) ∧ Below w.heap.size w w' := by
  obtain ⟨W1, hW1⟩ : ∃ W, W = w.alloc (.cells #[.bool false, .string ⟨#[]⟩, .string ⟨#[]⟩] 26) := ⟨_, rfl⟩
  have hb1 := (Below.refl w.heap.size w).alloc (Nat.le_refl _) (.cells #[.bool false, .string ⟨#[]⟩, .string ⟨#[]⟩] 26)
  have hz1 := Blk.new w 26 [.bool false, .string ⟨#[]⟩, .string ⟨#[]⟩]
  have HZ : Hid (Blk W1 w.heap.size 26 [.bool false, .string ⟨#[]⟩, .string ⟨#[]⟩]) := Lib.hid (by rw [hW1]; exact hz1)
  have HW : Hid (Below w.heap.size w W1) := Lib.hid (by rw [hW1]; exact hb1)
  have HE := Lib.hid (hE.next HW.out)
  have H49 := Lib.hid (fun W => run_neqQ t s true ht W)
  have c1 : decide (400 < s.size) = false := decide_eq_false (by omega)
  have c2 : decide ((400 : Int) < (s.size : Int)) = false := decide_eq_false (by omega)
  have F20 := Lib.hid h20
  have F25 := Lib.hid h25
  have F33 := Lib.hid h33
  have F38 := Lib.hid h38
  have F45 := Lib.hid h45
  have F47 := Lib.hid h47
  clear hb1 hz1 hE ht hs h20 h25 h33 h38 h45 h47
  go_enter Tryz.func8, Tryz.ntmps8
  go_wp2_with fail
  try rw [← hW1]
  clear hW1
  refine (F20.out _ HE.out).mono ?_
  rintro e w1 ⟨rfl, hb⟩
  replace HZ := Lib.hid (HZ.out.next hb)
  replace HW := Lib.hid (HW.out.trans (hb.mono HW.out.size))
  replace HE := Lib.hid (HE.out.next hb)
  clear hb
  go_wp2_with fail
  refine (F25.out _ HE.out).mono ?_
  rintro e w2 ⟨rfl, hb⟩
  replace HZ := Lib.hid (HZ.out.next hb)
  replace HW := Lib.hid (HW.out.trans (hb.mono HW.out.size))
  replace HE := Lib.hid (HE.out.next hb)
  clear hb
  go_wp2_with fail
  refine (F33.out _ HE.out).mono ?_
  rintro e w3 ⟨rfl, hb⟩
  replace HZ := Lib.hid (HZ.out.next hb)
  replace HW := Lib.hid (HW.out.trans (hb.mono HW.out.size))
  replace HE := Lib.hid (HE.out.next hb)
  clear hb
  go_wp2_with fail
  refine (F38.out _ HE.out).mono ?_
  rintro e w4 ⟨rfl, hb⟩
  replace HZ := Lib.hid (HZ.out.next hb)
  replace HW := Lib.hid (HW.out.trans (hb.mono HW.out.size))
  replace HE := Lib.hid (HE.out.next hb)
  clear hb
  go_wp2_with (first | (refine wpList_dst 44 rfl ?_; refine wpList_run 44 rfl rfl _ (exec_build3 47 (.tmp 41) (.tmp 42) (.tmp 43) rfl _ _ _ _ rfl rfl rfl (qf_build _ _ _ _)) ?_; go_frame))
  refine (F45.out _ HE.out).mono ?_
  rintro e w5 ⟨rfl, hb⟩
  replace HZ := Lib.hid (HZ.out.next hb)
  replace HW := Lib.hid (HW.out.trans (hb.mono HW.out.size))
  replace HE := Lib.hid (HE.out.next hb)
  clear hb
  go_wp2_with (first | (refine wpList_var rfl rfl 26 13 rfl rfl rfl (.tmp 45) rfl [.bool false, .string ByteArray.empty, .string ByteArray.empty] [.bool a.neg, .string a.n, .string a.d] zero_api_Rat rfl rfl rfl size_api_Rat (List.forall_mem_cons.2 ⟨rfl, (List.forall_mem_cons.2 ⟨rfl, (List.forall_mem_cons.2 ⟨rfl, fun _ h => nomatch h⟩)⟩)⟩) ?_; intro w6 HA HBw; replace HZ := Lib.hid (HZ.out.next HBw.out); replace HW := Lib.hid (HW.out.trans (HBw.out.mono HW.out.size)); replace HE := Lib.hid (HE.out.next HBw.out); clear HBw) | (refine wpList_dst 46 rfl ?_; refine wpList_run 46 rfl rfl _ (exec_load 26 (.tmp 13) rfl _ (rv a) rfl (run_load_part _ 26 _ 0 3 _ [.bool a.neg, .string a.n, .string a.d] _ HA.out (by simp) Tryz.underlying26 rfl qr_size)) ?_; go_frame))
  refine (F47.out _ HE.out).mono ?_
  rintro e w7 ⟨rfl, hb⟩
  replace HZ := Lib.hid (HZ.out.next hb)
  replace HW := Lib.hid (HW.out.trans (hb.mono HW.out.size))
  replace HE := Lib.hid (HE.out.next hb)
  replace HA := Lib.hid (HA.out.next hb)
  clear hb
  go_wp2_with (first | (refine wpList_dst 49 rfl ?_; refine wpList_run 49 rfl rfl _ (exec_bin .neq 9 _ (.tmp 47) (.tmp 48) rfl _ _ _ rfl rfl rfl (H49.out _)) ?_; go_frame) | (refine wpList_dst 50 rfl ?_; refine wpList_run 50 rfl rfl _ (exec_build0 26 rfl _ (qr_nil _)) ?_; go_frame) | (refine wpList_store_all rfl 26 (.tmp 2) (.tmp 50) rfl (w.heap.size) _ [.bool false, .string ⟨#[]⟩, .string ⟨#[]⟩] [.bool false, .string ⟨#[]⟩, .string ⟨#[]⟩] rfl rfl HZ.out rfl qr_size (List.forall_mem_cons.2 ⟨rfl, (List.forall_mem_cons.2 ⟨rfl, (List.forall_mem_cons.2 ⟨rfl, fun _ h => nomatch h⟩)⟩)⟩) ?_; intro w9 HK9 ho9; have HO9 := Lib.hid ho9; clear ho9))
  exact bodyPost_ret (results_bt rfl _ _ (w.heap.size) _ [.bool false, .string ⟨#[]⟩, .string ⟨#[]⟩] (.int .i64 27) _ rfl rfl HK9.out Tryz.underlying26 rfl qr_size) rfl ⟨rfl, HW.out.trans (HO9.out.below (by omega))⟩
theorem cutprefix_env (s : ByteArray) (W : World) : Calls Tryz.prog 34 #[.string s, .string ⟨#[45]⟩] W fun e w' => e = .returned (.tuple #[.string (sb (rsL s.data.toList)), .bool (ngL s.data.toList)]) ∧ Below W.heap.size W w' := by
  refine (Tryz.strings_CutPrefix s ⟨#[45]⟩ W).mono ?_
  rintro e w' ⟨rfl, rfl⟩
  exact ⟨rfl, Below.refl _ _⟩
theorem cut_env (s : List UInt8) (hs : s.length ≤ 1000) (W : World) (hE : Env W) : Calls Tryz.prog 35 #[.string (sb s), .string ⟨#[47]⟩] W fun e w' => e = .returned (.tuple #[.string (sb (Lib.cut s [47]).1), .string (sb (Lib.cut s [47]).2.1), .bool (Lib.cut s [47]).2.2]) ∧ Below W.heap.size W w' := by
  obtain ⟨m, hm⟩ := hE.mx
  refine (Tryz.strings_Cut (sb s) ⟨#[47]⟩ m W (by rw [sb_size]; omega) hm).mono ?_
  rintro e w' ⟨rfl, n, rfl⟩
  rw [sb_list]
  exact ⟨rfl, drewN_below (Below.refl _ _) n⟩
theorem rat_env (b : Bool) (x y : ByteArray) (W : World) : Calls Tryz.prog 37 #[.agg #[.bool b, .string x, .string y]] W fun e w' => e = .returned (rv (if x = ⟨#[]⟩ then zR else ⟨b, x, y⟩)) ∧ Below W.heap.size W w' := by
  by_cases h : x = ⟨#[]⟩
  · rw [if_pos h]; exact qrat_zero b x y W h
  · rw [if_neg h]; exact qrat_pos b x y W h
theorem Parse_core (s : ByteArray) (w : World) (hE : Env w) (hs : s.size ≤ 400) (r : Rv) (er : Int) (hr : (txtQ (valR (parA s.data.toList)) = s.data.toList ∧ r = parA s.data.toList ∧ er = 0) ∨ (txtQ (valR (parA s.data.toList)) ≠ s.data.toList ∧ r = zR ∧ er = 27)) : Calls Tryz.prog 8 #[.string s] w fun e w' => e = .returned (.tuple #[rv r, .int .i64 er]) ∧ Below w.heap.size w w' := by
  have hl : s.data.toList.length = s.size := Array.length_toList
  have h1 := cu_len s.data.toList
  have hp := par_size s.data.toList (by omega)
  have hcl : (cuL s.data.toList).1.length ≤ 20000 := by omega
  have hbl : (blL s.data.toList).length ≤ 20000 := by omega
  have h20 := fun (W : World) (_ : Env W) => cutprefix_env s W
  have h25 := fun (W : World) (h : Env W) => cut_env (rsL s.data.toList) (by have := rs_len s.data.toList; omega) W h
  have h33 := fun (W : World) (_ : Env W) => parse_pn (cuL s.data.toList).1 W hcl
  have h38 := fun (W : World) (_ : Env W) => parse_pn (blL s.data.toList) W hbl
  have h45 : ∀ W, Env W → Calls Tryz.prog 37 #[.agg #[.bool (ngL s.data.toList), .string (pn (cuL s.data.toList).1), .string (pn (blL s.data.toList))]] W fun e w' => e = .returned (rv (parA s.data.toList)) ∧ Below W.heap.size W w' := fun W _ => rat_env (ngL s.data.toList) (pn (cuL s.data.toList).1) (pn (blL s.data.toList)) W
  have h47 := fun (W : World) (h : Env W) => Text_any (parA s.data.toList) W h.pow hp
  have hsz : ∀ l : List UInt8, (decide (sb l ≠ s) = false ↔ l = s.data.toList) := fun l => by
    rw [decide_eq_false_iff_not, Decidable.not_not]
    exact ⟨fun e => by rw [← e, sb_list], fun e => by rw [e, sb_of]⟩
  change ∀ W, Env W → Calls _ _ _ W fun e w' => e = .returned (.tuple #[.string (sb (cuL s.data.toList).1), .string (sb (cuL s.data.toList).2.1), .bool (cuL s.data.toList).2.2]) ∧ _ at h25
  by_cases hc : (cuL s.data.toList).2.2 = true
  · have hb2 : blL s.data.toList = (cuL s.data.toList).2.1 := by unfold blL; rw [if_pos hc]
    rw [hc] at h25
    rw [hb2] at h38
    rcases hr with ⟨e1, rfl, rfl⟩ | ⟨e1, rfl, rfl⟩
    · exact Parse_cy s _ _ _ _ _ _ _ _ _ (parA s.data.toList) w hE hs ((hsz _).2 e1) h20 h25 h33 h38 (by rw [hb2] at h45; exact h45) h47
    · exact Parse_cn s _ _ _ _ _ _ _ _ _ (parA s.data.toList) w hE hs (by rw [← Bool.not_eq_false]; exact fun h => e1 ((hsz _).1 h)) h20 h25 h33 h38 (by rw [hb2] at h45; exact h45) h47
  · rw [Bool.not_eq_true] at hc
    have hb2 : blL s.data.toList = [49] := by unfold blL; rw [if_neg (by rw [hc]; decide)]
    rw [hc] at h25
    rw [hb2] at h38
    rcases hr with ⟨e1, rfl, rfl⟩ | ⟨e1, rfl, rfl⟩
    · exact Parse_uy s _ _ _ _ _ _ _ _ _ (parA s.data.toList) w hE hs ((hsz _).2 e1) h20 h25 h33 h38 (by rw [hb2] at h45; exact h45) h47
    · exact Parse_un s _ _ _ _ _ _ _ _ _ (parA s.data.toList) w hE hs (by rw [← Bool.not_eq_false]; exact fun h => e1 ((hsz _).1 h)) h20 h25 h33 h38 (by rw [hb2] at h45; exact h45) h47
theorem Parse_yes (q : Rat) (s : ByteArray) (w : World) (hE : Env w) (hs : s.size ≤ 400) (h : s = sb (txtQ q)) : Calls Tryz.prog 8 #[.string s] w fun e w' => e = .returned (.tuple #[rv (rt q), .int .i64 0]) ∧ Below w.heap.size w w' := by
  have hl : s.data.toList = txtQ q := by rw [h, sb_list]
  refine Parse_core s w hE hs (rt q) 0 (.inl ⟨?_, ?_, rfl⟩)
  · rw [hl, par_txt, val_rt]
  · rw [hl, par_txt]
theorem Parse_no (s : ByteArray) (w : World) (hE : Env w) (hs : s.size ≤ 400) (h : ∀ q, s ≠ sb (txtQ q)) : Calls Tryz.prog 8 #[.string s] w fun e w' => e = .returned (.tuple #[rv (rt 0), .int .i64 27]) ∧ Below w.heap.size w w' := by
  rw [rt_zero]
  exact Parse_core s w hE hs zR 27 (.inr ⟨fun e => h (valR (parA s.data.toList)) (by rw [e, sb_of]), rfl, rfl⟩)
theorem txt_inj {p q : Rat} (h : txtQ p = txtQ q) : p = q := rt_inj (by rw [← par_txt, h, par_txt])
end Go.Proofs.YtpmlihhofmblpaaGreatDoor
