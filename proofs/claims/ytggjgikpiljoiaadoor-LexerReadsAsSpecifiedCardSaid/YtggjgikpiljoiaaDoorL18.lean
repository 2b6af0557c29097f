/- The examples of the document, as the program answers them. -/
import Derived.Test.YtggjgikpiljoiaaDoorL14
import Derived.Test.YtggjgikpiljoiaaDoorL16
import Derived.Test.YtggjgikpiljoiaaDoorL17
import Derived.Deep.DeepCutAuto
namespace Go.Proofs.YtggjgikpiljoiaaDoor
open Go.RowKit Hm Wm Lx

theorem tk_f (g o k : Nat) (hk : k = 0 ∨ k = 1 ∨ k = 2 ∨ k = 3) (W : World) : (Instr.fieldAt 33 (.pointer (some ⟨g, o, none⟩)) k).run Tryd.prog W = .ok (.pointer (some ⟨g, o + k, none⟩)) W := by
  rcases hk with rfl | rfl | rfl | rfl <;> kernel_rfl
theorem rgc {W : World} {b off : Nat} {l : List TI} (h : W.rangeAt b off (tL l)) (i j : Nat) {v : Value} (hv : (tL l)[i * 4 + j]? = some v) : W.cell? ⟨b, off + i * 4 + j, none⟩ = some v := by
  rw [Nat.add_assoc]; exact h _ _ hv
theorem rgt {W : World} {b off : Nat} {l : List TI} (h : W.rangeAt b off (tL l)) {i : Nat} {x : TI} (hx : l[i]? = some x) : W.rangeAt b (off + i * 4) (cT x) := fun j u hu => by
  obtain ⟨hi, rfl⟩ := List.getElem?_eq_some_iff.1 hx
  exact rgc h i j (tL_at l hi j u hu)
theorem rdT_of {W : World} {b off : Nat} {l : List TI} (h : W.rangeAt b off (tL l)) : RdT W (some ⟨b, off, none⟩) l := fun _ => ⟨b, off, rfl, h⟩
theorem str_lit (s : ByteArray) (W : World) (b : Bool) (t : ByteArray) (h : (s.toList == t.toList) = b) : (binOp .eql 9 (.string s) (.string t)).run Tryd.prog W = .ok (.bool b) W := by rw [binOp_string_eql, Sem.run_pure, h]
theorem str_same (s : ByteArray) (W : World) : (binOp .eql 9 (.string s) (.string s)).run Tryd.prog W = .ok (.bool true) W := str_lit s W true s (beq_self_eq_true _)
/-- What Tokens returns of a source that has some tokens; of one that has a problem. -/
theorem tok_yes (l : List UInt8) (T : List Tok) (L : List TI) (n : Nat) (hl : l.length ≤ 65536) (h : lex l 0 = .ok T) (hL : T.map toT = L) (hn : L.length = n) (h0 : 0 < n) (w : World) (hE : Env w) :
    Calls Tryd.prog 9 #[.string (sb l)] w fun e w' => (∃ b off c, e = .returned (.tuple #[.slice (some ⟨b, off, none⟩) n c, .agg #[.int .i64 0, .int .i64 0]]) ∧ w'.rangeAt b off (tL L)) ∧ Below w.heap.size w w' := by
  refine (tokens_ok l w hl hE).mono fun e w' hq => ?_
  rw [h] at hq
  obtain ⟨v, h1, h2, h3⟩ := hq
  rw [hL] at h2
  obtain ⟨A, c, rfl, hc, hr⟩ := h2.reads
  obtain ⟨b, off, rfl, hrg⟩ := hr (by intro e; have := tL_len L; rw [e] at this; simp at this; omega)
  subst hn
  exact ⟨⟨b, off, c, h1, hrg⟩, h3⟩
theorem tok_no (l : List UInt8) (x k : Nat) (hl : l.length ≤ 65536) (h : lex l 0 = .bad x k) (w : World) (hE : Env w) :
    Calls Tryd.prog 9 #[.string (sb l)] w fun e w' => e = .returned (.tuple #[.slice none 0 0, .agg #[.int .i64 x, .int .i64 k]]) ∧ Below w.heap.size w w' := by
  refine (tokens_ok l w hl hE).mono fun e w' hq => ?_
  rw [h] at hq
  exact hq
def SL0 : List TI := [⟨1, 0, ⟨#[97]⟩, 0⟩, ⟨4, 1, ⟨#[45, 62]⟩, 0⟩, ⟨1, 3, ⟨#[98, 49]⟩, 0⟩, ⟨2, 6, ByteArray.empty, 12⟩, ⟨4, 8, ⟨#[46, 46]⟩, 0⟩, ⟨2, 10, ByteArray.empty, 3⟩, ⟨5, 15, ByteArray.empty, 0⟩]
theorem sx0 : lex [97, 45, 62, 98, 49, 32, 49, 50, 46, 46, 51, 32, 35, 32, 120] 0 = .ok [⟨1, 0, [97], 0⟩, ⟨4, 1, [45, 62], 0⟩, ⟨1, 3, [98, 49], 0⟩, ⟨2, 6, [], 12⟩, ⟨4, 8, [46, 46], 0⟩, ⟨2, 10, [], 3⟩, ⟨5, 15, [], 0⟩] := by kernel_rfl
theorem sm0 : ([⟨1, 0, [97], 0⟩, ⟨4, 1, [45, 62], 0⟩, ⟨1, 3, [98, 49], 0⟩, ⟨2, 6, [], 12⟩, ⟨4, 8, [46, 46], 0⟩, ⟨2, 10, [], 3⟩, ⟨5, 15, [], 0⟩] : List Tok).map toT = SL0 := by kernel_rfl
def SL1 : List TI := [⟨3, 0, ⟨#[97, 34, 10]⟩, 0⟩, ⟨5, 7, ByteArray.empty, 0⟩]
theorem sx1 : lex [34, 97, 92, 34, 92, 110, 34] 0 = .ok [⟨3, 0, [97, 34, 10], 0⟩, ⟨5, 7, [], 0⟩] := by kernel_rfl
theorem sm1 : ([⟨3, 0, [97, 34, 10], 0⟩, ⟨5, 7, [], 0⟩] : List Tok).map toT = SL1 := by kernel_rfl
def SL2 : List TI := [⟨4, 0, ⟨#[61, 61]⟩, 0⟩, ⟨4, 2, ⟨#[61]⟩, 0⟩, ⟨4, 4, ⟨#[33, 61]⟩, 0⟩, ⟨4, 6, ⟨#[61]⟩, 0⟩, ⟨5, 7, ByteArray.empty, 0⟩]
theorem sx2 : lex [61, 61, 61, 32, 33, 61, 61] 0 = .ok [⟨4, 0, [61, 61], 0⟩, ⟨4, 2, [61], 0⟩, ⟨4, 4, [33, 61], 0⟩, ⟨4, 6, [61], 0⟩, ⟨5, 7, [], 0⟩] := by kernel_rfl
theorem sm2 : ([⟨4, 0, [61, 61], 0⟩, ⟨4, 2, [61], 0⟩, ⟨4, 4, [33, 61], 0⟩, ⟨4, 6, [61], 0⟩, ⟨5, 7, [], 0⟩] : List Tok).map toT = SL2 := by kernel_rfl
theorem sx3 : lex [120, 32, 48, 49, 50] 0 = .bad 2 27 := by kernel_rfl
theorem sx4 : lex [120, 32, 51, 121] 0 = .bad 2 27 := by kernel_rfl
theorem sx5 : lex [34, 97] 0 = .bad 0 28 := by kernel_rfl
theorem sx6 : lex [120, 32, 36] 0 = .bad 2 26 := by kernel_rfl
theorem stx : textI SL0 = [97, 32, 45, 62, 32, 98, 49, 32, 49, 50, 32, 46, 46, 32, 51] := by kernel_rfl
theorem pe_2_27 (W : World) : (binOp .eql 26 (.agg #[.int .i64 2, .int .i64 27]) (.agg #[.int .i64 2, .int .i64 27])).run Tryd.prog W = .ok (.bool true) W := by kernel_rfl
theorem pe_0_28 (W : World) : (binOp .eql 26 (.agg #[.int .i64 0, .int .i64 28]) (.agg #[.int .i64 0, .int .i64 28])).run Tryd.prog W = .ok (.bool true) W := by kernel_rfl
theorem pe_2_26 (W : World) : (binOp .eql 26 (.agg #[.int .i64 2, .int .i64 26]) (.agg #[.int .i64 2, .int .i64 26])).run Tryd.prog W = .ok (.bool true) W := by kernel_rfl
theorem pe_0_0 (W : World) : (binOp .eql 26 (.agg #[.int .i64 0, .int .i64 0]) (.agg #[.int .i64 0, .int .i64 0])).run Tryd.prog W = .ok (.bool true) W := by kernel_rfl
theorem pe_g (x y : Operand) (xs ys : Array Value) (W : World) : (eqGuard .eql 26 x y (.agg xs) (.agg ys)).run Tryd.prog W = .ok () W := run_eqGuard_agg W .eql _ x y xs ys (by kernel_rfl)
theorem te_g (x y : Operand) (xs ys : Array Value) (W : World) : (eqGuard .eql 33 x y (.agg xs) (.agg ys)).run Tryd.prog W = .ok () W := run_eqGuard_agg W .eql _ x y xs ys (by kernel_rfl)
theorem te_1 (W : World) : (binOp .eql 33 (vT ⟨4, 1, ⟨#[45, 62]⟩, 0⟩) (.agg #[.int .i64 4, .int .i64 1, .string ⟨#[45, 62]⟩, .int .i64 0])).run Tryd.prog W = .ok (.bool true) W := by kernel_rfl
theorem te_3 (W : World) : (binOp .eql 33 (vT ⟨2, 6, ByteArray.empty, 12⟩) (.agg #[.int .i64 2, .int .i64 6, .string ByteArray.empty, .int .i64 12])).run Tryd.prog W = .ok (.bool true) W := by kernel_rfl
theorem te_6 (W : World) : (binOp .eql 33 (vT ⟨5, 15, ByteArray.empty, 0⟩) (.agg #[.int .i64 5, .int .i64 15, .string ByteArray.empty, .int .i64 0])).run Tryd.prog W = .ok (.bool true) W := by kernel_rfl
theorem pos_c (w : World) : Calls Tryd.prog 15 #[.string ⟨#[97, 10, 98, 99]⟩, .int .i64 3] w fun e w' => e = .returned (.tuple #[.int .i64 2, .int .i64 2]) ∧ w = w' := (pos_yes [97, 10, 98, 99] 3 w (by decide) (by decide)).mono fun e w' h => ⟨h.1, h.2⟩
theorem exec_lenT {oi : Oper} {a : Act} {w : World} (x : Operand) (ho : oi.op = .call { callee := .builtin .len, args := #[x], argTypes := #[23] }) (A : Option Addr) (n c : Nat) (hx : a.eval x = .slice A n c) : (execOp a.eval oi).run Tryd.prog w = .ok (.value (.int .i64 n)) w := by
  have hu := Tryd.underlying23
  simp [execOp, ho, hx, resolve, invoke, builtin, Builtin.len_, run_underlying hu, goInt]
set_option maxRecDepth 1000000 in
set_option maxHeartbeats 4000000 in
theorem sanity_any (w : World) (hE : Env w) : Calls Tryd.prog 8 #[] w fun e w' => e = .returned (.bool true) ∧ Below w.heap.size w w' := by
  have HE := Lib.hid hE
  have HW := Lib.hid (Below.refl w.heap.size w)
  clear hE
  go_enter Tryd.func8, Tryd.ntmps8
  go_upto_region 2 with (first | (refine (tok_yes [97, 45, 62, 98, 49, 32, 49, 50, 46, 46, 51, 32, 35, 32, 120] _ SL0 7 (by decide) sx0 sm0 rfl (by decide) _ HE.out).mono ?_; rintro e a0 ⟨⟨b0, o0, c0, rfl, hr⟩, hb⟩; replace HE := Lib.hid (HE.out.next hb); replace HW := Lib.hid (HW.out.trans (hb.mono HW.out.size)); have HR0 := Lib.hid hr; clear hr hb) | (refine wpList_new rfl 26 rfl [.int .i64 0, .int .i64 0] pb_zero ?_; intro d0 HP0 HB0) | (refine wpList_store_all rfl 26 (.tmp 2) (.tmp 22) rfl a0.heap.size 26 [.int .i64 0, .int .i64 0] [.int .i64 0, .int .i64 0] rfl rfl HP0.out rfl pb_size (List.forall_mem_cons.2 ⟨rfl, (List.forall_mem_cons.2 ⟨rfl, fun _ h => nomatch h⟩)⟩) ?_; intro f0 HQ0 ho; have hb := HB0.out.trans (ho.below (Nat.le_refl _)); replace HE := Lib.hid (HE.out.next hb); replace HW := Lib.hid (HW.out.trans (hb.mono HW.out.size)); replace HR0 := Lib.hid (range_below' HR0.out hb); clear hb ho HP0 HB0))
  go_upto_region 3 with (first | (refine (tok_yes [34, 97, 92, 34, 92, 110, 34] _ SL1 2 (by decide) sx1 sm1 rfl (by decide) _ HE.out).mono ?_; rintro e a1 ⟨⟨b1, o1, c1, rfl, hr⟩, hb⟩; replace HE := Lib.hid (HE.out.next hb); replace HW := Lib.hid (HW.out.trans (hb.mono HW.out.size)); replace HR0 := Lib.hid (range_below' HR0.out hb); replace HQ0 := Lib.hid (HQ0.out.next hb); have HR1 := Lib.hid hr; clear hr hb) | (refine wpList_new rfl 26 rfl [.int .i64 0, .int .i64 0] pb_zero ?_; intro d1 HP1 HB1) | (refine wpList_store_all rfl 26 (.tmp 4) (.tmp 26) rfl a1.heap.size 26 [.int .i64 0, .int .i64 0] [.int .i64 0, .int .i64 0] rfl rfl HP1.out rfl pb_size (List.forall_mem_cons.2 ⟨rfl, (List.forall_mem_cons.2 ⟨rfl, fun _ h => nomatch h⟩)⟩) ?_; intro f1 HQ1 ho; have hb := HB1.out.trans (ho.below (Nat.le_refl _)); replace HE := Lib.hid (HE.out.next hb); replace HW := Lib.hid (HW.out.trans (hb.mono HW.out.size)); replace HR0 := Lib.hid (range_below' HR0.out hb); replace HQ0 := Lib.hid (HQ0.out.next hb); replace HR1 := Lib.hid (range_below' HR1.out hb); clear hb ho HP1 HB1))
  go_upto_region 4 with (first | (refine (tok_yes [61, 61, 61, 32, 33, 61, 61] _ SL2 5 (by decide) sx2 sm2 rfl (by decide) _ HE.out).mono ?_; rintro e a2 ⟨⟨b2, o2, c2, rfl, hr⟩, hb⟩; replace HE := Lib.hid (HE.out.next hb); replace HW := Lib.hid (HW.out.trans (hb.mono HW.out.size)); replace HR0 := Lib.hid (range_below' HR0.out hb); replace HQ0 := Lib.hid (HQ0.out.next hb); replace HR1 := Lib.hid (range_below' HR1.out hb); replace HQ1 := Lib.hid (HQ1.out.next hb); have HR2 := Lib.hid hr; clear hr hb) | (refine wpList_new rfl 26 rfl [.int .i64 0, .int .i64 0] pb_zero ?_; intro d2 HP2 HB2) | (refine wpList_store_all rfl 26 (.tmp 6) (.tmp 30) rfl a2.heap.size 26 [.int .i64 0, .int .i64 0] [.int .i64 0, .int .i64 0] rfl rfl HP2.out rfl pb_size (List.forall_mem_cons.2 ⟨rfl, (List.forall_mem_cons.2 ⟨rfl, fun _ h => nomatch h⟩)⟩) ?_; intro f2 HQ2 ho; have hb := HB2.out.trans (ho.below (Nat.le_refl _)); replace HE := Lib.hid (HE.out.next hb); replace HW := Lib.hid (HW.out.trans (hb.mono HW.out.size)); replace HR0 := Lib.hid (range_below' HR0.out hb); replace HQ0 := Lib.hid (HQ0.out.next hb); replace HR1 := Lib.hid (range_below' HR1.out hb); replace HQ1 := Lib.hid (HQ1.out.next hb); replace HR2 := Lib.hid (range_below' HR2.out hb); clear hb ho HP2 HB2))
  go_upto_region 5 with (first | (refine (tok_no [120, 32, 48, 49, 50] 2 27 (by decide) sx3 _ HE.out).mono ?_; rintro e a3 ⟨rfl, hb⟩; replace HE := Lib.hid (HE.out.next hb); replace HW := Lib.hid (HW.out.trans (hb.mono HW.out.size)); replace HR0 := Lib.hid (range_below' HR0.out hb); replace HQ0 := Lib.hid (HQ0.out.next hb); replace HR1 := Lib.hid (range_below' HR1.out hb); replace HQ1 := Lib.hid (HQ1.out.next hb); replace HR2 := Lib.hid (range_below' HR2.out hb); replace HQ2 := Lib.hid (HQ2.out.next hb); clear hb) | (refine wpList_new rfl 26 rfl [.int .i64 0, .int .i64 0] pb_zero ?_; intro d3 HP3 HB3) | (refine wpList_store_all rfl 26 (.tmp 8) (.tmp 34) rfl a3.heap.size 26 [.int .i64 0, .int .i64 0] [.int .i64 2, .int .i64 27] rfl rfl HP3.out rfl pb_size (List.forall_mem_cons.2 ⟨rfl, (List.forall_mem_cons.2 ⟨rfl, fun _ h => nomatch h⟩)⟩) ?_; intro f3 HQ3 ho; have hb := HB3.out.trans (ho.below (Nat.le_refl _)); replace HE := Lib.hid (HE.out.next hb); replace HW := Lib.hid (HW.out.trans (hb.mono HW.out.size)); replace HR0 := Lib.hid (range_below' HR0.out hb); replace HQ0 := Lib.hid (HQ0.out.next hb); replace HR1 := Lib.hid (range_below' HR1.out hb); replace HQ1 := Lib.hid (HQ1.out.next hb); replace HR2 := Lib.hid (range_below' HR2.out hb); replace HQ2 := Lib.hid (HQ2.out.next hb); clear hb ho HP3 HB3))
  go_upto_region 6 with (first | (refine (tok_no [120, 32, 51, 121] 2 27 (by decide) sx4 _ HE.out).mono ?_; rintro e a4 ⟨rfl, hb⟩; replace HE := Lib.hid (HE.out.next hb); replace HW := Lib.hid (HW.out.trans (hb.mono HW.out.size)); replace HR0 := Lib.hid (range_below' HR0.out hb); replace HQ0 := Lib.hid (HQ0.out.next hb); replace HR1 := Lib.hid (range_below' HR1.out hb); replace HQ1 := Lib.hid (HQ1.out.next hb); replace HR2 := Lib.hid (range_below' HR2.out hb); replace HQ2 := Lib.hid (HQ2.out.next hb); replace HQ3 := Lib.hid (HQ3.out.next hb); clear hb) | (refine wpList_new rfl 26 rfl [.int .i64 0, .int .i64 0] pb_zero ?_; intro d4 HP4 HB4) | (refine wpList_store_all rfl 26 (.tmp 10) (.tmp 38) rfl a4.heap.size 26 [.int .i64 0, .int .i64 0] [.int .i64 2, .int .i64 27] rfl rfl HP4.out rfl pb_size (List.forall_mem_cons.2 ⟨rfl, (List.forall_mem_cons.2 ⟨rfl, fun _ h => nomatch h⟩)⟩) ?_; intro f4 HQ4 ho; have hb := HB4.out.trans (ho.below (Nat.le_refl _)); replace HE := Lib.hid (HE.out.next hb); replace HW := Lib.hid (HW.out.trans (hb.mono HW.out.size)); replace HR0 := Lib.hid (range_below' HR0.out hb); replace HQ0 := Lib.hid (HQ0.out.next hb); replace HR1 := Lib.hid (range_below' HR1.out hb); replace HQ1 := Lib.hid (HQ1.out.next hb); replace HR2 := Lib.hid (range_below' HR2.out hb); replace HQ2 := Lib.hid (HQ2.out.next hb); replace HQ3 := Lib.hid (HQ3.out.next hb); clear hb ho HP4 HB4))
  go_upto_region 7 with (first | (refine (tok_no [34, 97] 0 28 (by decide) sx5 _ HE.out).mono ?_; rintro e a5 ⟨rfl, hb⟩; replace HE := Lib.hid (HE.out.next hb); replace HW := Lib.hid (HW.out.trans (hb.mono HW.out.size)); replace HR0 := Lib.hid (range_below' HR0.out hb); replace HQ0 := Lib.hid (HQ0.out.next hb); replace HR1 := Lib.hid (range_below' HR1.out hb); replace HQ1 := Lib.hid (HQ1.out.next hb); replace HR2 := Lib.hid (range_below' HR2.out hb); replace HQ2 := Lib.hid (HQ2.out.next hb); replace HQ3 := Lib.hid (HQ3.out.next hb); replace HQ4 := Lib.hid (HQ4.out.next hb); clear hb) | (refine wpList_new rfl 26 rfl [.int .i64 0, .int .i64 0] pb_zero ?_; intro d5 HP5 HB5) | (refine wpList_store_all rfl 26 (.tmp 12) (.tmp 42) rfl a5.heap.size 26 [.int .i64 0, .int .i64 0] [.int .i64 0, .int .i64 28] rfl rfl HP5.out rfl pb_size (List.forall_mem_cons.2 ⟨rfl, (List.forall_mem_cons.2 ⟨rfl, fun _ h => nomatch h⟩)⟩) ?_; intro f5 HQ5 ho; have hb := HB5.out.trans (ho.below (Nat.le_refl _)); replace HE := Lib.hid (HE.out.next hb); replace HW := Lib.hid (HW.out.trans (hb.mono HW.out.size)); replace HR0 := Lib.hid (range_below' HR0.out hb); replace HQ0 := Lib.hid (HQ0.out.next hb); replace HR1 := Lib.hid (range_below' HR1.out hb); replace HQ1 := Lib.hid (HQ1.out.next hb); replace HR2 := Lib.hid (range_below' HR2.out hb); replace HQ2 := Lib.hid (HQ2.out.next hb); replace HQ3 := Lib.hid (HQ3.out.next hb); replace HQ4 := Lib.hid (HQ4.out.next hb); clear hb ho HP5 HB5))
  go_upto_region 8 with (first | (refine (tok_no [120, 32, 36] 2 26 (by decide) sx6 _ HE.out).mono ?_; rintro e a6 ⟨rfl, hb⟩; replace HE := Lib.hid (HE.out.next hb); replace HW := Lib.hid (HW.out.trans (hb.mono HW.out.size)); replace HR0 := Lib.hid (range_below' HR0.out hb); replace HQ0 := Lib.hid (HQ0.out.next hb); replace HR1 := Lib.hid (range_below' HR1.out hb); replace HQ1 := Lib.hid (HQ1.out.next hb); replace HR2 := Lib.hid (range_below' HR2.out hb); replace HQ2 := Lib.hid (HQ2.out.next hb); replace HQ3 := Lib.hid (HQ3.out.next hb); replace HQ4 := Lib.hid (HQ4.out.next hb); replace HQ5 := Lib.hid (HQ5.out.next hb); clear hb) | (refine wpList_new rfl 26 rfl [.int .i64 0, .int .i64 0] pb_zero ?_; intro d6 HP6 HB6) | (refine wpList_store_all rfl 26 (.tmp 14) (.tmp 46) rfl a6.heap.size 26 [.int .i64 0, .int .i64 0] [.int .i64 2, .int .i64 26] rfl rfl HP6.out rfl pb_size (List.forall_mem_cons.2 ⟨rfl, (List.forall_mem_cons.2 ⟨rfl, fun _ h => nomatch h⟩)⟩) ?_; intro f6 HQ6 ho; have hb := HB6.out.trans (ho.below (Nat.le_refl _)); replace HE := Lib.hid (HE.out.next hb); replace HW := Lib.hid (HW.out.trans (hb.mono HW.out.size)); replace HR0 := Lib.hid (range_below' HR0.out hb); replace HQ0 := Lib.hid (HQ0.out.next hb); replace HR1 := Lib.hid (range_below' HR1.out hb); replace HQ1 := Lib.hid (HQ1.out.next hb); replace HR2 := Lib.hid (range_below' HR2.out hb); replace HQ2 := Lib.hid (HQ2.out.next hb); replace HQ3 := Lib.hid (HQ3.out.next hb); replace HQ4 := Lib.hid (HQ4.out.next hb); replace HQ5 := Lib.hid (HQ5.out.next hb); clear hb ho HP6 HB6))
  go_upto_region 9 with (first | (refine (pos_c _).mono ?_; rintro e w20 ⟨rfl, rfl⟩))
  refine wp_region_lit ?_
  refine wpList_run 51 rfl rfl (.slice (some ⟨b0, o0, none⟩) 7 c0) (exec_move (.tmp 1) rfl _ rfl) ?_
  go_frame
  refine wpList_run 52 rfl rfl (.int .i64 7) (exec_lenT (.tmp 51) rfl _ 7 _ rfl) ?_
  go_frame
  refine wpList_run 53 rfl rfl (.bool false) (exec_neqT _ _ _ _ rfl .i64 (7) rfl rfl) ?_
  go_frame
  refine wpList_run 54 rfl rfl (.bool false) (exec_move (.tmp 53) rfl _ rfl) ?_
  go_frame
  refine wpList_runG 55 rfl (by first | rfl | kernel_rfl) (.slice (some ⟨b1, o1, none⟩) 2 c1) (exec_move (.tmp 3) rfl _ rfl) ?_
  go_frame
  refine wpList_runG 56 rfl (by first | rfl | kernel_rfl) (.int .i64 2) (exec_lenT (.tmp 55) rfl _ 2 _ rfl) ?_
  go_frame
  refine wpList_runG 57 rfl (by first | rfl | kernel_rfl) (.bool false) (exec_neqT _ _ _ _ rfl .i64 (2) rfl rfl) ?_
  go_frame
  refine wpList_run 58 rfl rfl (.bool false) (exec_pickF _ _ _ rfl (.bool false) rfl rfl) ?_
  go_frame
  refine wpList_run 59 rfl rfl (.bool false) (exec_move (.tmp 58) rfl _ rfl) ?_
  go_frame
  refine wpList_runG 60 rfl (by first | rfl | kernel_rfl) (.slice (some ⟨b2, o2, none⟩) 5 c2) (exec_move (.tmp 5) rfl _ rfl) ?_
  go_frame
  refine wpList_runG 61 rfl (by first | rfl | kernel_rfl) (.int .i64 5) (exec_lenT (.tmp 60) rfl _ 5 _ rfl) ?_
  go_frame
  refine wpList_runG 62 rfl (by first | rfl | kernel_rfl) (.bool false) (exec_neqT _ _ _ _ rfl .i64 (5) rfl rfl) ?_
  go_frame
  refine wpList_run 63 rfl rfl (.bool false) (exec_pickF _ _ _ rfl (.bool false) rfl rfl) ?_
  go_frame
  refine wpList_nil ?_
  go_upto_region 11 with fail
  refine wp_region_lit ?_
  refine wpList_run 64 rfl rfl (.slice (some ⟨b2, o2, none⟩) 5 c2) (exec_move (.tmp 5) rfl _ rfl) ?_
  go_frame
  refine wpList_run 65 rfl rfl (.pointer (some ⟨b2, o2 + 0 * 4, none⟩)) (exec_atT (.tmp 64) (.const (.int .i64 0)) rfl b2 o2 5 c2 0 (by decide) rfl rfl) ?_
  go_frame
  refine wpList_run 66 rfl rfl (.pointer (some ⟨b2, o2 + 0 * 4 + 2, none⟩)) (exec_fieldAddr 33 (.tmp 65) 2 rfl _ _ rfl (tk_f _ _ 2 (by decide) _)) ?_
  go_frame
  refine wpList_run 67 rfl rfl (.string ⟨#[61, 61]⟩) (exec_load 9 (.tmp 66) rfl _ (.string ⟨#[61, 61]⟩) rfl (run_load_cell str_flat (rgc HR2.out 0 2 rfl))) ?_
  go_frame
  refine wpList_run 68 rfl rfl (.bool true) (exec_bin .eql 9 _ (.tmp 67) _ rfl (.string ⟨#[61, 61]⟩) (.string ⟨#[61, 61]⟩) (.bool true) rfl rfl rfl (str_same _ _)) ?_
  go_frame
  refine wpList_run 69 rfl rfl (.bool true) (exec_move (.tmp 68) rfl _ rfl) ?_
  go_frame
  refine wpList_runG 70 rfl (by first | rfl | kernel_rfl) (.slice (some ⟨b2, o2, none⟩) 5 c2) (exec_move (.tmp 5) rfl _ rfl) ?_
  go_frame
  refine wpList_runG 71 rfl (by first | rfl | kernel_rfl) (.pointer (some ⟨b2, o2 + 1 * 4, none⟩)) (exec_atT (.tmp 70) (.const (.int .i64 1)) rfl b2 o2 5 c2 1 (by decide) rfl rfl) ?_
  go_frame
  refine wpList_runG 72 rfl (by first | rfl | kernel_rfl) (.pointer (some ⟨b2, o2 + 1 * 4 + 2, none⟩)) (exec_fieldAddr 33 (.tmp 71) 2 rfl _ _ rfl (tk_f _ _ 2 (by decide) _)) ?_
  go_frame
  refine wpList_runG 73 rfl (by first | rfl | kernel_rfl) (.string ⟨#[61]⟩) (exec_load 9 (.tmp 72) rfl _ (.string ⟨#[61]⟩) rfl (run_load_cell str_flat (rgc HR2.out 1 2 rfl))) ?_
  go_frame
  refine wpList_runG 74 rfl (by first | rfl | kernel_rfl) (.bool true) (exec_bin .eql 9 _ (.tmp 73) _ rfl (.string ⟨#[61]⟩) (.string ⟨#[61]⟩) (.bool true) rfl rfl rfl (str_same _ _)) ?_
  go_frame
  refine wpList_run 75 rfl rfl (.bool true) (exec_pickT _ _ _ rfl (.bool true) rfl rfl) ?_
  go_frame
  refine wpList_run 76 rfl rfl (.bool true) (exec_move (.tmp 75) rfl _ rfl) ?_
  go_frame
  refine wpList_runG 77 rfl (by first | rfl | kernel_rfl) (.slice (some ⟨b2, o2, none⟩) 5 c2) (exec_move (.tmp 5) rfl _ rfl) ?_
  go_frame
  refine wpList_runG 78 rfl (by first | rfl | kernel_rfl) (.pointer (some ⟨b2, o2 + 2 * 4, none⟩)) (exec_atT (.tmp 77) (.const (.int .i64 2)) rfl b2 o2 5 c2 2 (by decide) rfl rfl) ?_
  go_frame
  refine wpList_runG 79 rfl (by first | rfl | kernel_rfl) (.pointer (some ⟨b2, o2 + 2 * 4 + 2, none⟩)) (exec_fieldAddr 33 (.tmp 78) 2 rfl _ _ rfl (tk_f _ _ 2 (by decide) _)) ?_
  go_frame
  refine wpList_runG 80 rfl (by first | rfl | kernel_rfl) (.string ⟨#[33, 61]⟩) (exec_load 9 (.tmp 79) rfl _ (.string ⟨#[33, 61]⟩) rfl (run_load_cell str_flat (rgc HR2.out 2 2 rfl))) ?_
  go_frame
  refine wpList_runG 81 rfl (by first | rfl | kernel_rfl) (.bool true) (exec_bin .eql 9 _ (.tmp 80) _ rfl (.string ⟨#[33, 61]⟩) (.string ⟨#[33, 61]⟩) (.bool true) rfl rfl rfl (str_same _ _)) ?_
  go_frame
  refine wpList_run 82 rfl rfl (.bool true) (exec_pickT _ _ _ rfl (.bool true) rfl rfl) ?_
  go_frame
  refine wpList_run 83 rfl rfl (.bool true) (exec_move (.tmp 82) rfl _ rfl) ?_
  go_frame
  refine wpList_runG 84 rfl (by first | rfl | kernel_rfl) (.slice (some ⟨b2, o2, none⟩) 5 c2) (exec_move (.tmp 5) rfl _ rfl) ?_
  go_frame
  refine wpList_runG 85 rfl (by first | rfl | kernel_rfl) (.pointer (some ⟨b2, o2 + 3 * 4, none⟩)) (exec_atT (.tmp 84) (.const (.int .i64 3)) rfl b2 o2 5 c2 3 (by decide) rfl rfl) ?_
  go_frame
  refine wpList_runG 86 rfl (by first | rfl | kernel_rfl) (.pointer (some ⟨b2, o2 + 3 * 4 + 2, none⟩)) (exec_fieldAddr 33 (.tmp 85) 2 rfl _ _ rfl (tk_f _ _ 2 (by decide) _)) ?_
  go_frame
  refine wpList_runG 87 rfl (by first | rfl | kernel_rfl) (.string ⟨#[61]⟩) (exec_load 9 (.tmp 86) rfl _ (.string ⟨#[61]⟩) rfl (run_load_cell str_flat (rgc HR2.out 3 2 rfl))) ?_
  go_frame
  refine wpList_runG 88 rfl (by first | rfl | kernel_rfl) (.bool true) (exec_bin .eql 9 _ (.tmp 87) _ rfl (.string ⟨#[61]⟩) (.string ⟨#[61]⟩) (.bool true) rfl rfl rfl (str_same _ _)) ?_
  go_frame
  refine wpList_run 89 rfl rfl (.bool true) (exec_pickT _ _ _ rfl (.bool true) rfl rfl) ?_
  go_frame
  refine wpList_run 17 rfl rfl (.bool true) (exec_assign (.tmp 89) rfl _ rfl) ?_
  go_frame
  refine wpList_nil ?_
  go_upto_region 12 with fail
  refine wp_region_lit ?_
  refine wpList_run 90 rfl rfl (.agg #[.int .i64 2, .int .i64 27]) (exec_load 26 (.tmp 8) rfl _ (.agg #[.int .i64 2, .int .i64 27]) rfl (run_load_part _ 26 _ 0 2 _ [.int .i64 2, .int .i64 27] _ HQ3.out (by simp) Tryd.underlying26 rfl pb_size)) ?_
  go_frame
  refine wpList_run 91 rfl rfl (.agg #[.int .i64 2, .int .i64 27]) (exec_buildF 26 #[(0, .const (.int .i64 2)), (1, .const (.int .i64 27))] rfl #[(0, .int .i64 2), (1, .int .i64 27)] rfl _ (build_pb 2 27 _)) ?_
  go_frame
  refine wpList_run 92 rfl rfl (.bool true) (exec_bin .eql 26 _ (.tmp 90) (.tmp 91) rfl (.agg #[.int .i64 2, .int .i64 27]) (.agg #[.int .i64 2, .int .i64 27]) (.bool true) rfl rfl (pe_g _ _ _ _ _) (pe_2_27 _)) ?_
  go_frame
  refine wpList_run 93 rfl rfl (.bool true) (exec_move (.tmp 92) rfl _ rfl) ?_
  go_frame
  refine wpList_runG 94 rfl (by first | rfl | kernel_rfl) (.agg #[.int .i64 2, .int .i64 27]) (exec_load 26 (.tmp 10) rfl _ (.agg #[.int .i64 2, .int .i64 27]) rfl (run_load_part _ 26 _ 0 2 _ [.int .i64 2, .int .i64 27] _ HQ4.out (by simp) Tryd.underlying26 rfl pb_size)) ?_
  go_frame
  refine wpList_runG 95 rfl (by first | rfl | kernel_rfl) (.agg #[.int .i64 2, .int .i64 27]) (exec_load 26 (.tmp 8) rfl _ (.agg #[.int .i64 2, .int .i64 27]) rfl (run_load_part _ 26 _ 0 2 _ [.int .i64 2, .int .i64 27] _ HQ3.out (by simp) Tryd.underlying26 rfl pb_size)) ?_
  go_frame
  refine wpList_runG 96 rfl (by first | rfl | kernel_rfl) (.bool true) (exec_bin .eql 26 _ (.tmp 94) (.tmp 95) rfl (.agg #[.int .i64 2, .int .i64 27]) (.agg #[.int .i64 2, .int .i64 27]) (.bool true) rfl rfl (pe_g _ _ _ _ _) (pe_2_27 _)) ?_
  go_frame
  refine wpList_run 97 rfl rfl (.bool true) (exec_pickT _ _ _ rfl (.bool true) rfl rfl) ?_
  go_frame
  refine wpList_run 98 rfl rfl (.bool true) (exec_move (.tmp 97) rfl _ rfl) ?_
  go_frame
  refine wpList_runG 99 rfl (by first | rfl | kernel_rfl) (.agg #[.int .i64 0, .int .i64 28]) (exec_load 26 (.tmp 12) rfl _ (.agg #[.int .i64 0, .int .i64 28]) rfl (run_load_part _ 26 _ 0 2 _ [.int .i64 0, .int .i64 28] _ HQ5.out (by simp) Tryd.underlying26 rfl pb_size)) ?_
  go_frame
  refine wpList_runG 100 rfl (by first | rfl | kernel_rfl) (.agg #[.int .i64 0, .int .i64 28]) (exec_buildF 26 #[(1, .const (.int .i64 28))] rfl #[(1, .int .i64 28)] rfl _ (build_pb1 28 _)) ?_
  go_frame
  refine wpList_runG 101 rfl (by first | rfl | kernel_rfl) (.bool true) (exec_bin .eql 26 _ (.tmp 99) (.tmp 100) rfl (.agg #[.int .i64 0, .int .i64 28]) (.agg #[.int .i64 0, .int .i64 28]) (.bool true) rfl rfl (pe_g _ _ _ _ _) (pe_0_28 _)) ?_
  go_frame
  refine wpList_run 102 rfl rfl (.bool true) (exec_pickT _ _ _ rfl (.bool true) rfl rfl) ?_
  go_frame
  refine wpList_run 103 rfl rfl (.bool true) (exec_move (.tmp 102) rfl _ rfl) ?_
  go_frame
  refine wpList_runG 104 rfl (by first | rfl | kernel_rfl) (.agg #[.int .i64 2, .int .i64 26]) (exec_load 26 (.tmp 14) rfl _ (.agg #[.int .i64 2, .int .i64 26]) rfl (run_load_part _ 26 _ 0 2 _ [.int .i64 2, .int .i64 26] _ HQ6.out (by simp) Tryd.underlying26 rfl pb_size)) ?_
  go_frame
  refine wpList_runG 105 rfl (by first | rfl | kernel_rfl) (.agg #[.int .i64 2, .int .i64 26]) (exec_buildF 26 #[(0, .const (.int .i64 2)), (1, .const (.int .i64 26))] rfl #[(0, .int .i64 2), (1, .int .i64 26)] rfl _ (build_pb 2 26 _)) ?_
  go_frame
  refine wpList_runG 106 rfl (by first | rfl | kernel_rfl) (.bool true) (exec_bin .eql 26 _ (.tmp 104) (.tmp 105) rfl (.agg #[.int .i64 2, .int .i64 26]) (.agg #[.int .i64 2, .int .i64 26]) (.bool true) rfl rfl (pe_g _ _ _ _ _) (pe_2_26 _)) ?_
  go_frame
  refine wpList_run 107 rfl rfl (.bool true) (exec_pickT _ _ _ rfl (.bool true) rfl rfl) ?_
  go_frame
  refine wpList_run 18 rfl rfl (.bool true) (exec_assign (.tmp 107) rfl _ rfl) ?_
  go_frame
  refine wpList_nil ?_
  go_upto_region 13 with fail
  refine wp_region_lit ?_
  refine wpList_run 108 rfl rfl (.agg #[.int .i64 0, .int .i64 0]) (exec_load 26 (.tmp 2) rfl _ (.agg #[.int .i64 0, .int .i64 0]) rfl (run_load_part _ 26 _ 0 2 _ [.int .i64 0, .int .i64 0] _ HQ0.out (by simp) Tryd.underlying26 rfl pb_size)) ?_
  go_frame
  refine wpList_run 109 rfl rfl (.agg #[.int .i64 0, .int .i64 0]) (exec_buildF 26 #[] rfl #[] rfl _ (build_pb0 _)) ?_
  go_frame
  refine wpList_run 110 rfl rfl (.bool true) (exec_bin .eql 26 _ (.tmp 108) (.tmp 109) rfl (.agg #[.int .i64 0, .int .i64 0]) (.agg #[.int .i64 0, .int .i64 0]) (.bool true) rfl rfl (pe_g _ _ _ _ _) (pe_0_0 _)) ?_
  go_frame
  refine wpList_run 111 rfl rfl (.bool true) (exec_move (.tmp 110) rfl _ rfl) ?_
  go_frame
  refine wpList_runG 112 rfl (by first | rfl | kernel_rfl) (.slice (some ⟨b0, o0, none⟩) 7 c0) (exec_move (.tmp 1) rfl _ rfl) ?_
  go_frame
  refine wpList_runG 113 rfl (by first | rfl | kernel_rfl) (.pointer (some ⟨b0, o0 + 1 * 4, none⟩)) (exec_atT (.tmp 112) (.const (.int .i64 1)) rfl b0 o0 7 c0 1 (by decide) rfl rfl) ?_
  go_frame
  refine wpList_runG 114 rfl (by first | rfl | kernel_rfl) (vT ⟨4, 1, ⟨#[45, 62]⟩, 0⟩) (exec_loadT (.tmp 113) rfl b0 (o0 + 1 * 4) ⟨4, 1, ⟨#[45, 62]⟩, 0⟩ rfl (rgt HR0.out (i := 1) rfl)) ?_
  go_frame
  refine wpList_runG 115 rfl (by first | rfl | kernel_rfl) (.agg #[.int .i64 4, .int .i64 1, .string ⟨#[45, 62]⟩, .int .i64 0]) (exec_buildF 33 #[(0, .const (.int .i64 4)), (1, .const (.int .i64 1)), (2, .const (.string ⟨#[45, 62]⟩))] rfl #[(0, .int .i64 4), (1, .int .i64 1), (2, .string ⟨#[45, 62]⟩)] rfl (.agg #[.int .i64 4, .int .i64 1, .string ⟨#[45, 62]⟩, .int .i64 0]) (by kernel_rfl)) ?_
  go_frame
  refine wpList_runG 116 rfl (by first | rfl | kernel_rfl) (.bool true) (exec_bin .eql 33 _ (.tmp 114) (.tmp 115) rfl (vT ⟨4, 1, ⟨#[45, 62]⟩, 0⟩) (.agg #[.int .i64 4, .int .i64 1, .string ⟨#[45, 62]⟩, .int .i64 0]) (.bool true) rfl rfl (te_g _ _ _ _ _) (te_1 _)) ?_
  go_frame
  refine wpList_run 117 rfl rfl (.bool true) (exec_pickT _ _ _ rfl (.bool true) rfl rfl) ?_
  go_frame
  refine wpList_run 118 rfl rfl (.bool true) (exec_move (.tmp 117) rfl _ rfl) ?_
  go_frame
  refine wpList_runG 119 rfl (by first | rfl | kernel_rfl) (.slice (some ⟨b0, o0, none⟩) 7 c0) (exec_move (.tmp 1) rfl _ rfl) ?_
  go_frame
  refine wpList_runG 120 rfl (by first | rfl | kernel_rfl) (.pointer (some ⟨b0, o0 + 3 * 4, none⟩)) (exec_atT (.tmp 119) (.const (.int .i64 3)) rfl b0 o0 7 c0 3 (by decide) rfl rfl) ?_
  go_frame
  refine wpList_runG 121 rfl (by first | rfl | kernel_rfl) (vT ⟨2, 6, ByteArray.empty, 12⟩) (exec_loadT (.tmp 120) rfl b0 (o0 + 3 * 4) ⟨2, 6, ByteArray.empty, 12⟩ rfl (rgt HR0.out (i := 3) rfl)) ?_
  go_frame
  refine wpList_runG 122 rfl (by first | rfl | kernel_rfl) (.agg #[.int .i64 2, .int .i64 6, .string ByteArray.empty, .int .i64 12]) (exec_buildF 33 #[(0, .const (.int .i64 2)), (1, .const (.int .i64 6)), (3, .const (.int .i64 12))] rfl #[(0, .int .i64 2), (1, .int .i64 6), (3, .int .i64 12)] rfl (.agg #[.int .i64 2, .int .i64 6, .string ByteArray.empty, .int .i64 12]) (by kernel_rfl)) ?_
  go_frame
  refine wpList_runG 123 rfl (by first | rfl | kernel_rfl) (.bool true) (exec_bin .eql 33 _ (.tmp 121) (.tmp 122) rfl (vT ⟨2, 6, ByteArray.empty, 12⟩) (.agg #[.int .i64 2, .int .i64 6, .string ByteArray.empty, .int .i64 12]) (.bool true) rfl rfl (te_g _ _ _ _ _) (te_3 _)) ?_
  go_frame
  refine wpList_run 124 rfl rfl (.bool true) (exec_pickT _ _ _ rfl (.bool true) rfl rfl) ?_
  go_frame
  refine wpList_run 125 rfl rfl (.bool true) (exec_move (.tmp 124) rfl _ rfl) ?_
  go_frame
  refine wpList_runG 126 rfl (by first | rfl | kernel_rfl) (.slice (some ⟨b0, o0, none⟩) 7 c0) (exec_move (.tmp 1) rfl _ rfl) ?_
  go_frame
  refine wpList_runG 127 rfl (by first | rfl | kernel_rfl) (.pointer (some ⟨b0, o0 + 6 * 4, none⟩)) (exec_atT (.tmp 126) (.const (.int .i64 6)) rfl b0 o0 7 c0 6 (by decide) rfl rfl) ?_
  go_frame
  refine wpList_runG 128 rfl (by first | rfl | kernel_rfl) (vT ⟨5, 15, ByteArray.empty, 0⟩) (exec_loadT (.tmp 127) rfl b0 (o0 + 6 * 4) ⟨5, 15, ByteArray.empty, 0⟩ rfl (rgt HR0.out (i := 6) rfl)) ?_
  go_frame
  refine wpList_runG 129 rfl (by first | rfl | kernel_rfl) (.agg #[.int .i64 5, .int .i64 15, .string ByteArray.empty, .int .i64 0]) (exec_buildF 33 #[(0, .const (.int .i64 5)), (1, .const (.int .i64 15))] rfl #[(0, .int .i64 5), (1, .int .i64 15)] rfl (.agg #[.int .i64 5, .int .i64 15, .string ByteArray.empty, .int .i64 0]) (by kernel_rfl)) ?_
  go_frame
  refine wpList_runG 130 rfl (by first | rfl | kernel_rfl) (.bool true) (exec_bin .eql 33 _ (.tmp 128) (.tmp 129) rfl (vT ⟨5, 15, ByteArray.empty, 0⟩) (.agg #[.int .i64 5, .int .i64 15, .string ByteArray.empty, .int .i64 0]) (.bool true) rfl rfl (te_g _ _ _ _ _) (te_6 _)) ?_
  go_frame
  refine wpList_run 131 rfl rfl (.bool true) (exec_pickT _ _ _ rfl (.bool true) rfl rfl) ?_
  go_frame
  refine wpList_run 132 rfl rfl (.bool true) (exec_move (.tmp 131) rfl _ rfl) ?_
  go_frame
  refine wpList_runG 133 rfl (by first | rfl | kernel_rfl) (.slice (some ⟨b1, o1, none⟩) 2 c1) (exec_move (.tmp 3) rfl _ rfl) ?_
  go_frame
  refine wpList_runG 134 rfl (by first | rfl | kernel_rfl) (.pointer (some ⟨b1, o1 + 0 * 4, none⟩)) (exec_atT (.tmp 133) (.const (.int .i64 0)) rfl b1 o1 2 c1 0 (by decide) rfl rfl) ?_
  go_frame
  refine wpList_runG 135 rfl (by first | rfl | kernel_rfl) (.pointer (some ⟨b1, o1 + 0 * 4 + 2, none⟩)) (exec_fieldAddr 33 (.tmp 134) 2 rfl _ _ rfl (tk_f _ _ 2 (by decide) _)) ?_
  go_frame
  refine wpList_runG 136 rfl (by first | rfl | kernel_rfl) (.string ⟨#[97, 34, 10]⟩) (exec_load 9 (.tmp 135) rfl _ (.string ⟨#[97, 34, 10]⟩) rfl (run_load_cell str_flat (rgc HR1.out 0 2 rfl))) ?_
  go_frame
  refine wpList_runG 137 rfl (by first | rfl | kernel_rfl) (.bool true) (exec_bin .eql 9 _ (.tmp 136) _ rfl (.string ⟨#[97, 34, 10]⟩) (.string ⟨#[97, 34, 10]⟩) (.bool true) rfl rfl rfl (str_same _ _)) ?_
  go_frame
  refine wpList_run 138 rfl rfl (.bool true) (exec_pickT _ _ _ rfl (.bool true) rfl rfl) ?_
  go_frame
  refine wpList_run 139 rfl rfl (.bool true) (exec_move (.tmp 138) rfl _ rfl) ?_
  go_frame
  refine wpList_runG 140 rfl (by first | rfl | kernel_rfl) (.bool true) (exec_move (.tmp 17) rfl _ rfl) ?_
  go_frame
  refine wpList_run 141 rfl rfl (.bool true) (exec_pickT _ _ _ rfl (.bool true) rfl rfl) ?_
  go_frame
  refine wpList_run 142 rfl rfl (.bool true) (exec_move (.tmp 141) rfl _ rfl) ?_
  go_frame
  refine wpList_runG 143 rfl (by first | rfl | kernel_rfl) (.bool true) (exec_move (.tmp 18) rfl _ rfl) ?_
  go_frame
  refine wpList_run 144 rfl rfl (.bool true) (exec_pickT _ _ _ rfl (.bool true) rfl rfl) ?_
  go_frame
  refine wpList_run 145 rfl rfl (.bool true) (exec_move (.tmp 144) rfl _ rfl) ?_
  go_frame
  refine wpList_runG 146 rfl (by first | rfl | kernel_rfl) (.int .i64 2) (exec_move (.tmp 15) rfl _ rfl) ?_
  go_frame
  refine wpList_runG 147 rfl (by first | rfl | kernel_rfl) (.bool true) (exec_eqT _ _ _ _ rfl .i64 2 rfl rfl) ?_
  go_frame
  refine wpList_run 148 rfl rfl (.bool true) (exec_pickT _ _ _ rfl (.bool true) rfl rfl) ?_
  go_frame
  refine wpList_run 149 rfl rfl (.bool true) (exec_move (.tmp 148) rfl _ rfl) ?_
  go_frame
  refine wpList_runG 150 rfl (by first | rfl | kernel_rfl) (.int .i64 2) (exec_move (.tmp 16) rfl _ rfl) ?_
  go_frame
  refine wpList_runG 151 rfl (by first | rfl | kernel_rfl) (.bool true) (exec_eqT _ _ _ _ rfl .i64 2 rfl rfl) ?_
  go_frame
  refine wpList_run 152 rfl rfl (.bool true) (exec_pickT _ _ _ rfl (.bool true) rfl rfl) ?_
  go_frame
  refine wpList_run 153 rfl rfl (.bool true) (exec_move (.tmp 152) rfl _ rfl) ?_
  go_frame
  refine wpList_runG 154 rfl (by first | rfl | kernel_rfl) (.slice (some ⟨b0, o0, none⟩) 7 c0) (exec_move (.tmp 1) rfl _ rfl) ?_
  go_frame
  go_wp2_with (first | (refine (text_of (some ⟨b0, o0, none⟩) c0 SL0 _ (rdT_of HR0.out) HE.out (by decide) (by decide) (by decide) (by rw [stx]; decide)).mono ?_; rintro e w30 ⟨rfl, hb⟩; rw [stx]; replace HW := Lib.hid (HW.out.trans (hb.mono HW.out.size)); clear hb) | (refine wpList_dst 156 rfl ?_; refine wpList_runG 156 rfl rfl _ (exec_bin .eql 9 _ (.tmp 155) _ rfl (.string (sb [97, 32, 45, 62, 32, 98, 49, 32, 49, 50, 32, 46, 46, 32, 51])) (.string ⟨#[97, 32, 45, 62, 32, 98, 49, 32, 49, 50, 32, 46, 46, 32, 51]⟩) (.bool true) rfl rfl rfl (str_same _ _)) ?_; go_frame))
  go_ret
  exact ⟨rfl, HW.out⟩
end Go.Proofs.YtggjgikpiljoiaaDoor
