/- The text of tokens. -/
import Derived.Test.YtggjgikpiljoiaaDoorL15
import Derived.Test.YtggjgikpiljoiaaDoorL10
namespace Go.Proofs.YtggjgikpiljoiaaDoor
open Go.RowKit Hm Wm Lx

theorem fa_api_Token_0_0 (g : Nat) (W : World) : (Instr.fieldAt 33 (.pointer (some ⟨g, 0, none⟩)) 0).run Tryd.prog W = .ok (.pointer (some ⟨g, 0, none⟩)) W := by kernel_rfl
theorem fa_api_Token_2_0 (g : Nat) (W : World) : (Instr.fieldAt 33 (.pointer (some ⟨g, 0, none⟩)) 2).run Tryd.prog W = .ok (.pointer (some ⟨g, 2, none⟩)) W := by kernel_rfl
theorem fa_api_Token_3_0 (g : Nat) (W : World) : (Instr.fieldAt 33 (.pointer (some ⟨g, 0, none⟩)) 3).run Tryd.prog W = .ok (.pointer (some ⟨g, 3, none⟩)) W := by kernel_rfl
theorem tL_at (l : List TI) {k : Nat} (hk : k < l.length) (j : Nat) (u : Value) (hj : (cT l[k])[j]? = some u) : (tL l)[k * 4 + j]? = some u := by
  have hjl : j < (cT l[k]).length := by
    rcases Nat.lt_or_ge j (cT l[k]).length with h1 | h1
    · exact h1
    · rw [List.getElem?_eq_none h1] at hj; cases hj
  have e : l = l.take k ++ (l[k] :: l.drop (k + 1)) := by rw [← List.drop_eq_getElem_cons hk, List.take_append_drop]
  have e2 : tL l = tL (l.take k) ++ (cT l[k] ++ tL (l.drop (k + 1))) := by
    conv => lhs; rw [e, tL_app]
    rfl
  have hl : (tL (l.take k)).length = k * 4 := by rw [tL_len, List.length_take]; omega
  rw [e2, List.getElem?_append_right (by omega), hl, show k * 4 + j - k * 4 = j from by omega, List.getElem?_append_left hjl]; exact hj
/-- A slice of tokens reads as a list. -/
def RdT (w : World) (A : Option Addr) (l : List TI) : Prop := Rd w A (tL l)
theorem RdT.below {w w' : World} {A : Option Addr} {l : List TI} (h : RdT w A l) (hb : Below w.heap.size w w') : RdT w' A l := Rd.below h hb
theorem Row.reads {W : World} {base : Nat} {v : Value} {l : List TI} (h : Row W base v l) : ∃ A c, v = .slice A l.length c ∧ l.length ≤ c ∧ RdT W A l := by
  obtain ⟨A, c, rfl, hc⟩ := h.form
  exact ⟨A, c, rfl, hc, Rd.of_row h.1⟩
theorem RdT.at {w : World} {A : Option Addr} {l : List TI} (h : RdT w A l) {k : Nat} {x : TI} (hx : l[k]? = some x) : ∃ b off, A = some ⟨b, off, none⟩ ∧ w.rangeAt b (off + k * 4) (cT x) := by
  obtain ⟨hk, rfl⟩ := List.getElem?_eq_some_iff.1 hx
  have hne : tL l ≠ [] := by intro e; have := tL_len l; rw [e] at this; simp at this; omega
  obtain ⟨b, off, hA, hc⟩ := h hne
  refine ⟨b, off, hA, fun j u hu => ?_⟩
  have := hc (k * 4 + j) u (tL_at l hk j u hu)
  rw [← Nat.add_assoc] at this; exact this
theorem tk_under : Tryd.prog.underlying 33 = some (.struct (Tryd.prog.fieldsOf 33)) := by kernel_rfl
theorem tk_elem : Tryd.prog.elem 23 = 33 := by kernel_rfl
theorem tk_sizeOf (W : World) : (sizeOf 33).run Tryd.prog W = .ok 4 W := by
  cases hq : Tryd.prog.info? 33 with
  | none => have h := tk_size; rw [hq] at h; cases h
  | some i =>
    have h := tk_size
    rw [hq] at h
    have h2 : i.size = 4 := by simpa using h
    simp [sizeOf, typeInfo, hq, h2]
theorem run_atT (b off n c k : Nat) (hk : k < n) (W : World) : (Instr.indexAt 23 (.slice (some ⟨b, off, none⟩) n c) (.int .i64 k)).run Tryd.prog W = .ok (.pointer (some ⟨b, off + k * 4, none⟩)) W := by
  refine (run_indexAt_slice W 23 ⟨b, off, none⟩ n c .i64 k (by rw [tk_elem]; exact ts_under)).trans ?_
  rw [if_pos ⟨by omega, by omega⟩, tk_elem, tk_sizeOf, Result.andThen_ok, Int.toNat_natCast, Addr.add_mid]
theorem exec_atT {oi : Oper} {a : Act} {w : World} (x y : Operand) (ho : oi.op = .indexAddr 23 x y) (b off n c k : Nat) (hk : k < n) (hx : a.eval x = .slice (some ⟨b, off, none⟩) n c) (hy : a.eval y = .int .i64 k) : (execOp a.eval oi).run Tryd.prog w = .ok (.value (.pointer (some ⟨b, off + k * 4, none⟩))) w :=
  exec_indexAddr _ x y ho _ _ _ hx hy (run_atT b off n c k hk w)
theorem exec_loadT {oi : Oper} {a : Act} {w : World} (x : Operand) (ho : oi.op = .load 33 x) (b o : Nat) (d : TI) (hx : a.eval x = .pointer (some ⟨b, o, none⟩)) (hc : w.rangeAt b o (cT d)) : (execOp a.eval oi).run Tryd.prog w = .ok (.value (vT d)) w :=
  exec_load 33 x ho _ _ hx (run_loadAt_mid w b o _ (cT d) _ hc tk_under rfl tk_size)
/-- Strings in a row. -/
def sL (xs : List ByteArray) : List Value := xs.map Value.string
def OwnS (w : World) (base : Nat) (v : Value) (xs : List ByteArray) : Prop := w.ownsRow base 9 1 v xs.length (sL xs)
theorem OwnS.below {W W' : World} {base : Nat} {v : Value} {xs : List ByteArray} (h : OwnS W base v xs) (hb : Below W.heap.size W W') : OwnS W' base v xs := own_below h hb
theorem st_info : (Tryd.prog.info? 9).map (fun i => (i.zero, i.size, i.bytes)) = some (some (.string ByteArray.empty), 1, 16) := by kernel_rfl
theorem wpList_pushS {w : World} {ops : Array Oper} {rest : List Oper} {o : Oper} {a : Act} {Q : Exit → Act → World → Prop} (hgd : o.guard = none) (s x : Operand)
    (ho : o.op = .call { callee := .builtin .append, args := #[s, x], argTypes := #[52, 52] })
    (base : Nat) (v : Value) (l : List ByteArray) (hs : a.eval s = v) (hown : OwnS w base v l) (b : ByteArray) (hb : base ≤ w.heap.size) (hl : l.length ≤ 1000000)
    (hx : a.eval x = .slice (some ⟨w.heap.size, 0, none⟩) 1 1)
    (h : ∀ v' w', OwnS w' base v' (l ++ [b]) → Below base w w' → wpList Tryd.prog ops Q rest (a.put o.dst v') w') :
    wpList Tryd.prog ops Q (o :: rest) a (w.alloc (.cells #[.string b] 9)) := by
  obtain ⟨i0, hi, hz0, hz1, hz2⟩ := info_parts st_info
  refine wpList_append_own _ hgd s x 52 ho base 9 i0 (.string ByteArray.empty) 1 16 Tryd.underlying52 hi hz0 hz1 hz2 rfl (by decide) v l.length (sL l) hs (World.ownsRow.alloc hown _)
    ⟨w.heap.size, 0, none⟩ 1 1 [.string b] hx rfl (cell_one_new _ _ _) ?_ ?_ ?_ ?_ ?_
  · intro u hu; simp at hu; subst hu; rfl
  · unfold maxLen; omega
  · omega
  · simp; omega
  · intro v' w' h1 h2 _
    refine h v' w' ?_ ?_
    · unfold OwnS sL
      rw [List.length_append, List.map_append]
      exact h1
    · exact (((Below.refl base w).alloc hb _).grown h2 (by simp; omega) (fun k hk => (World.ownsRow.lt hown k hk).1))
/-- The text of any tokens. -/
def partI (x : TI) : Option (List UInt8) := Lx.part x.k x.s.data.toList x.v
def textI (l : List TI) : List UInt8 := Lib.join (l.filterMap partI) [32]
def prts (l : List TI) : List ByteArray := (l.filterMap partI).map sb
theorem partI_tok (t : Tok) : partI (toT t) = tpart t := by unfold partI tpart toT; simp only; rw [sb_list]
theorem textI_tok (T : List Tok) : textI (T.map toT) = textL T := by
  unfold textI textL
  rw [List.filterMap_map]
  have e : (partI ∘ toT) = tpart := by funext t; exact partI_tok t
  rw [e]
theorem prts_next {l : List TI} {k : Nat} {x : TI} (h : l[k]? = some x) (u : List ByteArray) (hu : ((partI x).toList).map sb = u) : prts (l.take (k + 1)) = prts (l.take k) ++ u := by
  obtain ⟨hk, rfl⟩ := List.getElem?_eq_some_iff.1 h
  subst hu
  unfold prts
  rw [List.take_succ_eq_append_getElem hk, List.filterMap_append, List.map_append]
  cases hp : partI l[k] <;> simp [hp]
theorem prts_len (l : List TI) : (prts l).length ≤ l.length := by
  unfold prts; rw [List.length_map]; exact List.length_filterMap_le ..
theorem prts_back (l : List TI) : (prts l).map (·.data.toList) = l.filterMap partI := by
  unfold prts
  rw [List.map_map]
  have : ((fun x : ByteArray => x.data.toList) ∘ sb) = id := by funext q; exact sb_list q
  rw [this, List.map_id]
theorem join_any (v : Value) (xs : List ByteArray) (base : Nat) (w : World) (h : OwnS w base v xs) (hn : xs.length ≤ 1000000) (hl : (Lib.join (xs.map (·.data.toList)) [32]).length ≤ 2 ^ 46) :
    Calls Tryd.prog 21 #[v, .string ⟨#[32]⟩] w fun e w' => e = .returned (.string (sb (Lib.join (xs.map (·.data.toList)) [32]))) ∧ Below w.heap.size w w' := by
  rcases h.2 with ⟨rfl, h0⟩ | ⟨g, cap, cur, rfl, hb, hg, hle, _⟩
  · have hx : xs = [] := List.eq_nil_of_length_eq_zero h0
    subst hx
    exact (Tryd.strings_Join_none none 0 ⟨#[32]⟩ w).mono fun e w' ⟨h1, h2⟩ => ⟨h1, by rw [h2]; exact Below.refl _ _⟩
  · have hc := World.ownsRow.cells (g := g) h rfl
    have e32 : ((⟨#[32]⟩ : ByteArray)).data.toList = [32] := rfl
    refine (Tryd.strings_Join g 0 cap xs ⟨#[32]⟩ w (fun j x hx => ?_) (Array.getElem?_eq_some_iff.1 hg).1 (by omega) hle (by rw [e32]; omega)).mono fun e w' ⟨h1, h2⟩ => ⟨h1, h2⟩
    have := hc j (.string x) (by unfold sL; rw [List.getElem?_map, hx]; rfl)
    rw [Addr.add_mid] at this
    exact this
set_option maxRecDepth 100000 in
set_option maxHeartbeats 2000000 in
theorem text_of (A : Option Addr) (cap : Nat) (l : List TI) (w : World) (hr : RdT w A l) (hE : Env w) (hn : l.length ≤ 1000000) (hs : ∀ x ∈ l, x.s.size ≤ 2 ^ 44) (hv : ∀ x ∈ l, -9223372036854775808 ≤ x.v ∧ x.v ≤ 9223372036854775807) (hl : (textI l).length ≤ 2 ^ 46) :
    Calls Tryd.prog 11 #[.slice A l.length cap] w fun e w' => e = .returned (.string (sb (textI l))) ∧ Below w.heap.size w w' := by
  have HR := Lib.hid hr
  have HE := Lib.hid hE
  have HS := Lib.hid hs
  have HV := Lib.hid hv
  have HL := Lib.hid hl
  have HPL := Lib.hid prts_len
  clear hr hE hs hv hl
  go_enter Tryd.func11, Tryd.ntmps11
  go_wp2
  go_loopw [3, 8] (fun a b wr => ∃ k : Nat, b = .int .i64 k ∧ k ≤ l.length ∧ Hid (OwnS wr w.heap.size a (prts (l.take k))) ∧ Hid (Below w.heap.size w wr)) (fun _ b _ => l.length - (intOf b).toNat)
  case atStart => exact ⟨0, rfl, Nat.zero_le _, Lib.hid (World.ownsRow_nil _ _ _ _), Lib.hid (Below.refl _ _)⟩
  case round =>
    obtain ⟨k, rfl, hk, HO, HB⟩ := hrel
    by_cases hlt : k < l.length
    · obtain ⟨x, hx⟩ : ∃ x, l[k]? = some x := ⟨l[k], List.getElem?_eq_getElem hlt⟩
      obtain ⟨b, off, rfl, hc⟩ := (HR.out.below HB.out).at hx
      have hxm := List.mem_of_getElem? hx
      obtain ⟨hv0, hv1⟩ := HV.out x hxm
      have hxs := HS.out x hxm
      have HN := Lib.hid (fun u hu => prts_next hx u hu)
      have hpl : (prts (l.take k)).length ≤ 1000000 := by have := HPL.out (l.take k); rw [List.length_take] at this; omega
      have HE1 := Lib.hid (HE.out.next HB.out)
      have HC := Lib.hid hc
      clear hx hc hxm HR HE HS HV HPL HL
      obtain ⟨xk, xa, xs, xv⟩ := x
      simp only at hv0 hv1 hxs
      generalize prts (l.take k) = acc at HO HN hpl
      by_cases hd1 : xk = 1
      · have hd := hd1
        have HP := Lib.hid (show ((partI ⟨xk, xa, xs, xv⟩).toList).map sb = [xs] by simp [partI, Lx.part, hd, sb_of])
        have m1 : (xk == 1) = true := by rw [hd]; rfl
        clear hd hd1
        go_wp2_with (first | (refine wpList_dst 10 rfl ?_; refine wpList_run 10 rfl rfl _ (exec_atT (.tmp 6) (.tmp 8) rfl b off _ cap k hlt rfl rfl) ?_; go_frame) | (refine wpList_dst 11 rfl ?_; refine wpList_run 11 rfl rfl _ (exec_loadT (.tmp 10) rfl b _ ⟨xk, xa, xs, xv⟩ rfl HC.out) ?_; go_frame) | (refine wpList_var rfl rfl 33 5 rfl rfl rfl (.tmp 11) rfl zT [.int .i64 xk, .int .i64 xa, .string xs, .int .i64 xv] tk_zero rfl rfl rfl tk_size (List.forall_mem_cons.2 ⟨rfl, (List.forall_mem_cons.2 ⟨rfl, (List.forall_mem_cons.2 ⟨rfl, (List.forall_mem_cons.2 ⟨rfl, fun _ h => nomatch h⟩)⟩)⟩)⟩) ?_; intro w2 HX HBw; replace HO := Lib.hid (HO.out.below HBw.out); replace HB := Lib.hid (HB.out.trans (HBw.out.mono HB.out.size)); replace HE1 := Lib.hid (HE1.out.next HBw.out); clear HBw) | (refine wpList_dst 12 rfl ?_; refine wpList_run 12 rfl rfl _ (exec_fieldAddr 33 (.tmp 5) 0 rfl _ _ rfl (fa_api_Token_0_0 _ _)) ?_; go_frame) | (refine wpList_dst 13 rfl ?_; refine wpList_run 13 rfl rfl _ (exec_load 3 (.tmp 12) rfl _ (.int .i64 xk) rfl (run_load_cell int_flat (HX.out.cell 0))) ?_; go_frame) | (refine wpList_dst 18 rfl ?_; refine wpList_run 18 rfl rfl _ (exec_fieldAddr 33 (.tmp 5) 2 rfl _ _ rfl (fa_api_Token_2_0 _ _)) ?_; go_frame) | (refine wpList_dst 19 rfl ?_; refine wpList_run 19 rfl rfl _ (exec_load 9 (.tmp 18) rfl _ (.string xs) rfl (run_load_cell str_flat (HX.out.cell 2))) ?_; go_frame) | (at_builtin; refine wpList_pushS rfl (.tmp 17) (.tmp 20) rfl w.heap.size _ acc rfl HO.out (xs) HB.out.size (by omega) rfl ?_; intro v5 w5 ho5 hb5; have HO5 := Lib.hid ho5; have HB5 := Lib.hid (HB.out.trans hb5); clear ho5 hb5 HO HB))
        go_roundw
        case rel => exact ⟨k + 1, by go_num, by omega, Lib.hid (by rw [HN.out [xs] HP.out]; exact HO5.out), HB5⟩
        case measure => simp [intOf]; omega
      by_cases hd4 : xk = 4
      · have hd := hd4
        have HP := Lib.hid (show ((partI ⟨xk, xa, xs, xv⟩).toList).map sb = [xs] by simp [partI, Lx.part, hd, sb_of])
        have m1 : (xk == 1) = false := by rw [beq_eq_false_iff_ne]; omega
        have m4 : (xk == 4) = true := by rw [hd]; rfl
        clear hd hd1 hd4
        go_wp2_with (first | (refine wpList_dst 10 rfl ?_; refine wpList_run 10 rfl rfl _ (exec_atT (.tmp 6) (.tmp 8) rfl b off _ cap k hlt rfl rfl) ?_; go_frame) | (refine wpList_dst 11 rfl ?_; refine wpList_run 11 rfl rfl _ (exec_loadT (.tmp 10) rfl b _ ⟨xk, xa, xs, xv⟩ rfl HC.out) ?_; go_frame) | (refine wpList_var rfl rfl 33 5 rfl rfl rfl (.tmp 11) rfl zT [.int .i64 xk, .int .i64 xa, .string xs, .int .i64 xv] tk_zero rfl rfl rfl tk_size (List.forall_mem_cons.2 ⟨rfl, (List.forall_mem_cons.2 ⟨rfl, (List.forall_mem_cons.2 ⟨rfl, (List.forall_mem_cons.2 ⟨rfl, fun _ h => nomatch h⟩)⟩)⟩)⟩) ?_; intro w2 HX HBw; replace HO := Lib.hid (HO.out.below HBw.out); replace HB := Lib.hid (HB.out.trans (HBw.out.mono HB.out.size)); replace HE1 := Lib.hid (HE1.out.next HBw.out); clear HBw) | (refine wpList_dst 12 rfl ?_; refine wpList_run 12 rfl rfl _ (exec_fieldAddr 33 (.tmp 5) 0 rfl _ _ rfl (fa_api_Token_0_0 _ _)) ?_; go_frame) | (refine wpList_dst 13 rfl ?_; refine wpList_run 13 rfl rfl _ (exec_load 3 (.tmp 12) rfl _ (.int .i64 xk) rfl (run_load_cell int_flat (HX.out.cell 0))) ?_; go_frame) | (refine wpList_dst 18 rfl ?_; refine wpList_run 18 rfl rfl _ (exec_fieldAddr 33 (.tmp 5) 2 rfl _ _ rfl (fa_api_Token_2_0 _ _)) ?_; go_frame) | (refine wpList_dst 19 rfl ?_; refine wpList_run 19 rfl rfl _ (exec_load 9 (.tmp 18) rfl _ (.string xs) rfl (run_load_cell str_flat (HX.out.cell 2))) ?_; go_frame) | (at_builtin; refine wpList_pushS rfl (.tmp 17) (.tmp 20) rfl w.heap.size _ acc rfl HO.out (xs) HB.out.size (by omega) rfl ?_; intro v5 w5 ho5 hb5; have HO5 := Lib.hid ho5; have HB5 := Lib.hid (HB.out.trans hb5); clear ho5 hb5 HO HB))
        go_roundw
        case rel => exact ⟨k + 1, by go_num, by omega, Lib.hid (by rw [HN.out [xs] HP.out]; exact HO5.out), HB5⟩
        case measure => simp [intOf]; omega
      by_cases hd2 : xk = 2
      · have hd := hd2
        have HP := Lib.hid (show ((partI ⟨xk, xa, xs, xv⟩).toList).map sb = [sb (Lib.itoa xv)] by simp [partI, Lx.part, hd])
        have m1 : (xk == 1) = false := by rw [beq_eq_false_iff_ne]; omega
        have m4 : (xk == 4) = false := by rw [beq_eq_false_iff_ne]; omega
        have m2 : (xk == 2) = true := by rw [hd]; rfl
        clear hd hd1 hd4 hd2
        go_wp2_with (first | (refine wpList_dst 10 rfl ?_; refine wpList_run 10 rfl rfl _ (exec_atT (.tmp 6) (.tmp 8) rfl b off _ cap k hlt rfl rfl) ?_; go_frame) | (refine wpList_dst 11 rfl ?_; refine wpList_run 11 rfl rfl _ (exec_loadT (.tmp 10) rfl b _ ⟨xk, xa, xs, xv⟩ rfl HC.out) ?_; go_frame) | (refine wpList_var rfl rfl 33 5 rfl rfl rfl (.tmp 11) rfl zT [.int .i64 xk, .int .i64 xa, .string xs, .int .i64 xv] tk_zero rfl rfl rfl tk_size (List.forall_mem_cons.2 ⟨rfl, (List.forall_mem_cons.2 ⟨rfl, (List.forall_mem_cons.2 ⟨rfl, (List.forall_mem_cons.2 ⟨rfl, fun _ h => nomatch h⟩)⟩)⟩)⟩) ?_; intro w2 HX HBw; replace HO := Lib.hid (HO.out.below HBw.out); replace HB := Lib.hid (HB.out.trans (HBw.out.mono HB.out.size)); replace HE1 := Lib.hid (HE1.out.next HBw.out); clear HBw) | (refine wpList_dst 12 rfl ?_; refine wpList_run 12 rfl rfl _ (exec_fieldAddr 33 (.tmp 5) 0 rfl _ _ rfl (fa_api_Token_0_0 _ _)) ?_; go_frame) | (refine wpList_dst 13 rfl ?_; refine wpList_run 13 rfl rfl _ (exec_load 3 (.tmp 12) rfl _ (.int .i64 xk) rfl (run_load_cell int_flat (HX.out.cell 0))) ?_; go_frame) | (refine wpList_dst 25 rfl ?_; refine wpList_run 25 rfl rfl _ (exec_fieldAddr 33 (.tmp 5) 3 rfl _ _ rfl (fa_api_Token_3_0 _ _)) ?_; go_frame) | (refine wpList_dst 26 rfl ?_; refine wpList_run 26 rfl rfl _ (exec_load 3 (.tmp 25) rfl _ (.int .i64 xv) rfl (run_load_cell int_flat (HX.out.cell 3))) ?_; go_frame) | (refine (itoa_any xv hv0 hv1 _ HE1.out).mono ?_; rintro e w8 ⟨rfl, hb⟩; replace HO := Lib.hid (HO.out.below hb); replace HE1 := Lib.hid (HE1.out.next hb); replace HB := Lib.hid (HB.out.trans (hb.mono HB.out.size)); clear hb) | (at_builtin; refine wpList_pushS rfl (.tmp 24) (.tmp 28) rfl w.heap.size _ acc rfl HO.out (sb (Lib.itoa xv)) HB.out.size (by omega) rfl ?_; intro v5 w5 ho5 hb5; have HO5 := Lib.hid ho5; have HB5 := Lib.hid (HB.out.trans hb5); clear ho5 hb5 HO HB))
        go_roundw
        case rel => exact ⟨k + 1, by go_num, by omega, Lib.hid (by rw [HN.out [sb (Lib.itoa xv)] HP.out]; exact HO5.out), HB5⟩
        case measure => simp [intOf]; omega
      by_cases hd3 : xk = 3
      · have hd := hd3
        have HP := Lib.hid (show ((partI ⟨xk, xa, xs, xv⟩).toList).map sb = [sb (quo xs.data.toList)] by simp [partI, Lx.part, hd])
        have m1 : (xk == 1) = false := by rw [beq_eq_false_iff_ne]; omega
        have m4 : (xk == 4) = false := by rw [beq_eq_false_iff_ne]; omega
        have m2 : (xk == 2) = false := by rw [beq_eq_false_iff_ne]; omega
        have m3 : (xk == 3) = true := by rw [hd]; rfl
        have hq := fun W => quoted_any xs.data.toList W (by have : xs.data.toList.length = xs.size := Array.length_toList; omega)
        simp only [sb_of] at hq
        have HQ := Lib.hid hq
        clear hd hd1 hd4 hd2 hd3 hq
        go_wp2_with (first | (refine wpList_dst 10 rfl ?_; refine wpList_run 10 rfl rfl _ (exec_atT (.tmp 6) (.tmp 8) rfl b off _ cap k hlt rfl rfl) ?_; go_frame) | (refine wpList_dst 11 rfl ?_; refine wpList_run 11 rfl rfl _ (exec_loadT (.tmp 10) rfl b _ ⟨xk, xa, xs, xv⟩ rfl HC.out) ?_; go_frame) | (refine wpList_var rfl rfl 33 5 rfl rfl rfl (.tmp 11) rfl zT [.int .i64 xk, .int .i64 xa, .string xs, .int .i64 xv] tk_zero rfl rfl rfl tk_size (List.forall_mem_cons.2 ⟨rfl, (List.forall_mem_cons.2 ⟨rfl, (List.forall_mem_cons.2 ⟨rfl, (List.forall_mem_cons.2 ⟨rfl, fun _ h => nomatch h⟩)⟩)⟩)⟩) ?_; intro w2 HX HBw; replace HO := Lib.hid (HO.out.below HBw.out); replace HB := Lib.hid (HB.out.trans (HBw.out.mono HB.out.size)); replace HE1 := Lib.hid (HE1.out.next HBw.out); clear HBw) | (refine wpList_dst 12 rfl ?_; refine wpList_run 12 rfl rfl _ (exec_fieldAddr 33 (.tmp 5) 0 rfl _ _ rfl (fa_api_Token_0_0 _ _)) ?_; go_frame) | (refine wpList_dst 13 rfl ?_; refine wpList_run 13 rfl rfl _ (exec_load 3 (.tmp 12) rfl _ (.int .i64 xk) rfl (run_load_cell int_flat (HX.out.cell 0))) ?_; go_frame) | (refine wpList_dst 33 rfl ?_; refine wpList_run 33 rfl rfl _ (exec_fieldAddr 33 (.tmp 5) 2 rfl _ _ rfl (fa_api_Token_2_0 _ _)) ?_; go_frame) | (refine wpList_dst 34 rfl ?_; refine wpList_run 34 rfl rfl _ (exec_load 9 (.tmp 33) rfl _ (.string xs) rfl (run_load_cell str_flat (HX.out.cell 2))) ?_; go_frame) | (refine (HQ.out _).mono ?_; rintro e w8 ⟨rfl, hb⟩; replace HO := Lib.hid (HO.out.below hb); replace HE1 := Lib.hid (HE1.out.next hb); replace HB := Lib.hid (HB.out.trans (hb.mono HB.out.size)); clear hb) | (at_builtin; refine wpList_pushS rfl (.tmp 32) (.tmp 36) rfl w.heap.size _ acc rfl HO.out (sb (quo xs.data.toList)) HB.out.size (by omega) rfl ?_; intro v5 w5 ho5 hb5; have HO5 := Lib.hid ho5; have HB5 := Lib.hid (HB.out.trans hb5); clear ho5 hb5 HO HB))
        go_roundw
        case rel => exact ⟨k + 1, by go_num, by omega, Lib.hid (by rw [HN.out [sb (quo xs.data.toList)] HP.out]; exact HO5.out), HB5⟩
        case measure => simp [intOf]; omega
      · have HP := Lib.hid (show ((partI ⟨xk, xa, xs, xv⟩).toList).map sb = [] by simp [partI, Lx.part, hd1, hd2, hd3, hd4])
        have m1 : (xk == 1) = false := by rw [beq_eq_false_iff_ne]; omega
        have m4 : (xk == 4) = false := by rw [beq_eq_false_iff_ne]; omega
        have m2 : (xk == 2) = false := by rw [beq_eq_false_iff_ne]; omega
        have m3 : (xk == 3) = false := by rw [beq_eq_false_iff_ne]; omega
        clear hd1 hd4 hd2 hd3
        go_wp2_with (first | (refine wpList_dst 10 rfl ?_; refine wpList_run 10 rfl rfl _ (exec_atT (.tmp 6) (.tmp 8) rfl b off _ cap k hlt rfl rfl) ?_; go_frame) | (refine wpList_dst 11 rfl ?_; refine wpList_run 11 rfl rfl _ (exec_loadT (.tmp 10) rfl b _ ⟨xk, xa, xs, xv⟩ rfl HC.out) ?_; go_frame) | (refine wpList_var rfl rfl 33 5 rfl rfl rfl (.tmp 11) rfl zT [.int .i64 xk, .int .i64 xa, .string xs, .int .i64 xv] tk_zero rfl rfl rfl tk_size (List.forall_mem_cons.2 ⟨rfl, (List.forall_mem_cons.2 ⟨rfl, (List.forall_mem_cons.2 ⟨rfl, (List.forall_mem_cons.2 ⟨rfl, fun _ h => nomatch h⟩)⟩)⟩)⟩) ?_; intro w2 HX HBw; replace HO := Lib.hid (HO.out.below HBw.out); replace HB := Lib.hid (HB.out.trans (HBw.out.mono HB.out.size)); replace HE1 := Lib.hid (HE1.out.next HBw.out); clear HBw) | (refine wpList_dst 12 rfl ?_; refine wpList_run 12 rfl rfl _ (exec_fieldAddr 33 (.tmp 5) 0 rfl _ _ rfl (fa_api_Token_0_0 _ _)) ?_; go_frame) | (refine wpList_dst 13 rfl ?_; refine wpList_run 13 rfl rfl _ (exec_load 3 (.tmp 12) rfl _ (.int .i64 xk) rfl (run_load_cell int_flat (HX.out.cell 0))) ?_; go_frame))
        go_roundw
        case rel => exact ⟨k + 1, by go_num, by omega, Lib.hid (by rw [HN.out [] HP.out, List.append_nil]; exact HO.out), HB⟩
        case measure => simp [intOf]; omega
    · obtain rfl : k = l.length := by omega
      have h1 : decide ((l.length : Int) < (l.length : Int)) = false := decide_eq_false (by omega)
      have ho := HO.out
      rw [List.take_length] at ho
      have hj := join_any _ (prts l) _ _ ho (by have := HPL.out l; omega) (by rw [prts_back]; exact HL.out)
      rw [prts_back] at hj
      have HJ := Lib.hid hj
      clear ho hj
      go_wp2_with (first | (refine HJ.out.mono ?_; rintro e w8 ⟨rfl, hb⟩; have HB8 := Lib.hid (HB.out.trans (hb.mono HB.out.size)); clear hb))
      go_ret
      exact ⟨rfl, HB8.out⟩
end Go.Proofs.YtggjgikpiljoiaaDoor
