/- The walk of MerklePeaksMatchSpec. -/
import Derived.Test.YtfbemmeonkceiaaDoorKRp3
namespace Go.Proofs.YtfbemmeonkceiaaDoor
open Go.RowKit Hm Wm

theorem newD_nil (w : World) : NewD w [] (.slice none 0 0) := ⟨none, 0, rfl, Rd.nil _ _, Nat.le_refl _⟩
/-- Append, of the program and of the reference. -/
theorem app_both (s : Int) (A : Option Addr) (c : Nat) (tops : List Dg) (leaf : Dg) (hc : tops.length ≤ c) : ∃ (s' e : Int) (T : List Dg), T.length ≤ 65 ∧
    (∀ w, All w → RdD w A tops → Calls Tryd.prog 25 #[pkV s (.slice A tops.length c), dv leaf] w fun r w' => ∃ v, r = .returned (.tuple #[pkV s' v, .int .i64 e]) ∧ NewD w' T v ∧ Below w.heap.size w w') ∧
    (∀ w, All w → RdD w A tops → Calls Tryd.prog 27 #[pkV s (.slice A tops.length c), dv leaf] w fun r w' => ∃ v, r = .returned (.agg (grc s' v e).toArray) ∧ NewD w' T v ∧ Below w.heap.size w w') := by
  by_cases hw : wfB s tops.length = true
  · obtain ⟨h0, h1, h2⟩ := (wfB_iff s tops.length).1 hw
    obtain ⟨k, rfl⟩ := Int.eq_ofNat_of_zero_le h0
    rw [Int.toNat_natCast] at h2
    by_cases hk : k = 1099511627776
    · subst hk
      refine ⟨0, 2, [], by simp, fun w _ _ => (append_full A tops.length c leaf w hw).mono ?_, fun w _ _ => (rappend_full A tops.length c leaf w hw).mono ?_⟩
      · rintro r w' ⟨rfl, hb⟩; exact ⟨_, rfl, newD_nil _, hb⟩
      · rintro r w' ⟨rfl, hb⟩; exact ⟨_, rfl, newD_nil _, hb⟩
    · have hl : tops.length ≤ 64 := by rw [h2]; exact pop_le 64 k
      refine ⟨(k : Int) + 1, 0, appD tops k leaf, by have := appD_len tops k leaf; omega, fun w hg hr => append_any k A c tops leaf w hg.1 hg.2.1 hr (by omega) h2 hc, fun w hg hr => rappend_any k A c tops leaf w hg hr (by omega) h2⟩
  · have hf : wfB s tops.length = false := by simpa using hw
    refine ⟨0, 1, [], by simp, fun w _ _ => (append_bad s A tops.length c leaf w hf).mono ?_, fun w _ _ => (rappend_bad s A tops.length c leaf w hf).mono ?_⟩
    · rintro r w' ⟨rfl, hb⟩; exact ⟨_, rfl, newD_nil _, hb⟩
    · rintro r w' ⟨rfl, hb⟩; exact ⟨_, rfl, newD_nil _, hb⟩
theorem pop_pos : ∀ (f m : Nat), m < 2 ^ f → m ≠ 0 → Go.Lib.popAux f m ≠ 0
  | 0, m, h, h0 => by simp at h; omega
  | f + 1, m, h, h0 => by
    rw [pop_succ]
    by_cases hm : m / 2 = 0
    · omega
    · have := pop_pos f (m / 2) (by rw [Nat.pow_succ] at h; omega) hm
      omega
theorem pop_zero (m : Nat) (h : m ≤ 1099511627776) (h0 : Go.Lib.popAux 64 m = ([] : List Dg).length) : m = 0 := by
  rcases Nat.eq_zero_or_pos m with h1 | h1
  · exact h1
  · exact absurd h0 (pop_pos 64 m (by omega) (by omega))
/-- Top, of the program and of the reference. -/
theorem top_both (s : Int) (A : Option Addr) (c : Nat) (tops : List Dg) (hc : tops.length ≤ c) : ∃ (d : Dg) (e : Int),
    (∀ w, All w → RdD w A tops → Calls Tryd.prog 26 #[pkV s (.slice A tops.length c)] w fun r w' => r = .returned (.tuple #[dv d, .int .i64 e]) ∧ Below w.heap.size w w') ∧
    (∀ w, All w → RdD w A tops → Calls Tryd.prog 28 #[pkV s (.slice A tops.length c)] w fun r w' => r = .returned (.agg (tpc d e).toArray) ∧ Below w.heap.size w w') := by
  by_cases hw : wfB s tops.length = true
  · obtain ⟨h0, h1, h2⟩ := (wfB_iff s tops.length).1 hw
    obtain ⟨k, rfl⟩ := Int.eq_ofNat_of_zero_le h0
    rw [Int.toNat_natCast] at h2
    by_cases hk : k = 0
    · subst hk
      exact ⟨emptyD, 0, fun w hg _ => top_zero A tops.length c w hg.1 hw, fun w hg _ => rtop_zero A tops.length c w hg hw⟩
    · have hne : tops ≠ [] := by
        rintro rfl
        have hp := pop_zero k (by omega) h2.symm
        omega
      obtain ⟨t, x, rfl⟩ : ∃ t x, tops = t ++ [x] := ⟨tops.dropLast, tops.getLast hne, (List.dropLast_concat_getLast hne).symm⟩
      exact ⟨joinD t x, 0, fun w hg hr => top_any k A c t x w hg.1 hr hk (by omega) h2 hc, fun w hg hr => rtop_any k A c t x w hg hr hk (by omega) h2⟩
  · have hf : wfB s tops.length = false := by simpa using hw
    exact ⟨dz, 1, fun w _ _ => top_bad s A tops.length c w hf, fun w _ _ => rtop_bad s A tops.length c w hf⟩
theorem wpList_loadDW {w : World} {ops : Array Oper} {rest : List Oper} {o : Oper} {a : Act} {Q : Exit → Act → World → Prop} (hw : Region.wanted o (yielded ops a.tmps) = true) (x : Operand) (ho : o.op = .load 31 x) (b off : Nat) (d : Dg) (hx : a.eval x = .pointer (some ⟨b, off, none⟩)) (hc : w.rangeAt b off (dc d))
    (h : wpList Tryd.prog ops Q rest (a.put o.dst (dv d)) w) : wpList Tryd.prog ops Q (o :: rest) a w := by
  have hrun := exec_loadD (w := w) x ho b off d hx hc
  refine wpList_want hw fun K hK => ?_
  unfold Oper.wp
  rw [hrun]
  exact hK _ _ h
theorem wpList_sameD {w : World} {ops : Array Oper} {rest : List Oper} {o : Oper} {a : Act} {Q : Exit → Act → World → Prop} (hw : Region.wanted o (yielded ops a.tmps) = true) (x y : Operand) (rt : TypeId) (ho : o.op = .binOp .eql 31 x y rt) (d : Dg) (hx : a.eval x = dv d) (hy : a.eval y = dv d)
    (h : wpList Tryd.prog ops Q rest (a.put o.dst (.bool true)) w) : wpList Tryd.prog ops Q (o :: rest) a w := by
  have hrun := exec_sameD (w := w) x y rt ho d hx hy
  refine wpList_want hw fun K hK => ?_
  unfold Oper.wp
  rw [hrun]
  exact hK _ _ h

set_option maxRecDepth 1000000 in
set_option maxHeartbeats 4000000 in
theorem walkPeaks_out (s : Int) (A : Option Addr) (n c : Nat) (leaf : Dg) (w : World) (hg : All w) (h : 50 < n) :
    Calls Tryd.prog 5 #[pkV s (.slice A n c), dv leaf] w fun e w' => e = .returned (.bool true) ∧ Below w.heap.size w w' := by
  have hb0 := ((Below.refl w.heap.size w).alloc (Nat.le_refl _) (.cells #[.int .i64 s, .slice A n c] 43)).alloc (by simp) (.cells (dc leaf).toArray 31)
  have HS := Lib.hid (sanity_any _ (hg.next hb0))
  have HB0 := Lib.hid hb0
  have d1 : decide ((50 : Int) < (n : Int)) = true := decide_eq_true (by omega)
  clear hb0 hg h
  unfold dv pkV
  go_enter Tryd.func5, Tryd.ntmps5
  go_wp2_with fail
  refine HS.out.mono ?_
  rintro e w1 ⟨rfl, hb⟩
  have HB := Lib.hid (HB0.out.trans (hb.mono HB0.out.size))
  clear hb
  go_wp2
  go_ret
  exact ⟨rfl, HB.out⟩

set_option maxRecDepth 1000000 in
set_option maxHeartbeats 4000000 in
theorem walkPeaks_in (s : Int) (A : Option Addr) (c : Nat) (tops : List Dg) (leaf : Dg) (w : World) (hg : All w) (hr : RdD w A tops) (hc : tops.length ≤ c) (hn : tops.length ≤ 50) :
    Calls Tryd.prog 5 #[pkV s (.slice A tops.length c), dv leaf] w fun e w' => e = .returned (.bool true) ∧ Below w.heap.size w w' := by
  obtain ⟨s', e', T, hT, hA1, hA2⟩ := app_both s A c tops leaf hc
  obtain ⟨d, e2, hT1, hT2⟩ := top_both s A c tops hc
  have hb0 := ((Below.refl w.heap.size w).alloc (Nat.le_refl _) (.cells #[.int .i64 s, .slice A tops.length c] 43)).alloc (by simp) (.cells (dc leaf).toArray 31)
  have k1 := (Blk.new w 43 (pkc s (.slice A tops.length c))).alloc (.cells (dc leaf).toArray 31)
  have k2 := Blk.new (w.alloc (.cells #[.int .i64 s, .slice A tops.length c] 43)) 31 (dc leaf)
  rw [size_alloc] at k2
  have GL := Lib.hid (hg.next hb0)
  have R := Lib.hid (hr.next hb0)
  have B := Lib.hid hb0
  have K2 : Hid (Blk ((w.alloc (.cells #[.int .i64 s, .slice A tops.length c] 43)).alloc (.cells (dc leaf).toArray 31)) w.heap.size 43 (pkc s (.slice A tops.length c))) := k1
  have K3 := Lib.hid k2
  have HA1 := Lib.hid hA1
  have HA2 := Lib.hid hA2
  have HT1 := Lib.hid hT1
  have HT2 := Lib.hid hT2
  have HT := Lib.hid hT
  have d1 : decide ((50 : Int) < (tops.length : Int)) = false := decide_eq_false (by omega)
  clear hb0 hg hr k1 k2 hA1 hA2 hT1 hT2 hT hc hn
  unfold dv pkV
  go_enter Tryd.func5, Tryd.ntmps5
  go_wp2_with (first | (refine wpList_load_all rfl _ (.tmp 2) rfl w.heap.size _ (pkc s (.slice A tops.length c)) _ rfl K2.out Tryd.underlying43 rfl pk_size ?_) | (refine wpList_loadB rfl (.tmp 3) rfl (w.heap.size + 1) leaf rfl K3.out ?_))
  refine (HA1.out _ GL.out R.out).mono ?_
  rintro e v1 ⟨r, rfl, ⟨A5, c5, rfl, h5, -⟩, hb⟩
  replace GL := Lib.hid (GL.out.next hb)
  replace R := Lib.hid (R.out.next hb)
  replace K2 := Lib.hid (K2.out.next hb)
  replace K3 := Lib.hid (K3.out.next hb)
  replace B := Lib.hid (B.out.trans (hb.mono B.out.size))
  have R5 := Lib.hid h5
  clear hb h5
  go_wp2_with (first | (refine wpList_var rfl rfl 43 5 rfl rfl rfl (.tmp 20) rfl (pkc 0 (.slice none 0 0)) (pkc s' (.slice A5 T.length c5)) pk_zero rfl rfl rfl pk_size (pkc_one _ _ _ _) ?_; intro x5 K5 D; replace GL := Lib.hid (GL.out.next D.out); replace R := Lib.hid (R.out.next D.out); replace K2 := Lib.hid (K2.out.next D.out); replace K3 := Lib.hid (K3.out.next D.out); replace R5 := Lib.hid (R5.out.next D.out); replace B := Lib.hid (B.out.trans (D.out.mono B.out.size)); clear D) | (refine wpList_load_all rfl _ (.tmp 2) rfl w.heap.size _ (pkc s (.slice A tops.length c)) _ rfl K2.out Tryd.underlying43 rfl pk_size ?_))
  refine (HT1.out _ GL.out R.out).mono ?_
  rintro e v2 ⟨rfl, hb⟩
  replace GL := Lib.hid (GL.out.next hb)
  replace R := Lib.hid (R.out.next hb)
  replace K2 := Lib.hid (K2.out.next hb)
  replace K3 := Lib.hid (K3.out.next hb)
  replace R5 := Lib.hid (R5.out.next hb)
  replace K5 := Lib.hid (K5.out.next hb)
  replace B := Lib.hid (B.out.trans (hb.mono B.out.size))
  clear hb
  go_wp2_with (first | (refine wpList_var rfl rfl 31 7 rfl rfl rfl (.tmp 25) rfl (zb 16) (dc d) dg_zero rfl rfl (dd_len _) (dd_size _) (dc_one _) ?_; intro x7 K7 D; replace GL := Lib.hid (GL.out.next D.out); replace R := Lib.hid (R.out.next D.out); replace K2 := Lib.hid (K2.out.next D.out); replace K3 := Lib.hid (K3.out.next D.out); replace R5 := Lib.hid (R5.out.next D.out); replace K5 := Lib.hid (K5.out.next D.out); replace B := Lib.hid (B.out.trans (D.out.mono B.out.size)); clear D) | (refine wpList_load_all rfl _ (.tmp 2) rfl w.heap.size _ (pkc s (.slice A tops.length c)) _ rfl K2.out Tryd.underlying43 rfl pk_size ?_) | (refine wpList_loadB rfl (.tmp 3) rfl (w.heap.size + 1) leaf rfl K3.out ?_))
  refine (HA2.out _ GL.out R.out).mono ?_
  rintro e v3 ⟨r, rfl, ⟨A9, c9, rfl, h9, -⟩, hb⟩
  replace GL := Lib.hid (GL.out.next hb)
  replace R := Lib.hid (R.out.next hb)
  replace K2 := Lib.hid (K2.out.next hb)
  replace K3 := Lib.hid (K3.out.next hb)
  replace R5 := Lib.hid (R5.out.next hb)
  replace K5 := Lib.hid (K5.out.next hb)
  replace K7 := Lib.hid (K7.out.next hb)
  replace B := Lib.hid (B.out.trans (hb.mono B.out.size))
  have R9 := Lib.hid h9
  clear hb h9
  go_wp2_with (first | (refine wpList_var rfl rfl 49 9 rfl rfl rfl (.tmp 29) rfl (grc 0 (.slice none 0 0) 0) (grc s' (.slice A9 T.length c9) e') gr_zero rfl rfl rfl gr_size (grc_one _ _ _ _ _) ?_; intro x9 K9 D; replace GL := Lib.hid (GL.out.next D.out); replace R := Lib.hid (R.out.next D.out); replace K2 := Lib.hid (K2.out.next D.out); replace K3 := Lib.hid (K3.out.next D.out); replace R5 := Lib.hid (R5.out.next D.out); replace K5 := Lib.hid (K5.out.next D.out); replace K7 := Lib.hid (K7.out.next D.out); replace R9 := Lib.hid (R9.out.next D.out); replace B := Lib.hid (B.out.trans (D.out.mono B.out.size)); clear D) | (refine wpList_load_all rfl _ (.tmp 2) rfl w.heap.size _ (pkc s (.slice A tops.length c)) _ rfl K2.out Tryd.underlying43 rfl pk_size ?_))
  refine (HT2.out _ GL.out R.out).mono ?_
  rintro e v4 ⟨rfl, hb⟩
  replace GL := Lib.hid (GL.out.next hb)
  replace R := Lib.hid (R.out.next hb)
  replace K2 := Lib.hid (K2.out.next hb)
  replace K3 := Lib.hid (K3.out.next hb)
  replace R5 := Lib.hid (R5.out.next hb)
  replace K5 := Lib.hid (K5.out.next hb)
  replace K7 := Lib.hid (K7.out.next hb)
  replace R9 := Lib.hid (R9.out.next hb)
  replace K9 := Lib.hid (K9.out.next hb)
  replace B := Lib.hid (B.out.trans (hb.mono B.out.size))
  clear hb
  go_wp2_with (refine wpList_var rfl rfl 52 10 rfl rfl rfl (.tmp 31) rfl (tpc dz 0) (tpc d e2) tt_zero rfl rfl (by rw [tpc_len, tpc_len]) (tt_size' _ _) (tpc_one _ _) ?_; intro x10 K10 D; replace GL := Lib.hid (GL.out.next D.out); replace R := Lib.hid (R.out.next D.out); replace K2 := Lib.hid (K2.out.next D.out); replace K3 := Lib.hid (K3.out.next D.out); replace R5 := Lib.hid (R5.out.next D.out); replace K5 := Lib.hid (K5.out.next D.out); replace K7 := Lib.hid (K7.out.next D.out); replace R9 := Lib.hid (R9.out.next D.out); replace K9 := Lib.hid (K9.out.next D.out); replace B := Lib.hid (B.out.trans (D.out.mono B.out.size)); clear D)
  refine (sanity_any _ GL.out).mono ?_
  rintro e y1 ⟨rfl, hb⟩
  replace GL := Lib.hid (GL.out.next hb)
  replace R := Lib.hid (R.out.next hb)
  replace K2 := Lib.hid (K2.out.next hb)
  replace K3 := Lib.hid (K3.out.next hb)
  replace R5 := Lib.hid (R5.out.next hb)
  replace K5 := Lib.hid (K5.out.next hb)
  replace K7 := Lib.hid (K7.out.next hb)
  replace R9 := Lib.hid (R9.out.next hb)
  replace K9 := Lib.hid (K9.out.next hb)
  replace K10 := Lib.hid (K10.out.next hb)
  replace B := Lib.hid (B.out.trans (hb.mono B.out.size))
  clear hb
  have h50 : y1.cell? ⟨v1.heap.size, 0, none⟩ = some (.int .i64 s') := K5.out.cell 0
  have h51 : y1.cell? ⟨v1.heap.size, 1, none⟩ = some (.slice A5 T.length c5) := K5.out.cell 1
  have h90 : y1.cell? ⟨v3.heap.size, 0, none⟩ = some (.int .i64 s') := K9.out.cell 0
  have h91 : y1.cell? ⟨v3.heap.size, 1, none⟩ = some (.slice A9 T.length c9) := K9.out.cell 1
  have hss : (s' == s') = true := by simp
  go_wp2_with fail
  have hcall := same_any A5 A9 c5 c9 T T y1 R5.out R9.out (by have := HT.out; omega)
  rw [decide_eq_true rfl] at hcall
  refine hcall.mono ?_
  rintro e y2 ⟨rfl, hb⟩
  replace GL := Lib.hid (GL.out.next hb)
  replace R := Lib.hid (R.out.next hb)
  replace K2 := Lib.hid (K2.out.next hb)
  replace K3 := Lib.hid (K3.out.next hb)
  replace R5 := Lib.hid (R5.out.next hb)
  replace K5 := Lib.hid (K5.out.next hb)
  replace K7 := Lib.hid (K7.out.next hb)
  replace R9 := Lib.hid (R9.out.next hb)
  replace K9 := Lib.hid (K9.out.next hb)
  replace K10 := Lib.hid (K10.out.next hb)
  replace B := Lib.hid (B.out.trans (hb.mono B.out.size))
  clear hb hcall h50 h51 h90 h91 hss
  have h92 : y2.cell? ⟨v3.heap.size, 2, none⟩ = some (.int .i64 e') := K9.out.cell 2
  have h10 : y2.cell? ⟨v4.heap.size, 16, none⟩ = some (.int .i64 e2) := by
    rw [K10.out.cell 16]
    unfold tpc
    rw [List.getElem?_append_right (by rw [dc_len]; exact Nat.le_refl _), dc_len]; rfl
  have hrg : y2.rangeAt v4.heap.size 0 (dc d) := fun j u hu => by
    rw [Nat.zero_add, K10.out.cell j]
    unfold tpc
    rw [List.getElem?_append_left (by rcases Nat.lt_or_ge j (dc d).length with h | h; exact h; rw [List.getElem?_eq_none h] at hu; cases hu)]
    exact hu
  have HRG := Lib.hid hrg
  clear hrg
  have he1 : (e' == e') = true := by simp
  have he2 : (e2 == e2) = true := by simp
  go_wp2_with (first | (refine wpList_loadB rfl (.tmp 7) rfl v2.heap.size d rfl K7.out ?_) | (refine wpList_loadDW rfl (.tmp 57) rfl v4.heap.size 0 d rfl HRG.out ?_) | (refine wpList_sameD rfl (.tmp 56) (.tmp 58) _ rfl d rfl rfl ?_))
  go_ret
  exact ⟨rfl, B.out⟩

theorem walkPeaks (s : Int) (A : Option Addr) (c : Nat) (tops : List Dg) (leaf : Dg) (w : World) (hg : All w) (hr : RdD w A tops) (hc : tops.length ≤ c) :
    Calls Tryd.prog 5 #[pkV s (.slice A tops.length c), dv leaf] w fun e w' => e = .returned (.bool true) ∧ Below w.heap.size w w' := by
  rcases Nat.lt_or_ge 50 tops.length with h | h
  · exact walkPeaks_out s A tops.length c leaf w hg h
  · exact walkPeaks_in s A c tops leaf w hg hr hc h
end Go.Proofs.YtfbemmeonkceiaaDoor
