/- The reference's Leaf, Node, Empty and Same. -/
import Derived.Test.YtfbemmeonkceiaaDoorK23
import Derived.Test.YtfbemmeonkceiaaDoorME
namespace Go.Proofs.YtfbemmeonkceiaaDoor
open Go.RowKit Hm Wm

/-- The reference's table. -/
def RTab (w : World) : Prop := w.rangeAt 4 0 (wc K)
theorem RTab.next {w w' : World} (h : RTab w) (hb : Below w.heap.size w w') : RTab w' := range_below' h hb
/-- Of, of digests. -/
theorem rofD_any (tag : Int) (A : Option Addr) (c : Nat) (ss : List ByteArray) (w : World) (ht : RTab w) (hr : Rd w A (ss.map Value.string)) (hz : ∀ s ∈ ss, s.size ≤ 400) (hl : ss.length ≤ 2) :
    Calls Tryd.prog 40 #[.int .i64 tag, .slice A ss.length c] w fun e w' => e = .returned (dv (hashD tag ss)) ∧ Below w.heap.size w w' :=
  rof_any tag A c ss w hr (by omega) hz ht

set_option maxRecDepth 100000 in
set_option maxHeartbeats 400000 in
theorem rleaf_any (s : ByteArray) (w : World) (hg : RTab w) (hs : s.size ≤ 400) :
    Calls Tryd.prog 18 #[.string s] w fun e w' => e = .returned (dv (leafD s)) ∧ Below w.heap.size w w' := by
  have hb := (Below.refl w.heap.size w).alloc (Nat.le_refl _) (.cells (zb 16).toArray 31)
  have HB := Lib.hid (Blk.new w 31 (zb 16))
  have HG := Lib.hid (hg.next hb)
  have HBW := Lib.hid hb
  clear hb hg
  go_enter Tryd.func18, Tryd.ntmps18
  go_wp2_with (first | (refine wpList_alloc_zero rfl 31 rfl (zb 16) dg_zero ?_))
  have hb1 := (Below.refl _ _).alloc (w := w.alloc (.cells (zb 16).toArray 31)) (Nat.le_refl _) (.cells #[.string s] 9)
  have hr1 := rd_fr (w.alloc (.cells (zb 16).toArray 31)) #[.string s] [.string s] 9 (0, 0) rfl
  rw [size_alloc] at hr1
  refine (rofD_any 30 _ 1 [s] _ (HG.out.next hb1) hr1 (by intro x hx; rw [List.mem_singleton.1 hx]; exact hs) (by simp)).mono ?_
  rintro e w2 ⟨rfl, hb2⟩
  have hb3 := hb1.trans (hb2.mono hb1.size)
  have K2 := Lib.hid (HB.out.next hb3)
  have B2 := Lib.hid (HBW.out.trans (hb3.mono HBW.out.size))
  clear hb1 hb2 hb3
  rw [← leafD_eq]
  go_wp2_with (refine wpList_store_all rfl _ (.tmp 2) (.tmp 5) rfl w.heap.size _ (zb 16) (dc (leafD s)) rfl rfl K2.out (dd_len _) (dd_size _) (dc_one _) ?_; intro w7 HB7 ho7)
  exact bodyPost_ret (results_blk rfl _ _ w.heap.size _ (dc (leafD s)) _ rfl HB7.out dg_under rfl (dd_size _)) rfl ⟨rfl, B2.out.trans (ho7.below (Nat.le_refl _))⟩

set_option maxRecDepth 100000 in
set_option maxHeartbeats 400000 in
theorem rnode_any (a b : Dg) (w : World) (hg : RTab w) :
    Calls Tryd.prog 20 #[dv a, dv b] w fun e w' => e = .returned (dv (nodeD a b)) ∧ Below w.heap.size w w' := by
  have hb := (((Below.refl w.heap.size w).alloc (Nat.le_refl _) (.cells (dc a).toArray 31)).alloc (by simp) (.cells (dc b).toArray 31)).alloc (by simp; omega) (.cells (zb 16).toArray 31)
  have ha := ((Blk.new w 31 (dc a)).alloc (.cells (dc b).toArray 31)).alloc (.cells (zb 16).toArray 31)
  have hc := (Blk.new (w.alloc (.cells (dc a).toArray 31)) 31 (dc b)).alloc (.cells (zb 16).toArray 31)
  have hr := Blk.new ((w.alloc (.cells (dc a).toArray 31)).alloc (.cells (dc b).toArray 31)) 31 (zb 16)
  rw [size_alloc] at hc
  rw [size_alloc, size_alloc] at hr
  have HA := Lib.hid ha
  have HC := Lib.hid hc
  have HR := Lib.hid hr
  have HG := Lib.hid (hg.next hb)
  have HBW := Lib.hid hb
  clear hb hg ha hc hr
  unfold dv
  go_enter Tryd.func20, Tryd.ntmps20
  go_wp2_with (first | (refine wpList_alloc_zero rfl 31 rfl (zb 16) dg_zero ?_))
  rw [size_alloc, size_alloc]
  have hS0 := Lib.hid (show HeldN w a b _ from ⟨HBW.out, HA.out, HC.out⟩)
  generalize ((w.alloc (.cells (dc a).toArray 31)).alloc (.cells (dc b).toArray 31)).alloc (.cells (zb 16).toArray 31) = w3 at HA HC HR HG HBW hS0 ⊢
  refine wp_region_held_drew (S := HeldN w a b) (by kernel_rfl) hS0.out.drew (fun hS => ?_)
  have hD := (Below.refl w3.heap.size w3).drew
  generalize w3.drew = w4 at hS hD ⊢
  refine reg_takeG (i := 0) (some 5) rfl rfl rfl (by kernel_rfl) (by kernel_rfl) (by kernel_rfl) (.slice (some ⟨w.heap.size, 0, none⟩) 16 16) (fun _ _ _ h => h) (fun W hW => exec_slice_all 31 (.tmp 2) rfl _ _ rfl (run_slice_all _ 16 dg_under W _)) hS ?_
  go_frame
  refine reg_takeG (i := 1) (some 6) rfl rfl rfl (by kernel_rfl) (by kernel_rfl) (by kernel_rfl) (.string (sbD a.1)) (fun _ _ _ h => h) (fun W hW => exec_convert 75 9 (.tmp 5) rfl _ _ rfl (run_str16 hW.2.1)) hS ?_
  go_frame
  refine reg_takeG (i := 2) (some 7) rfl rfl rfl (by kernel_rfl) (by kernel_rfl) (by kernel_rfl) (.slice (some ⟨w.heap.size + 1, 0, none⟩) 16 16) (fun _ _ _ h => h) (fun W hW => exec_slice_all 31 (.tmp 3) rfl _ _ rfl (run_slice_all _ 16 dg_under W _)) hS ?_
  go_frame
  refine reg_takeG (i := 3) (some 8) rfl rfl rfl (by kernel_rfl) (by kernel_rfl) (by kernel_rfl) (.string (sbD b.1)) (fun _ _ _ h => h) (fun W hW => exec_convert 75 9 (.tmp 7) rfl _ _ rfl (run_str16 hW.2.2)) hS ?_
  go_frame
  have hb5 := (Below.refl w4.heap.size w4).alloc (Nat.le_refl _) (.cells #[.string (sbD a.1), .string (sbD b.1)] 9)
  have hr5 := rd_fr w4 #[.string (sbD a.1), .string (sbD b.1)] ([sbD a.1, sbD b.1].map Value.string) 9 (0, 0) rfl
  have hS5 := hS.next hb5
  have hD5 := hD.trans (hb5.mono hD.size)
  refine reg_makeG (i := 4) (some 9) rfl rfl rfl (by kernel_rfl) (.slice (some ⟨w4.heap.size, 0, none⟩) 2 2) (w4.alloc (.cells #[.string (sbD a.1), .string (sbD b.1)] 9)) (exec_strs2 (.tmp 6) (.tmp 8) rfl _ _ rfl rfl) hS5 ?_
  go_frame
  generalize w4.alloc (.cells #[.string (sbD a.1), .string (sbD b.1)] 9) = w5 at hb5 hr5 hS5 hD5 ⊢
  refine reg_callG (i := 5) (some 10) rfl rfl rfl (by kernel_rfl) rfl Tryd.func40 (by kernel_rfl) (by kernel_rfl) #[.int .i64 31, .slice (some ⟨w4.heap.size, 0, none⟩) 2 2] rfl (rofD_any 31 (some ⟨w4.heap.size, 0, none⟩) 2 [sbD a.1, sbD b.1] w5 (HG.out.next hD5) hr5 (two_small a b (by omega)) (by simp)) ?_
  rintro e w6 ⟨rfl, hb6⟩
  rw [← nodeD_eq]
  have hS6 := hS5.next hb6
  have hD6 := hD5.trans (hb6.mono hD5.size)
  refine ⟨_, rfl, hS6, ?_⟩
  go_frame
  refine reg_store_all (i := 6) rfl rfl rfl (by kernel_rfl) 31 (.tmp 4) (.tmp 10) rfl (w.heap.size + 1 + 1) _ (zb 16) (dc (nodeD a b)) rfl rfl (HR.out.next hD6) (dd_len _) (dd_size _) (dc_one _) ?_
  intro w7 HB7 ho7
  have hS7 := hS6.only ho7 (by omega)
  have B7 := Lib.hid hS7.1
  refine ⟨hS7, wpAnyH_done (by kernel_rfl) ?_ _⟩
  go_frame
  go_wp2
  exact bodyPost_ret (results_blk rfl _ _ (w.heap.size + 1 + 1) _ (dc (nodeD a b)) _ rfl HB7 dg_under rfl (dd_size _)) rfl ⟨rfl, B7.out⟩

set_option maxRecDepth 100000 in
set_option maxHeartbeats 400000 in
theorem rempty_any (w : World) (hg : RTab w) :
    Calls Tryd.prog 38 #[] w fun e w' => e = .returned (dv emptyD) ∧ Below w.heap.size w w' := by
  have hb := (Below.refl w.heap.size w).alloc (Nat.le_refl _) (.cells (zb 16).toArray 31)
  have HB := Lib.hid (Blk.new w 31 (zb 16))
  have HG := Lib.hid (hg.next hb)
  have HBW := Lib.hid hb
  clear hb hg
  go_enter Tryd.func38, Tryd.ntmps38
  go_wp2_with (first | (refine wpList_alloc_zero rfl 31 rfl (zb 16) dg_zero ?_))
  refine (rofD_any 32 none 0 [] _ HG.out (Rd.nil _ _) (by simp) (by simp)).mono ?_
  rintro e w2 ⟨rfl, hb2⟩
  have K2 := Lib.hid (HB.out.next hb2)
  have B2 := Lib.hid (HBW.out.trans (hb2.mono HBW.out.size))
  clear hb2
  rw [← emptyD_eq]
  go_wp2_with (refine wpList_store_all rfl _ (.tmp 0) (.tmp 1) rfl w.heap.size _ (zb 16) (dc emptyD) rfl rfl K2.out (dd_len _) (dd_size _) (dc_one _) ?_; intro w7 HB7 ho7)
  exact bodyPost_ret (results_blk rfl _ _ w.heap.size _ (dc emptyD) _ rfl HB7.out dg_under rfl (dd_size _)) rfl ⟨rfl, B2.out.trans (ho7.below (Nat.le_refl _))⟩

theorem dg_elem : Tryd.prog.elem 22 = 31 := by kernel_rfl
theorem dg_sizeOf (W : World) : (sizeOf 31).run Tryd.prog W = .ok 16 W := by
  cases hq : Tryd.prog.info? 31 with
  | none => have h := dg_size; rw [hq] at h; cases h
  | some i =>
    have h := dg_size
    rw [hq] at h
    have h2 : i.size = 16 := by simpa using h
    simp [sizeOf, typeInfo, hq, h2]
theorem run_atD (b off n c k : Nat) (hk : k < n) (W : World) : (Instr.indexAt 22 (.slice (some ⟨b, off, none⟩) n c) (.int .i64 k)).run Tryd.prog W = .ok (.pointer (some ⟨b, off + k * 16, none⟩)) W := by
  refine (run_indexAt_slice W 22 ⟨b, off, none⟩ n c .i64 k (by rw [dg_elem]; exact ds_under)).trans ?_
  rw [if_pos ⟨by omega, by omega⟩, dg_elem, dg_sizeOf, Result.andThen_ok, Int.toNat_natCast, Addr.add_mid]
theorem exec_atD {oi : Oper} {a : Act} {w : World} (x y : Operand) (ho : oi.op = .indexAddr 22 x y) (b off n c k : Nat) (hk : k < n) (hx : a.eval x = .slice (some ⟨b, off, none⟩) n c) (hy : a.eval y = .int .i64 k) : (execOp a.eval oi).run Tryd.prog w = .ok (.value (.pointer (some ⟨b, off + k * 16, none⟩))) w :=
  exec_indexAddr _ x y ho _ _ _ hx hy (run_atD b off n c k hk w)
theorem exec_loadD {oi : Oper} {a : Act} {w : World} (x : Operand) (ho : oi.op = .load 31 x) (b o : Nat) (d : Dg) (hx : a.eval x = .pointer (some ⟨b, o, none⟩)) (hc : w.rangeAt b o (dc d)) : (execOp a.eval oi).run Tryd.prog w = .ok (.value (dv d)) w :=
  exec_load 31 x ho _ _ hx (run_loadAt_mid w b o _ (dc d) _ hc dg_under rfl (dd_size d))
theorem exec_neqD {oi : Oper} {a : Act} {w : World} (x y : Operand) (rt : TypeId) (ho : oi.op = .binOp .neq 31 x y rt) (d e : Dg) (hx : a.eval x = dv d) (hy : a.eval y = dv e) : (execOp a.eval oi).run Tryd.prog w = .ok (.value (.bool (!dgEq d e))) w :=
  exec_bin .neq 31 rt x y ho _ _ _ hx hy (run_eqGuard_agg w .neq _ x y _ _ eqg_dig) (by
    show (binOp .neq 31 (.agg (bc d.1).toArray) (.agg (bc e.1).toArray)).run Tryd.prog w = _
    rw [run_neq_struct, run_equalIn_arr _ 16 dg_under w 9998 d.1 e.1 d.2 e.2]; rfl)
theorem RdD.at {w : World} {A : Option Addr} {l : List Dg} (h : RdD w A l) {k : Nat} {x : Dg} (hx : l[k]? = some x) : ∃ b off, A = some ⟨b, off, none⟩ ∧ w.rangeAt b (off + k * 16) (dc x) := by
  obtain ⟨hk, rfl⟩ := List.getElem?_eq_some_iff.1 hx
  exact h.range hk
theorem take_more {α : Type} {a b : List α} {k : Nat} {x y : α} (h : a.take k = b.take k) (ha : a[k]? = some x) (hb : b[k]? = some y) : a.take (k + 1) = b.take (k + 1) ↔ x = y := by
  obtain ⟨h1, h2⟩ := List.getElem?_eq_some_iff.1 ha
  obtain ⟨h3, h4⟩ := List.getElem?_eq_some_iff.1 hb
  rw [List.take_succ_eq_append_getElem h1, List.take_succ_eq_append_getElem h3, h, h2, h4]
  constructor
  · intro e; simpa using e
  · rintro rfl; rfl

set_option maxRecDepth 100000 in
set_option maxHeartbeats 1000000 in
theorem same_any (A B : Option Addr) (c d : Nat) (la lb : List Dg) (w : World) (ha : RdD w A la) (hb : RdD w B lb) (hl : la.length ≤ 2 ^ 41) :
    Calls Tryd.prog 17 #[.slice A la.length c, .slice B lb.length d] w fun e w' => e = .returned (.bool (decide (la = lb))) ∧ Below w.heap.size w w' := by
  by_cases hlen : la.length = lb.length
  case neg =>
    have hne : decide (la = lb) = false := decide_eq_false (fun e => hlen (by rw [e]))
    have d0 : ((la.length : Int) != lb.length) = true := by rw [bne_iff_ne]; omega
    have d1 : (la.length != lb.length) = true := by rw [bne_iff_ne]; omega
    have d2 : (la.length == lb.length) = false := by rw [beq_eq_false_iff_ne]; omega
    have d3 : ((la.length : Int) == lb.length) = false := by rw [beq_eq_false_iff_ne]; omega
    rw [hne]
    clear ha hb hl hlen hne
    go_enter Tryd.func17, Tryd.ntmps17
    go_wp2
    go_ret
    exact ⟨rfl, Below.refl _ _⟩
  case pos =>
    have HA := Lib.hid ha
    have HB := Lib.hid hb
    have HLE := Lib.hid hlen
    rw [← hlen]
    clear ha hb hlen
    go_enter Tryd.func17, Tryd.ntmps17
    go_wp2
    go_loopw [5] (fun i wr => ∃ k : Nat, i = .int .i64 k ∧ k ≤ la.length ∧ Hid (la.take k = lb.take k) ∧ Hid (Below w.heap.size w wr)) (fun i _ => la.length - (intOf i).toNat)
    case atStart => exact ⟨0, rfl, Nat.zero_le _, rfl, Below.refl _ _⟩
    case round =>
      obtain ⟨k, rfl, hk, HT, HW⟩ := hrel
      by_cases hlt : k < la.length
      · have hltb : k < lb.length := by rw [← HLE.out]; exact hlt
        obtain ⟨x, hx⟩ : ∃ x, la[k]? = some x := ⟨la[k], List.getElem?_eq_getElem hlt⟩
        obtain ⟨y, hy⟩ : ∃ y, lb[k]? = some y := ⟨lb[k], List.getElem?_eq_getElem hltb⟩
        obtain ⟨b1, o1, rfl, hc1⟩ := (HA.out.below HW.out).at hx
        obtain ⟨b2, o2, rfl, hc2⟩ := (HB.out.below HW.out).at hy
        have HTM := Lib.hid (take_more HT.out hx hy)
        have HNE := Lib.hid (show x ≠ y → la ≠ lb from by rintro h rfl; rw [hx] at hy; injection hy with hy; exact h hy)
        have HC1 := Lib.hid hc1
        have HC2 := Lib.hid hc2
        clear hx hy hc1 hc2 hltb
        have d3 : decide ((k : Int) < (la.length : Int)) = true := decide_eq_true (by omega)
        go_wp2_with fail
        refine wp_region_held_drew (S := fun W => Below wr.heap.size wr W) (by kernel_rfl) (Below.refl _ _).drew (fun hS => ?_)
        generalize wr.drew = w4 at hS ⊢
        refine reg_takeG (i := 0) (some 17) rfl rfl rfl (by kernel_rfl) (by kernel_rfl) (by kernel_rfl) (.slice (some ⟨b1, o1, none⟩) la.length c) (fun _ _ _ h => h) (fun W hW => exec_move (.tmp 0) rfl _ rfl) hS ?_
        go_frame
        refine reg_takeG (i := 1) (some 18) rfl rfl rfl (by kernel_rfl) (by kernel_rfl) (by kernel_rfl) (.int .i64 k) (fun _ _ _ h => h) (fun W hW => exec_move (.tmp 5) rfl _ rfl) hS ?_
        go_frame
        refine reg_takeG (i := 2) (some 19) rfl rfl rfl (by kernel_rfl) (by kernel_rfl) (by kernel_rfl) (.pointer (some ⟨b1, o1 + k * 16, none⟩)) (fun _ _ _ h => h) (fun W hW => exec_atD (.tmp 17) (.tmp 18) rfl b1 o1 _ c k hlt rfl rfl) hS ?_
        go_frame
        refine reg_takeG (i := 3) (some 20) rfl rfl rfl (by kernel_rfl) (by kernel_rfl) (by kernel_rfl) (dv x) (fun _ _ _ h => h) (fun W hW => exec_loadD (.tmp 19) rfl _ _ x rfl (range_below' HC1.out hW)) hS ?_
        go_frame
        refine reg_takeG (i := 4) (some 21) rfl rfl rfl (by kernel_rfl) (by kernel_rfl) (by kernel_rfl) (.slice (some ⟨b2, o2, none⟩) la.length d) (fun _ _ _ h => h) (fun W hW => exec_move (.tmp 1) rfl _ rfl) hS ?_
        go_frame
        refine reg_takeG (i := 5) (some 22) rfl rfl rfl (by kernel_rfl) (by kernel_rfl) (by kernel_rfl) (.int .i64 k) (fun _ _ _ h => h) (fun W hW => exec_move (.tmp 5) rfl _ rfl) hS ?_
        go_frame
        refine reg_takeG (i := 6) (some 23) rfl rfl rfl (by kernel_rfl) (by kernel_rfl) (by kernel_rfl) (.pointer (some ⟨b2, o2 + k * 16, none⟩)) (fun _ _ _ h => h) (fun W hW => exec_atD (.tmp 21) (.tmp 22) rfl b2 o2 _ d k hlt rfl rfl) hS ?_
        go_frame
        refine reg_takeG (i := 7) (some 24) rfl rfl rfl (by kernel_rfl) (by kernel_rfl) (by kernel_rfl) (dv y) (fun _ _ _ h => h) (fun W hW => exec_loadD (.tmp 23) rfl _ _ y rfl (range_below' HC2.out hW)) hS ?_
        go_frame
        have HW4 := Lib.hid (HW.out.trans (hS.mono HW.out.size))
        refine reg_valueG (i := 8) (some 25) rfl rfl rfl (by kernel_rfl) (.bool (!dgEq x y)) (exec_neqD (.tmp 20) (.tmp 24) _ rfl x y rfl rfl) hS ?_
        go_frame
        refine wpAnyH_done (by kernel_rfl) ?_ _
        clear hS
        by_cases he : dgEq x y = true
        · have HE := Lib.hid (HTM.out.2 (dgEq_iff.1 he))
          rw [he]
          clear he
          go_wp2
          go_roundw
          case rel => exact ⟨k + 1, by go_num, by omega, HE.out, HW4⟩
          case measure => simp [intOf]; omega
        · have hf : dgEq x y = false := by simpa using he
          have HE := Lib.hid (HNE.out (fun e => he (dgEq_iff.2 e)))
          rw [hf]
          clear he hf
          go_wp2
          go_ret
          exact ⟨by rw [decide_eq_false HE.out]; rfl, HW4.out⟩
      · obtain rfl : k = la.length := by omega
        have HE : Hid (la = lb) := by
          have := HT.out
          rw [List.take_of_length_le (Nat.le_refl _), List.take_of_length_le (by rw [← HLE.out]; exact Nat.le_refl _)] at this
          exact this
        have d3 : decide ((la.length : Int) < (la.length : Int)) = false := decide_eq_false (by omega)
        go_wp2
        go_ret
        exact ⟨by rw [decide_eq_true HE.out]; rfl, HW.out⟩
end Go.Proofs.YtfbemmeonkceiaaDoor
