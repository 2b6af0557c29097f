/- Contract of merkle's Root. -/
import Derived.Test.YtfbemmeonkceiaaDoorK3
namespace Go.Proofs.YtfbemmeonkceiaaDoor
open Go.RowKit Hm Wm

/-- A digest of a list is loaded. -/
theorem wpList_loadD {w : World} {ops : Array Oper} {rest : List Oper} {op : Oper} {a : Act} {Q : Exit → Act → World → Prop} (hgd : op.guard = none) (x : Operand) (ho : op.op = .load 31 x)
    (b o : Nat) (hx : a.eval x = .pointer (some ⟨b, o, none⟩)) (d : Dg) (hc : w.rangeAt b o (dc d))
    (h : wpList Tryd.prog ops Q rest (a.put op.dst (dv d)) w) : wpList Tryd.prog ops Q (op :: rest) a w :=
  wpList_load_mid hgd 31 x ho b o hx (dc d) _ hc dg_under rfl (dd_size d) h

set_option maxRecDepth 100000 in
set_option maxHeartbeats 400000 in
theorem root_none (A : Option Addr) (c : Nat) (w : World) (hg : Glob w) :
    Calls Tryd.prog 15 #[.slice A 0 c] w fun e w' => e = .returned (dv (rootD [])) ∧ Below w.heap.size w w' := by
  have hb := (Below.refl w.heap.size w).alloc (Nat.le_refl _) (.cells (zb 16).toArray 31)
  have HB := Lib.hid (Blk.new w 31 (zb 16))
  have HG := Lib.hid (hg.next hb)
  have HBW := Lib.hid hb
  clear hb hg
  rw [rootD_nil]
  go_enter Tryd.func15, Tryd.ntmps15
  go_wp2_with (first | (refine wpList_alloc_zero rfl 31 rfl (zb 16) dg_zero ?_))
  refine (ofD_any 32 none 0 [] _ HG.out (Rd.nil _ _) (by simp) (by simp)).mono ?_
  rintro e w2 ⟨rfl, hb2⟩
  have K2 := Lib.hid (HB.out.next hb2)
  have B2 := Lib.hid (HBW.out.trans (hb2.mono HBW.out.size))
  clear hb2
  rw [← emptyD_eq]
  go_wp2_with (refine wpList_store_all rfl _ (.tmp 2) (.tmp 9) rfl w.heap.size _ (zb 16) (dc emptyD) rfl rfl K2.out (dd_len _) (dd_size _) (dc_one _) ?_; intro w7 HB7 ho7)
  exact bodyPost_ret (results_blk rfl _ _ w.heap.size _ (dc emptyD) _ rfl HB7.out dg_under rfl (dd_size _)) rfl ⟨rfl, B2.out.trans (ho7.below (Nat.le_refl _))⟩

set_option maxRecDepth 100000 in
set_option maxHeartbeats 400000 in
theorem root_one (A : Option Addr) (c : Nat) (d : Dg) (w : World) (hr : RdD w A [d]) :
    Calls Tryd.prog 15 #[.slice A 1 c] w fun e w' => e = .returned (dv (rootD [d])) ∧ Below w.heap.size w w' := by
  have hb := (Below.refl w.heap.size w).alloc (Nat.le_refl _) (.cells (zb 16).toArray 31)
  have HB := Lib.hid (Blk.new w 31 (zb 16))
  obtain ⟨b, off, rfl, hc⟩ := (hr.below hb).range (k := 0) (by simp)
  rw [Nat.zero_mul, Nat.add_zero] at hc
  have HC : Hid (World.rangeAt (w.alloc (.cells (zb 16).toArray 31)) b off (dc d)) := hc
  have HBW := Lib.hid hb
  clear hb hr hc
  rw [rootD_one]
  go_enter Tryd.func15, Tryd.ntmps15
  go_wp2_with (first | (refine wpList_alloc_zero rfl 31 rfl (zb 16) dg_zero ?_) | (refine wpList_loadD rfl (.tmp 13) rfl b off rfl d HC.out ?_) | (refine wpList_store_all rfl _ (.tmp 2) (.tmp 14) rfl w.heap.size _ (zb 16) (dc d) rfl rfl HB.out (dd_len _) (dd_size _) (dc_one _) ?_; intro w7 HB7 ho7))
  exact bodyPost_ret (results_blk rfl _ _ w.heap.size _ (dc d) _ rfl HB7.out dg_under rfl (dd_size _)) rfl ⟨rfl, HBW.out.trans (ho7.below (Nat.le_refl _))⟩

set_option maxRecDepth 100000 in
set_option maxHeartbeats 400000 in
theorem root_any (k : Nat) : ∀ (l : List Dg) (A : Option Addr) (c : Nat) (w : World), l.length ≤ k → l.length ≤ c → l.length ≤ 2 ^ 41 → Glob w → RdD w A l →
    Calls Tryd.prog 15 #[.slice A l.length c] w fun e w' => e = .returned (dv (rootD l)) ∧ Below w.heap.size w w' := by
  induction k with
  | zero =>
    intro l A c w hk _ _ hg _
    obtain rfl : l = [] := List.eq_nil_of_length_eq_zero (by omega)
    exact root_none A c w hg
  | succ k ih =>
    intro l A c w hk hc hn hg hr
    rcases Nat.lt_or_ge l.length 2 with h2 | h2
    · rcases l with _ | ⟨d, r⟩
      · exact root_none A c w hg
      · obtain rfl : r = [] := List.eq_nil_of_length_eq_zero (by simp at h2; omega)
        exact root_one A c d w hr
    · have hb := (Below.refl w.heap.size w).alloc (Nat.le_refl _) (.cells (zb 16).toArray 31)
      have HB := Lib.hid (Blk.new w 31 (zb 16))
      have hlt := hf_lt h2
      have hp := hf_pos l.length
      have e1 : (l.take (hf l.length)).length = hf l.length := by rw [List.length_take]; omega
      have e2 : (l.drop (hf l.length)).length = l.length - hf l.length := List.length_drop
      have hroot := rootD_two h2
      have c1 := fun (w' : World) (hg' : Glob w') (hr' : RdD w' A (l.take (hf l.length))) => ih (l.take (hf l.length)) A (hf l.length) w' (by omega) (by omega) (by omega) hg' hr'
      have c2 := fun (w' : World) (hg' : Glob w') (hr' : RdD w' (dA A l.length (hf l.length)) (l.drop (hf l.length))) => ih (l.drop (hf l.length)) (dA A l.length (hf l.length)) (l.length - hf l.length) w' (by omega) (by omega) (by omega) hg' hr'
      rw [e1] at c1
      rw [e2] at c2
      have r1 := hr.take (hf l.length)
      have r2 := hr.drop (hf l.length)
      have HC1 := Lib.hid c1
      have HC2 := Lib.hid c2
      have HP := Lib.hid (fun w' => parts_any A l.length c w' h2 hc hn)
      have HR1 := Lib.hid r1
      have HR2 := Lib.hid r2
      have HX := Lib.hid hroot
      have HG := Lib.hid hg
      have HBW := Lib.hid hb
      have n0 : (l.length == 0) = false := by rw [beq_eq_false_iff_ne]; omega
      have n1 : (l.length == 1) = false := by rw [beq_eq_false_iff_ne]; omega
      have m0 : ((l.length : Int) == 0) = false := by rw [beq_eq_false_iff_ne]; omega
      have m1 : ((l.length : Int) == 1) = false := by rw [beq_eq_false_iff_ne]; omega
      clear c1 c2 r1 r2 hroot hg hb ih hr hlt hp e1 e2
      go_enter Tryd.func15, Tryd.ntmps15
      go_wp2_with (first | (refine wpList_alloc_zero rfl 31 rfl (zb 16) dg_zero ?_))
      refine (HP.out _).mono ?_
      rintro e w1 ⟨rfl, q, hq⟩
      have B1 := Lib.hid (show Below w.heap.size w w1 from by rw [hq]; exact drewN_below HBW.out q)
      have K1 := Lib.hid (show Blk w1 w.heap.size 31 (zb 16) from by rw [hq]; exact HB.out)
      clear hq
      go_wp2_with fail
      refine (HC1.out w1 (HG.out.next B1.out) (HR1.out.below B1.out)).mono ?_
      rintro e w2 ⟨rfl, hb2⟩
      have B2 := Lib.hid (B1.out.trans (hb2.mono B1.out.size))
      have K2 := Lib.hid (K1.out.next hb2)
      clear hb2
      go_wp2_with fail
      refine (HC2.out w2 (HG.out.next B2.out) (HR2.out.below B2.out)).mono ?_
      rintro e w3 ⟨rfl, hb3⟩
      have B3 := Lib.hid (B2.out.trans (hb3.mono B2.out.size))
      have K3 := Lib.hid (K2.out.next hb3)
      clear hb3
      go_wp2_with fail
      refine (node_any _ _ w3 (HG.out.next B3.out)).mono ?_
      rintro e w4 ⟨rfl, hb4⟩
      have B4 := Lib.hid (B3.out.trans (hb4.mono B3.out.size))
      have K4 := Lib.hid (K3.out.next hb4)
      clear hb4
      rw [← HX.out]
      obtain ⟨d, hd⟩ : ∃ d, rootD l = d := ⟨_, rfl⟩
      rw [hd]
      have HD := Lib.hid hd
      clear hd
      go_wp2_with (refine wpList_store_all rfl _ (.tmp 2) (.tmp 24) rfl w.heap.size _ (zb 16) (dc d) rfl rfl K4.out (dd_len _) (dd_size _) (dc_one _) ?_; intro w7 HB7 ho7)
      exact bodyPost_ret (results_blk rfl _ _ w.heap.size _ (dc d) _ rfl HB7.out dg_under rfl (dd_size _)) rfl ⟨by rw [HD.out]; rfl, B4.out.trans (ho7.below (Nat.le_refl _))⟩
end Go.Proofs.YtfbemmeonkceiaaDoor
