/- Contract of merkle's CheckConsistency. -/
import Derived.Test.YtfbemmeonkceiaaDoorK16
namespace Go.Proofs.YtfbemmeonkceiaaDoor
open Go.RowKit Hm Wm

theorem wpList_eqD {w : World} {ops : Array Oper} {rest : List Oper} {o : Oper} {a : Act} {Q : Exit → Act → World → Prop} (hw : Region.wanted o (yielded ops a.tmps) = true) (x y : Operand) (rt : TypeId) (ho : o.op = .binOp .eql 31 x y rt) (d e : Dg) (hx : a.eval x = dv d) (hy : a.eval y = dv e)
    (h : wpList Tryd.prog ops Q rest (a.put o.dst (.bool (dgEq d e))) w) : wpList Tryd.prog ops Q (o :: rest) a w := by
  have hrun := exec_eqD (w := w) x y rt ho d e hx hy
  refine wpList_want hw fun K hK => ?_
  unfold Oper.wp
  rw [hrun]
  exact hK _ _ h
theorem wpList_loadB {w : World} {ops : Array Oper} {rest : List Oper} {o : Oper} {a : Act} {Q : Exit → Act → World → Prop} (hw : Region.wanted o (yielded ops a.tmps) = true) (x : Operand) (ho : o.op = .load 31 x) (g : Nat) (d : Dg) (hx : a.eval x = .pointer (some ⟨g, 0, none⟩)) (hb : Blk w g 31 (dc d))
    (h : wpList Tryd.prog ops Q rest (a.put o.dst (dv d)) w) : wpList Tryd.prog ops Q (o :: rest) a w := by
  have hrun := exec_loadB (w := w) (g := g) (d := d) x ho hx hb
  refine wpList_want hw fun K hK => ?_
  unfold Oper.wp
  rw [hrun]
  exact hK _ _ h

set_option maxRecDepth 100000 in
set_option maxHeartbeats 1000000 in
theorem chkC_zero (w0 : World) (hg0 : Glob w0) (A : Option Addr) (c : Nat) (path : List Dg) (old : Dg) (p1 p2 p3 p4 : Nat) (k1 : Blk w0 p1 3 [.int .i64 0]) (k2 : Blk w0 p2 31 (dc old)) (w : World) (hS : StN w0 A c path 0 w) :
    Calls Tryd.prog 59 #[nextF w0.heap.size, .pointer (some ⟨p1, 0, none⟩), .pointer (some ⟨p2, 0, none⟩), .pointer (some ⟨p3, 0, none⟩), .pointer (some ⟨p4, 0, none⟩)] w fun e w' => e = .returned (.bool (dgEq old emptyD)) ∧ StN w0 A c path 0 w' := by
  have HS := Lib.hid hS
  have K1 := Lib.hid (k1.next hS.1)
  have K2 := Lib.hid k2
  have HG := Lib.hid hg0
  clear hS k1 k2 hg0
  unfold nextF
  go_enter Tryd.func59, Tryd.ntmps59
  go_wp2_with (refine wpList_load_var rfl 3 (.tmp 1) rfl p1 _ (.int .i64 0) rfl K1.out int_flat ?_)
  have hN := HS.out.drew
  refine wp_region_held_drew (S := fun W => Below w0.heap.size w0 W) (by kernel_rfl) HS.out.drew.1 (fun hS4 => ?_)
  generalize w.drew = w4 at hS4 hN ⊢
  refine reg_takeG (i := 0) (some 11) rfl rfl rfl (by kernel_rfl) (by kernel_rfl) (by kernel_rfl) (dv old) (fun _ _ _ h => h) (fun W hW => exec_loadB (.tmp 2) rfl rfl (K2.out.next hW)) hS4 ?_
  go_frame
  refine reg_callG (i := 1) (some 12) rfl rfl rfl (by kernel_rfl) rfl Tryd.func15 (by kernel_rfl) (by kernel_rfl) #[.slice none 0 0] rfl (root_none none 0 w4 (HG.out.next hS4)) ?_
  rintro e w5 ⟨rfl, hb5⟩
  have hN5 := hN.next hb5
  rw [rootD_nil]
  refine ⟨_, rfl, hN5.1, ?_⟩
  go_frame
  refine reg_valueG (i := 2) (some 13) rfl rfl rfl (by kernel_rfl) (.bool (dgEq old emptyD)) (exec_eqD (.tmp 11) (.tmp 12) _ rfl old emptyD rfl rfl) hN5.1 ?_
  go_frame
  refine reg_valueG (i := 3) (some 6) rfl rfl rfl (by kernel_rfl) (.bool (dgEq old emptyD)) (exec_assign (.tmp 13) rfl _ rfl) hN5.1 ?_
  go_frame
  refine wpAnyH_done (by kernel_rfl) ?_ _
  have HF := Lib.hid hN5
  clear hN hS4 hN5 hb5 HS HG K1 K2
  obtain ⟨z, hz⟩ : ∃ z, dgEq old emptyD = z := ⟨_, rfl⟩
  rw [hz]
  have HZ := Lib.hid hz
  clear hz
  go_wp2
  go_ret
  exact ⟨by rw [HZ.out]; rfl, HF.out⟩

set_option maxRecDepth 100000 in
set_option maxHeartbeats 1000000 in
theorem chkC_any (w0 : World) (hg0 : Glob w0) (A : Option Addr) (c : Nat) (path : List Dg) (hr : RdD w0 A path) (old root : Dg) (m n : Nat) (p1 p2 p3 p4 : Nat) (k1 : Blk w0 p1 3 [.int .i64 m]) (k2 : Blk w0 p2 31 (dc old)) (k3 : Blk w0 p3 3 [.int .i64 n]) (k4 : Blk w0 p4 31 (dc root))
    (h1 : 1 ≤ m) (hmn : m ≤ n) (hn : n ≤ 2 ^ 41) (w : World) (hS : StN w0 A c path 0 w) :
    Calls Tryd.prog 59 #[nextF w0.heap.size, .pointer (some ⟨p1, 0, none⟩), .pointer (some ⟨p2, 0, none⟩), .pointer (some ⟨p3, 0, none⟩), .pointer (some ⟨p4, 0, none⟩)] w fun e w' => e = .returned (.bool (dgEq (oldD m n true old 0 path).1 old && dgEq (oldD m n true old 0 path).2.1 root)) ∧ StN w0 A c path (oldD m n true old 0 path).2.2 w' := by
  have HC := Lib.hid (fun w => old_any w0 hg0 A c path hr n m n true old 0 w (Nat.le_refl _) h1 hmn hn (by omega))
  have HS := Lib.hid hS
  have K1 := Lib.hid (k1.next hS.1)
  have K2 := Lib.hid (k2.next hS.1)
  have K20 := Lib.hid k2
  have K3 := Lib.hid (k3.next hS.1)
  have K4 := Lib.hid k4
  have m1 : ((m : Int) == 0) = false := by rw [beq_eq_false_iff_ne]; omega
  have m2 : (m == 0) = false := by rw [beq_eq_false_iff_ne]; omega
  clear hS k1 k2 k3 k4 hr hg0
  obtain ⟨⟨r1, r2, u⟩, hR⟩ : ∃ R, oldD m n true old 0 path = R := ⟨_, rfl⟩
  rw [hR] at HC ⊢
  clear hR
  cases hb1 : dgEq r1 old
  all_goals
    have HB1 := Lib.hid hb1
    obtain ⟨z, hz⟩ : ∃ z, dgEq r2 root = z := ⟨_, rfl⟩
    rw [hz]
    have HZ := Lib.hid hz
    clear hb1 hz
    unfold nextF
    go_enter Tryd.func59, Tryd.ntmps59
    go_wp2_with (first | (refine wpList_load_var rfl 3 (.tmp 1) rfl p1 _ (.int .i64 m) rfl K1.out int_flat ?_) | (refine wpList_load_var rfl 3 (.tmp 3) rfl p3 _ (.int .i64 n) rfl K3.out int_flat ?_) | (refine wpList_loadB rfl (.tmp 2) rfl p2 old rfl K2.out ?_))
    refine (HC.out w HS.out).mono ?_
    rintro e w2 ⟨rfl, hN2, hT2⟩
    have hb2 := ((Below.refl w2.heap.size w2).alloc (Nat.le_refl _) (.cells (zb 16).toArray 31)).alloc (by simp) (.cells (zb 16).toArray 31)
    have h7 := (Blk.new w2 31 (zb 16)).alloc (.cells (zb 16).toArray 31)
    have h8 := Blk.new (w2.alloc (.cells (zb 16).toArray 31)) 31 (zb 16)
    rw [size_alloc] at h8
    have HN2 := Lib.hid (hN2.next hb2)
    have H7 := Lib.hid h7
    have H8 := Lib.hid h8
    have HBIG := Lib.hid hN2.big
    clear hN2 hT2 HC K1 K2 K3 h7 h8 hb2
    go_wp2_with (first | (refine wpList_alloc_zero rfl 31 rfl (zb 16) dg_zero ?_; try rw [size_alloc]) | (refine wpList_store_all rfl _ (.tmp 7) (.tmp 20) rfl w2.heap.size _ (zb 16) (dc r1) rfl rfl H7.out (dd_len _) (dd_size _) (dc_one _) ?_; intro w3 HK7 ho3; have HN3 := Lib.hid (HN2.out.only ho3 HBIG.out); have H8' := Lib.hid (ho3.blk H8.out (by omega)); clear ho3) | (refine wpList_store_all rfl _ (.tmp 8) (.tmp 21) rfl (w2.heap.size + 1) _ (zb 16) (dc r2) rfl rfl H8'.out (dd_len _) (dd_size _) (dc_one _) ?_; intro w4 HK8 ho4; have HN4 := Lib.hid (HN3.out.only ho4 (by have := HBIG.out; omega)); have HK7' := Lib.hid (ho4.blk HK7.out (by omega)); clear ho4) | (refine wpList_loadB rfl (.tmp 7) rfl w2.heap.size r1 rfl HK7'.out ?_) | (refine wpList_loadB rfl (.tmp 2) rfl p2 old rfl (K20.out.next HN4.out.1) ?_) | (refine wpList_eqD rfl (.tmp 22) (.tmp 23) _ rfl r1 old rfl rfl ?_; rw [HB1.out]) | (refine wpList_loadB rfl (.tmp 8) rfl (w2.heap.size + 1) r2 rfl HK8.out ?_) | (refine wpList_loadB rfl (.tmp 4) rfl p4 root rfl (K4.out.next HN4.out.1) ?_) | (refine wpList_eqD rfl (.tmp 26) (.tmp 27) _ rfl r2 root rfl rfl ?_; rw [HZ.out]))
    go_ret
    exact ⟨rfl, HN4.out⟩

set_option maxRecDepth 100000 in
set_option maxHeartbeats 1000000 in
theorem cc_bad (m n : Int) (old root : Dg) (P : Value) (w : World) (h : m < 0 ∨ n < m ∨ 1099511627776 < n) :
    Calls Tryd.prog 30 #[.int .i64 m, .int .i64 n, dv old, dv root, P] w fun e w' => e = .returned (.bool false) ∧ Below w.heap.size w w' := by
  have hb := Lib.hid (((((Below.refl w.heap.size w).alloc (Nat.le_refl _) (.cells #[.int .i64 m] 3)).alloc (by simp) (.cells #[.int .i64 n] 3)).alloc (by simp; omega) (.cells (dc old).toArray 31)).alloc (by simp; omega) (.cells (dc root).toArray 31))
  unfold dv
  by_cases h0 : m < 0
  · have d0 : decide (m < 0) = true := decide_eq_true h0
    clear h
    go_enter Tryd.func30, Tryd.ntmps30
    go_wp2
    go_ret
    exact ⟨rfl, hb.out⟩
  · have d0 : decide (m < 0) = false := decide_eq_false h0
    by_cases h1 : n < m
    · have d1 : decide (n < m) = true := decide_eq_true h1
      clear h
      go_enter Tryd.func30, Tryd.ntmps30
      go_wp2
      go_ret
      exact ⟨rfl, hb.out⟩
    · have d1 : decide (n < m) = false := decide_eq_false h1
      have d2 : decide (1099511627776 < n) = true := decide_eq_true (by omega)
      clear h
      go_enter Tryd.func30, Tryd.ntmps30
      go_wp2
      go_ret
      exact ⟨rfl, hb.out⟩

set_option maxRecDepth 100000 in
set_option maxHeartbeats 1000000 in
theorem cc_run (m n : Nat) (old root : Dg) (A : Option Addr) (c : Nat) (path : List Dg) (w : World) (hmn : m ≤ n) (hn : n ≤ 1099511627776) (res : Bool) (used : Nat)
    (hchk : ∀ W0 : World, Below w.heap.size w W0 → Blk W0 w.heap.size 3 [.int .i64 m] → Blk W0 (w.heap.size + 1) 3 [.int .i64 n] → Blk W0 (w.heap.size + 1 + 1) 31 (dc old) → Blk W0 (w.heap.size + 1 + 1 + 1) 31 (dc root) → ∀ W, StN W0 A c path 0 W →
      Calls Tryd.prog 59 (#[nextF W0.heap.size] ++ #[.pointer (some ⟨w.heap.size, 0, none⟩), .pointer (some ⟨w.heap.size + 1 + 1, 0, none⟩), .pointer (some ⟨w.heap.size + 1, 0, none⟩), .pointer (some ⟨w.heap.size + 1 + 1 + 1, 0, none⟩)]) W fun e W' => e = .returned (.bool res) ∧ StN W0 A c path used W') :
    Calls Tryd.prog 30 #[.int .i64 m, .int .i64 n, dv old, dv root, .slice A path.length c] w fun e w' => e = .returned (.bool (res && decide (used = path.length))) ∧ Below w.heap.size w w' := by
  have hmf : ∀ (fn : Fn) (first cap : Array Value) (w : World), (Instr.makeFunc fn first cap).run Tryd.prog w = .ok (.func fn first cap) w := fun _ _ _ _ => rfl
  have hb := ((((Below.refl w.heap.size w).alloc (Nat.le_refl _) (.cells #[.int .i64 m] 3)).alloc (by simp) (.cells #[.int .i64 n] 3)).alloc (by simp; omega) (.cells (dc old).toArray 31)).alloc (by simp; omega) (.cells (dc root).toArray 31)
  have k1 : Blk ((((w.alloc (.cells #[.int .i64 m] 3)).alloc (.cells #[.int .i64 n] 3)).alloc (.cells (dc old).toArray 31)).alloc (.cells (dc root).toArray 31)) w.heap.size 3 [.int .i64 m] := (((Blk.new w 3 [.int .i64 m]).alloc _).alloc _).alloc _
  have k2 := ((Blk.new (w.alloc (.cells #[.int .i64 m] 3)) 3 [.int .i64 n]).alloc (.cells (dc old).toArray 31)).alloc (.cells (dc root).toArray 31)
  have k3 := (Blk.new ((w.alloc (.cells #[.int .i64 m] 3)).alloc (.cells #[.int .i64 n] 3)) 31 (dc old)).alloc (.cells (dc root).toArray 31)
  have k4 := Blk.new (((w.alloc (.cells #[.int .i64 m] 3)).alloc (.cells #[.int .i64 n] 3)).alloc (.cells (dc old).toArray 31)) 31 (dc root)
  rw [size_alloc] at k2
  rw [size_alloc, size_alloc] at k3
  rw [size_alloc, size_alloc, size_alloc] at k4
  have HC := Lib.hid (follow_any _ 59 _ Tryd.func59 (by kernel_rfl) (by kernel_rfl) _ A c path res used (hchk _ hb k1 k2 k3 k4))
  have HB := Lib.hid hb
  have d0 : decide ((m : Int) < 0) = false := decide_eq_false (by omega)
  have d1 : decide ((n : Int) < (m : Int)) = false := decide_eq_false (by omega)
  have d1' : decide (n < m) = false := decide_eq_false (by omega)
  have d2 : decide ((1099511627776 : Int) < (n : Int)) = false := decide_eq_false (by omega)
  clear k1 k2 k3 k4 hb hchk
  unfold dv
  go_enter Tryd.func30, Tryd.ntmps30
  go_wp2_with fail
  refine HC.out.mono ?_
  rintro e w5 ⟨rfl, hb5⟩
  have HF := Lib.hid (HB.out.trans (hb5.mono HB.out.size))
  clear hb5 HC HB
  obtain ⟨z, hz⟩ : ∃ z, (res && decide (used = path.length)) = z := ⟨_, rfl⟩
  simp only [hz]
  have HZ := Lib.hid hz
  clear hz
  go_wp2
  go_ret
  exact ⟨by rw [← HZ.out]; rfl, HF.out⟩
theorem cc_zero (n : Nat) (old root : Dg) (A : Option Addr) (c : Nat) (path : List Dg) (w : World) (hg : Glob w) (hn : n ≤ 1099511627776) :
    Calls Tryd.prog 30 #[.int .i64 0, .int .i64 n, dv old, dv root, .slice A path.length c] w fun e w' => e = .returned (.bool (dgEq old emptyD && decide (0 = path.length))) ∧ Below w.heap.size w w' :=
  cc_run 0 n old root A c path w (Nat.zero_le _) hn _ _ fun W0 hb k1 _ k3 _ W hW => chkC_zero W0 (hg.next hb) A c path old _ _ _ _ k1 k3 W hW
theorem cc_any (m n : Nat) (old root : Dg) (A : Option Addr) (c : Nat) (path : List Dg) (w : World) (hg : Glob w) (hr : RdD w A path) (h1 : 1 ≤ m) (hmn : m ≤ n) (hn : n ≤ 1099511627776) :
    Calls Tryd.prog 30 #[.int .i64 m, .int .i64 n, dv old, dv root, .slice A path.length c] w fun e w' => e = .returned (.bool ((dgEq (oldD m n true old 0 path).1 old && dgEq (oldD m n true old 0 path).2.1 root) && decide ((oldD m n true old 0 path).2.2 = path.length))) ∧ Below w.heap.size w w' :=
  cc_run m n old root A c path w hmn hn _ _ fun W0 hb k1 k2 k3 k4 W hW => chkC_any W0 (hg.next hb) A c path (hr.below hb) old root m n _ _ _ _ k1 k3 k2 k4 h1 hmn (by omega) W hW
end Go.Proofs.YtfbemmeonkceiaaDoor
