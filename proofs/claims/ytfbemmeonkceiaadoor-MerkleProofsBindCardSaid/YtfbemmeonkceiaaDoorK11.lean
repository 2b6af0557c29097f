/- A path that is read digest by digest: merkle's follow and its closures. -/
import Derived.Test.YtfbemmeonkceiaaDoorK10
import Derived.Defers
namespace Go.Proofs.YtfbemmeonkceiaaDoor
open Go.RowKit Hm Wm

/-- Nothing below N but block ga has turned. -/
def Turn (N ga : Nat) (w w' : World) : Prop := w.heap.size ≤ w'.heap.size ∧ ∀ k, k < N → k ≠ ga → w'.heap[k]? = w.heap[k]?
section
variable {N ga g : Nat} {w w' w'' : World}
theorem Turn.refl (N ga : Nat) (w : World) : Turn N ga w w := ⟨Nat.le_refl _, fun _ _ _ => rfl⟩
theorem Turn.trans (h : Turn N ga w w') (h' : Turn N ga w' w'') : Turn N ga w w'' := ⟨Nat.le_trans h.1 h'.1, fun k a b => (h'.2 k a b).trans (h.2 k a b)⟩
theorem Turn.below {B : Nat} (h : Below B w w') (hN : N ≤ B) : Turn N ga w w' := ⟨h.size, fun k a _ => h.block k (by omega)⟩
theorem Turn.only (h : Only g w w') (hN : N ≤ g ∨ g = ga) : Turn N ga w w' := ⟨Nat.le_of_eq h.size.symm, fun k a b => h.block k (by omega)⟩
theorem Turn.less {M : Nat} (h : Turn N ga w w') (hM : M ≤ N) : Turn M ga w w' := ⟨h.1, fun k a b => h.2 k (by omega) b⟩
theorem Turn.blk {k : Nat} {t : TypeId} {cs : List Value} (h : Turn N ga w w') (hb : Blk w k t cs) (hk : k < N) (hk' : k ≠ ga) : Blk w' k t cs := (h.2 k hk hk').trans hb
end

/-- What stands while a path is read: the path's variable, the result's, and how many were asked for. -/
def StN (w0 : World) (A : Option Addr) (c : Nat) (path : List Dg) (a : Nat) (W : World) : Prop :=
  Below w0.heap.size w0 W ∧ Blk W w0.heap.size 22 [.slice A path.length c] ∧ Blk W (w0.heap.size + 1) 4 [.bool false] ∧ Blk W (w0.heap.size + 2) 3 [.int .i64 a]
section
variable {w0 W W' : World} {A : Option Addr} {c a : Nat} {path : List Dg}
theorem StN.next (h : StN w0 A c path a W) (hb : Below W.heap.size W W') : StN w0 A c path a W' := ⟨h.1.trans (hb.mono h.1.size), h.2.1.next hb, h.2.2.1.next hb, h.2.2.2.next hb⟩
theorem StN.drew (h : StN w0 A c path a W) : StN w0 A c path a W.drew := ⟨h.1.drew, h.2.1, h.2.2.1, h.2.2.2⟩
theorem StN.drewN (h : StN w0 A c path a W) (n : Nat) : StN w0 A c path a (W.drewN n) := ⟨drewN_below h.1 n, h.2.1, h.2.2.1, h.2.2.2⟩
theorem StN.alloc (h : StN w0 A c path a W) (o : Obj) : StN w0 A c path a (W.alloc o) := h.next ((Below.refl _ _).alloc (Nat.le_refl _) o)
theorem StN.only {g : Nat} (h : StN w0 A c path a W) (ho : Only g W W') (hg : w0.heap.size + 3 ≤ g) : StN w0 A c path a W' := ⟨h.1.trans (ho.below (by omega)), ho.blk h.2.1 (by omega), ho.blk h.2.2.1 (by omega), ho.blk h.2.2.2 (by omega)⟩
theorem StN.big (h : StN w0 A c path a W) : w0.heap.size + 3 ≤ W.heap.size := h.2.2.2.lt
end
/-- How the next digest is asked for. -/
def nextF (B : Nat) : Value := .func (.func 73) #[] #[.pointer (some ⟨B + 2, 0, none⟩), .pointer (some ⟨B, 0, none⟩)]

theorem int_size : (Tryd.prog.info? 3).map (·.size) = some 1 := by kernel_rfl
theorem int_flat (W : World) : (isAgg 3).run Tryd.prog W = .ok false W := by kernel_rfl
theorem only_setCell (w : World) (g : Nat) (u : Value) : Only g w (w.setCell ⟨g, 0, none⟩ u) := ⟨rfl, rfl, rfl, by simp [World.setCell], fun k hk => Below.heap_setCell w _ u k hk⟩

theorem StN.step {w0 W W' : World} {A : Option Addr} {c a : Nat} {path : List Dg} (h : StN w0 A c path a W) (hk : Blk W' (w0.heap.size + 2) 3 [.int .i64 ((a : Int) + 1)]) (ho : Only (w0.heap.size + 2) W W') : StN w0 A c path (a + 1) W' :=
  ⟨h.1.trans (ho.below (by omega)), ho.blk h.2.1 (by omega), ho.blk h.2.2.1 (by omega), by rw [show ((a + 1 : Nat) : Int) = (a : Int) + 1 from by omega]; exact hk⟩

set_option maxRecDepth 100000 in
set_option maxHeartbeats 1000000 in
theorem next_any (w0 : World) (A : Option Addr) (c : Nat) (path : List Dg) (a : Nat) (w : World) (hS : StN w0 A c path a w) (hr : RdD w0 A path) (hab : a ≤ 2 ^ 42) :
    Calls Tryd.prog 73 #[.pointer (some ⟨w0.heap.size + 2, 0, none⟩), .pointer (some ⟨w0.heap.size, 0, none⟩)] w fun e w' => e = .returned (dv (nx path a)) ∧ StN w0 A c path (a + 1) w' ∧ Turn w.heap.size (w0.heap.size + 2) w w' := by
  have hS1 := hS.alloc (.cells (zb 16).toArray 31)
  have hB := Blk.new w 31 (zb 16)
  have HBIG := Lib.hid hS.big
  have HS1 := Lib.hid hS1
  have HB := Lib.hid hB
  have HT1 := Lib.hid (Turn.below (N := w.heap.size) (ga := w0.heap.size + 2) ((Below.refl w.heap.size w).alloc (Nat.le_refl _) (.cells (zb 16).toArray 31)) (Nat.le_refl _))
  by_cases ha : a < path.length
  · obtain ⟨b, off, rfl, hc⟩ := (hr.below hS.1).range ha
    have hnx : nx path a = path[a] := by unfold nx; simp [List.getD, ha]
    obtain ⟨d, hd⟩ : ∃ d, path[a] = d := ⟨_, rfl⟩
    rw [hd] at hnx hc
    have HNX := Lib.hid hnx
    have HR := Lib.hid hr
    have HD := Lib.hid hd
    have HA := Lib.hid ha
    have d1 : decide ((path.length : Int) < (a : Int) + 1) = false := decide_eq_false (by omega)
    have d2 : decide (path.length < a + 1) = false := decide_eq_false (by omega)
    clear hS hS1 hB hnx hr hc hd
    rw [HNX.out]
    go_enter Tryd.func73, Tryd.ntmps73
    go_wp2_with (first | (refine wpList_alloc_zero rfl 31 rfl (zb 16) dg_zero ?_) | (refine wpList_load_var rfl 3 (.tmp 0) rfl (w0.heap.size + 2) _ (.int .i64 a) rfl HS1.out.2.2.2 int_flat  ?_) | (refine wpList_store_var rfl 3 (.tmp 0) (.tmp 4) rfl (w0.heap.size + 2) _ (.int .i64 a) (.int .i64 ((a : Int) + 1)) rfl rfl HS1.out.2.2.2 int_size rfl rfl ?_; intro w2 HK2 ho2; have HS2 := Lib.hid (HS1.out.step HK2.out ho2); have HT2 := Lib.hid (HT1.out.trans (Turn.only ho2 (.inr rfl))); have HB2 := Lib.hid (ho2.blk HB.out (by have := HBIG.out; omega)); clear ho2) | (refine wpList_load_var rfl 3 (.tmp 0) rfl (w0.heap.size + 2) _ (.int .i64 ((a : Int) + 1)) rfl HK2.out int_flat  ?_) | (refine wpList_load_var rfl 22 (.tmp 1) rfl w0.heap.size _ (.slice (some ⟨b, off, none⟩) path.length c) rfl HS2.out.2.1 ds_flat  ?_) | (refine wpList_loadD rfl (.tmp 13) rfl b (off + a * 16) rfl d (by obtain ⟨b', off', e, hc⟩ := (HR.out.below HS2.out.1).range HA.out; cases e; rw [HD.out] at hc; exact hc)  ?_) | (refine wpList_store_all rfl _ (.tmp 2) (.tmp 14) rfl w.heap.size _ (zb 16) (dc d) rfl rfl HB2.out (dd_len _) (dd_size _) (dc_one _) ?_; intro w7 HB7 ho7))
    exact bodyPost_ret (results_blk rfl _ _ w.heap.size _ (dc d) _ rfl HB7.out dg_under rfl (dd_size _)) rfl ⟨rfl, HS2.out.only ho7 HBIG.out, HT2.out.trans (Turn.only ho7 (.inl (Nat.le_refl _)))⟩
  · have hnx : nx path a = dz := by unfold nx; simp [List.getD, ha]
    have HNX := Lib.hid hnx
    have d1 : decide ((path.length : Int) < (a : Int) + 1) = true := decide_eq_true (by omega)
    have d2 : decide (path.length < a + 1) = true := decide_eq_true (by omega)
    have hbz : ∀ W, (Instr.build 31 #[]).run Tryd.prog W = .ok (dv dz) W := fun W => by kernel_rfl
    clear hS hS1 hB hnx hr
    rw [HNX.out]
    go_enter Tryd.func73, Tryd.ntmps73
    go_wp2_with (first | (refine wpList_alloc_zero rfl 31 rfl (zb 16) dg_zero ?_) | (refine wpList_load_var rfl 3 (.tmp 0) rfl (w0.heap.size + 2) _ (.int .i64 a) rfl HS1.out.2.2.2 int_flat  ?_) | (refine wpList_store_var rfl 3 (.tmp 0) (.tmp 4) rfl (w0.heap.size + 2) _ (.int .i64 a) (.int .i64 ((a : Int) + 1)) rfl rfl HS1.out.2.2.2 int_size rfl rfl ?_; intro w2 HK2 ho2; have HS2 := Lib.hid (HS1.out.step HK2.out ho2); have HT2 := Lib.hid (HT1.out.trans (Turn.only ho2 (.inr rfl))); have HB2 := Lib.hid (ho2.blk HB.out (by have := HBIG.out; omega)); clear ho2) | (refine wpList_load_var rfl 3 (.tmp 0) rfl (w0.heap.size + 2) _ (.int .i64 ((a : Int) + 1)) rfl HK2.out int_flat  ?_) | (refine wpList_load_var rfl 22 (.tmp 1) rfl w0.heap.size _ (.slice A path.length c) rfl HS2.out.2.1 ds_flat  ?_) | (refine wpList_store_all rfl _ (.tmp 2) (.tmp 9) rfl w.heap.size _ (zb 16) (dc dz) rfl rfl HB2.out (dd_len _) (dd_size _) (dc_one _) ?_; intro w7 HB7 ho7))
    exact bodyPost_ret (results_blk rfl _ _ w.heap.size _ (dc dz) _ rfl HB7.out dg_under rfl (dd_size _)) rfl ⟨rfl, HS2.out.only ho7 HBIG.out, HT2.out.trans (Turn.only ho7 (.inl (Nat.le_refl _)))⟩
end Go.Proofs.YtfbemmeonkceiaaDoor
