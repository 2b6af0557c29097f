/- Contract of merkle's Node. -/
import Derived.Test.YtfbemmeonkceiaaDoorK1
namespace Go.Proofs.YtfbemmeonkceiaaDoor
open Go.RowKit Hm Wm

theorem run_str16 {W : World} {g : Nat} {d : Dg} (h : Blk W g 31 (dc d)) : (convert 75 9 (.slice (some ⟨g, 0, none⟩) 16 16)).run Tryd.prog W = .ok (.string (sbD d.1)) W := by
  have hr : Rd W (some ⟨g, 0, none⟩) (bc d.1) := fun _ => ⟨g, 0, rfl, fun k u hu => by rw [Nat.zero_add, h.cell k]; exact hu⟩
  have := run_str hr 16
  rw [d.2] at this
  exact this
theorem str_info : (Tryd.prog.info? 9).map (fun i => (i.zero, i.size, i.bytes)) = some (some (.string ByteArray.empty), 1, 16) := by kernel_rfl
theorem run_strs2 (w : World) (s t : ByteArray) : (Instr.buildSlice 74 2 #[(0, .string s), (1, .string t)]).run Tryd.prog w = .ok (.slice (some ⟨w.heap.size, 0, none⟩) 2 2) (w.alloc (.cells #[.string s, .string t] 9)) := by
  obtain ⟨i0, hi, hz0, hz1, hz2⟩ := info_parts str_info
  refine run_buildSlice w _ _ 2 _ _ i0 _ Tryd.underlying74 hi hz0 (by rw [hz1]; omega) (by rw [hz1]; omega) ?_
  rw [hz1]
  rw [show (Array.map (fun x => (Value.string ByteArray.empty).cells[x % (Value.string ByteArray.empty).cells.size]!) (Array.range (2 * 1))) = #[.string ByteArray.empty, .string ByteArray.empty] from by kernel_rfl]
  rfl
theorem exec_strs2 {oi : Oper} {a : Act} {w : World} (x y : Operand) (ho : oi.op = .buildSlice 74 2 #[(0, x), (1, y)]) (s t : ByteArray) (hx : a.eval x = .string s) (hy : a.eval y = .string t) :
    (execOp a.eval oi).run Tryd.prog w = .ok (.value (.slice (some ⟨w.heap.size, 0, none⟩) 2 2)) (w.alloc (.cells #[.string s, .string t] 9)) := by
  unfold execOp
  simp only [ho, List.map_toArray, List.map_cons, List.map_nil, hx, hy, Sem.run_bind, run_strs2, Result.andThen_ok]
  rfl
/-- What stands while the order is drawn. -/
def HeldN (w : World) (a b : Dg) (W : World) : Prop := Below w.heap.size w W ∧ Blk W w.heap.size 31 (dc a) ∧ Blk W (w.heap.size + 1) 31 (dc b)
theorem HeldN.next {w W W' : World} {a b : Dg} (h : HeldN w a b W) (hb : Below W.heap.size W W') : HeldN w a b W' := ⟨h.1.trans (hb.mono h.1.size), h.2.1.next hb, h.2.2.next hb⟩
theorem HeldN.drew {w W : World} {a b : Dg} (h : HeldN w a b W) : HeldN w a b W.drew := ⟨h.1.drew, h.2.1, h.2.2⟩
theorem HeldN.only {w W W' : World} {a b : Dg} {g : Nat} (h : HeldN w a b W) (ho : Only g W W') (hg : w.heap.size + 1 < g) : HeldN w a b W' := ⟨h.1.trans (ho.below (by omega)), ho.blk h.2.1 (by omega), ho.blk h.2.2 (by omega)⟩
theorem sbD_size (d : Dg) : (sbD d.1).size = 16 := by unfold sbD; rw [ByteArray.size]; simp [d.2]
theorem two_small (a b : Dg) {n : Nat} (h : 16 ≤ n) : ∀ s ∈ [sbD a.1, sbD b.1], s.size ≤ n := by
  intro s hs
  simp only [List.mem_cons, List.not_mem_nil, or_false] at hs
  rcases hs with rfl | rfl <;> rw [sbD_size] <;> omega

set_option maxRecDepth 100000 in
set_option maxHeartbeats 400000 in
theorem node_any (a b : Dg) (w : World) (hg : Glob w) :
    Calls Tryd.prog 19 #[dv a, dv b] w fun e w' => e = .returned (dv (nodeD a b)) ∧ Below w.heap.size w w' := by
  have hb := (((Below.refl w.heap.size w).alloc (Nat.le_refl _) (.cells (dc a).toArray 31)).alloc (by simp) (.cells (dc b).toArray 31)).alloc (by simp; omega) (.cells (zb 16).toArray 31)
  have ha := ((Blk.new w 31 (dc a)).alloc (.cells (dc b).toArray 31)).alloc (.cells (zb 16).toArray 31)
  have hc := (Blk.new (w.alloc (.cells (dc a).toArray 31)) 31 (dc b)).alloc (.cells (zb 16).toArray 31)
  have hr := Blk.new ((w.alloc (.cells (dc a).toArray 31)).alloc (.cells (dc b).toArray 31)) 31 (zb 16)
  rw [size_alloc] at hc
  rw [size_alloc, size_alloc] at hr
  have HA := Lib.hid ha
  have HC := Lib.hid hc
  have HR := Lib.hid hr
  have HG := Lib.hid (hg.next hb)
  have HBW := Lib.hid hb
  clear hb hg ha hc hr
  unfold dv
  go_enter Tryd.func19, Tryd.ntmps19
  go_wp2_with (first | (refine wpList_alloc_zero rfl 31 rfl (zb 16) dg_zero ?_))
  rw [size_alloc, size_alloc]
  have hS0 := Lib.hid (show HeldN w a b _ from ⟨HBW.out, HA.out, HC.out⟩)
  generalize ((w.alloc (.cells (dc a).toArray 31)).alloc (.cells (dc b).toArray 31)).alloc (.cells (zb 16).toArray 31) = w3 at HA HC HR HG HBW hS0 ⊢
  refine wp_region_held_drew (S := HeldN w a b) (by kernel_rfl) hS0.out.drew (fun hS => ?_)
  have hD := (Below.refl w3.heap.size w3).drew
  generalize w3.drew = w4 at hS hD ⊢
  refine reg_takeG (i := 0) (some 5) rfl rfl rfl (by kernel_rfl) (by kernel_rfl) (by kernel_rfl) (.slice (some ⟨w.heap.size, 0, none⟩) 16 16) (fun _ _ _ h => h) (fun W hW => exec_slice_all 31 (.tmp 2) rfl _ _ rfl (run_slice_all _ 16 dg_under W _)) hS ?_
  go_frame
  refine reg_takeG (i := 1) (some 6) rfl rfl rfl (by kernel_rfl) (by kernel_rfl) (by kernel_rfl) (.string (sbD a.1)) (fun _ _ _ h => h) (fun W hW => exec_convert 75 9 (.tmp 5) rfl _ _ rfl (run_str16 hW.2.1)) hS ?_
  go_frame
  refine reg_takeG (i := 2) (some 7) rfl rfl rfl (by kernel_rfl) (by kernel_rfl) (by kernel_rfl) (.slice (some ⟨w.heap.size + 1, 0, none⟩) 16 16) (fun _ _ _ h => h) (fun W hW => exec_slice_all 31 (.tmp 3) rfl _ _ rfl (run_slice_all _ 16 dg_under W _)) hS ?_
  go_frame
  refine reg_takeG (i := 3) (some 8) rfl rfl rfl (by kernel_rfl) (by kernel_rfl) (by kernel_rfl) (.string (sbD b.1)) (fun _ _ _ h => h) (fun W hW => exec_convert 75 9 (.tmp 7) rfl _ _ rfl (run_str16 hW.2.2)) hS ?_
  go_frame
  have hb5 := (Below.refl w4.heap.size w4).alloc (Nat.le_refl _) (.cells #[.string (sbD a.1), .string (sbD b.1)] 9)
  have hr5 := rd_fr w4 #[.string (sbD a.1), .string (sbD b.1)] ([sbD a.1, sbD b.1].map Value.string) 9 (0, 0) rfl
  have hS5 := hS.next hb5
  have hD5 := hD.trans (hb5.mono hD.size)
  refine reg_makeG (i := 4) (some 9) rfl rfl rfl (by kernel_rfl) (.slice (some ⟨w4.heap.size, 0, none⟩) 2 2) (w4.alloc (.cells #[.string (sbD a.1), .string (sbD b.1)] 9)) (exec_strs2 (.tmp 6) (.tmp 8) rfl _ _ rfl rfl) hS5 ?_
  go_frame
  generalize w4.alloc (.cells #[.string (sbD a.1), .string (sbD b.1)] 9) = w5 at hb5 hr5 hS5 hD5 ⊢
  refine reg_callG (i := 5) (some 10) rfl rfl rfl (by kernel_rfl) rfl Tryd.func37 (by kernel_rfl) (by kernel_rfl) #[.int .i64 31, .slice (some ⟨w4.heap.size, 0, none⟩) 2 2] rfl (ofD_any 31 (some ⟨w4.heap.size, 0, none⟩) 2 [sbD a.1, sbD b.1] w5 (HG.out.next hD5) hr5 (two_small a b (by omega)) (by simp)) ?_
  rintro e w6 ⟨rfl, hb6⟩
  rw [← nodeD_eq]
  have hS6 := hS5.next hb6
  have hD6 := hD5.trans (hb6.mono hD5.size)
  refine ⟨_, rfl, hS6, ?_⟩
  go_frame
  refine reg_store_all (i := 6) rfl rfl rfl (by kernel_rfl) 31 (.tmp 4) (.tmp 10) rfl (w.heap.size + 1 + 1) _ (zb 16) (dc (nodeD a b)) rfl rfl (HR.out.next hD6) (dd_len _) (dd_size _) (dc_one _) ?_
  intro w7 HB7 ho7
  have hS7 := hS6.only ho7 (by omega)
  have B7 := Lib.hid hS7.1
  refine ⟨hS7, wpAnyH_done (by kernel_rfl) ?_ _⟩
  go_frame
  go_wp2
  exact bodyPost_ret (results_blk rfl _ _ (w.heap.size + 1 + 1) _ (dc (nodeD a b)) _ rfl HB7 dg_under rfl (dd_size _)) rfl ⟨rfl, B7.out⟩
end Go.Proofs.YtfbemmeonkceiaaDoor
