/- difference.next. -/
import Derived.Test.YtkjnfobaoaaopaaGreatDoorN22
namespace Go.Proofs.YtkjnfobaoaaopaaGreatDoor
open Go.RowKit Hm Wm Wn

/-- The value of a difference. -/
def dfV (x y : Nat) : Value := .agg #[.int .u64 x, .int .u64 y]
theorem blk_new_at (W : World) (t : TypeId) (cs : List Value) {n : Nat} (h : n = W.heap.size) : Blk (W.alloc (.cells cs.toArray t)) n t cs := by subst h; exact Blk.new W t cs
set_option maxRecDepth 100000 in
set_option maxHeartbeats 400000 in
theorem next_any (dx dy rx ry q nx ny : Nat) (w : World) (hx : dx + q * rx = nx) (hy : dy + q * ry = ny) (hnx : nx < B) (hny : ny < B) :
    Calls Tryz.prog 67 #[dfV dx dy, dfV rx ry, .int .u64 q] w fun e w' => e = .returned (dfV nx ny) ∧ Below w.heap.size w w' := by
  obtain ⟨m1, h1⟩ : ∃ m, q * rx = m := ⟨_, rfl⟩
  obtain ⟨m2, h2⟩ : ∃ m, q * ry = m := ⟨_, rfl⟩
  rw [h1] at hx
  rw [h2] at hy
  have H1 := Lib.hid (fun w => run_mulW q rx m1 w (by rw [h1]; exact Nat.mod_eq_of_lt (by omega)))
  have H2 := Lib.hid (fun w => run_mulW q ry m2 w (by rw [h2]; exact Nat.mod_eq_of_lt (by omega)))
  have H3 := Lib.hid (fun w => run_addW dx m1 nx w (by rw [hx]; exact Nat.mod_eq_of_lt hnx))
  have H4 := Lib.hid (fun w => run_addW dy m2 ny w (by rw [hy]; exact Nat.mod_eq_of_lt hny))
  clear h1 h2 hx hy hnx hny
  unfold dfV
  go_enter Tryz.func67, Tryz.ntmps67
  go_wp2_with (first
    | (refine wpList_dst 12 rfl ?_; refine wpList_run 12 rfl rfl _ (exec_bin .mul 53 _ (.tmp 9) (.tmp 11) rfl _ _ _ rfl rfl rfl (H1.out _)) ?_)
    | (refine wpList_dst 13 rfl ?_; refine wpList_run 13 rfl rfl _ (exec_bin .add 53 _ (.tmp 8) (.tmp 12) rfl _ _ _ rfl rfl rfl (H3.out _)) ?_)
    | (refine wpList_dst 19 rfl ?_; refine wpList_run 19 rfl rfl _ (exec_bin .mul 53 _ (.tmp 16) (.tmp 18) rfl _ _ _ rfl rfl rfl (H2.out _)) ?_)
    | (refine wpList_dst 20 rfl ?_; refine wpList_run 20 rfl rfl _ (exec_bin .add 53 _ (.tmp 15) (.tmp 19) rfl _ _ _ rfl rfl rfl (H4.out _)) ?_))
  refine bodyPost_ret (results_blk rfl _ _ (w.heap.size + 1 + 1) _ [.int .u64 nx, .int .u64 ny] _ rfl (blk_new_at _ _ _ (by simp)) Tryz.underlying66 rfl rfl) rfl ?_
  exact ⟨rfl, (((Below.refl _ _).alloc (Nat.le_refl _) _).alloc (by simp) _).alloc (by simp; omega) _⟩
end Go.Proofs.YtkjnfobaoaaopaaGreatDoor
