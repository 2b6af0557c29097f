/- guessSteps. -/
import Derived.Test.YtkjnfobaoaaopaaGreatDoorN23
import Derived.Deep.LoopGhost
namespace Go.Proofs.YtkjnfobaoaaopaaGreatDoor
open Go.RowKit Hm Wm Wn

def stL (n dx dy rx ry : Nat) : List Value := [.int .i64 n, .int .u64 dx, .int .u64 dy, .int .u64 rx, .int .u64 ry]
def stV (n dx dy rx ry : Nat) : Value := .agg (stL n dx dy rx ry).toArray
def GsB (dx dy rx ry a b : Nat) : Prop := dx < B ∧ dy < B ∧ rx < B ∧ ry < B ∧ a < B ∧ b < B
def GuR (w : World) (X Y : Nat) (xv yv : Value) (wr : World) : Prop :=
  ∃ n dx dy rx ry a b : Nat, xv = .int .u64 a ∧ yv = .int .u64 b ∧ Hid (GsI X Y n dx dy rx ry a b) ∧ Hid (GsB dx dy rx ry a b) ∧ Hid (Blk wr (w.heap.size + 1) 68 (stL n dx dy rx ry)) ∧ Hid (Blk wr w.heap.size 68 (stL 0 0 0 0 0)) ∧ Hid (Below w.heap.size w wr)
theorem stL_one (n dx dy rx ry : Nat) : ∀ v ∈ stL n dx dy rx ry, v.oneCell' = true := by
  intro v hv
  simp only [stL, List.mem_cons, List.not_mem_nil, or_false] at hv
  rcases hv with rfl | rfl | rfl | rfl | rfl <;> rfl
theorem df_one (x y : Nat) : ∀ v ∈ [Value.int .u64 (x : Int), .int .u64 (y : Int)], v.oneCell' = true := by
  intro v hv
  simp only [List.mem_cons, List.not_mem_nil, or_false] at hv
  rcases hv with rfl | rfl <;> rfl
theorem run_incB (i : Nat) (h : i ≤ 4294967296) (w : World) : (binOp .add 3 (.int .i64 i) (.int .i64 1)).run Tryz.prog w = .ok (.int .i64 ((i + 1 : Nat) : Int)) w := by
  simp [binOp, go_sem]
  simp [IntKind.wrap, IntKind.bits, IntKind.signed]; omega
theorem st_size : (Tryz.prog.info? 68).map (·.size) = some 5 := by kernel_rfl
theorem df_size : (Tryz.prog.info? 66).map (·.size) = some 2 := by kernel_rfl
theorem run_st0 (W : World) (g : Nat) : (Instr.fieldAt 68 (.pointer (some ⟨g, 0, none⟩)) 0).run Tryz.prog W = .ok (.pointer (some ⟨g, 0, none⟩)) W := by kernel_rfl
theorem run_st1 (W : World) (g : Nat) : (Instr.fieldAt 68 (.pointer (some ⟨g, 0, none⟩)) 1).run Tryz.prog W = .ok (.pointer (some ⟨g, 1, none⟩)) W := by kernel_rfl
theorem run_st2 (W : World) (g : Nat) : (Instr.fieldAt 68 (.pointer (some ⟨g, 0, none⟩)) 2).run Tryz.prog W = .ok (.pointer (some ⟨g, 3, none⟩)) W := by kernel_rfl
theorem load_st1 {W : World} {g n dx dy rx ry : Nat} (h : Blk W g 68 (stL n dx dy rx ry)) : (Instr.loadAt 66 (.pointer (some ⟨g, 1, none⟩))).run Tryz.prog W = .ok (dfV dx dy) W :=
  run_load_part W _ g 1 2 _ _ _ h (by simp [stL]) Tryz.underlying66 rfl df_size
theorem load_st2 {W : World} {g n dx dy rx ry : Nat} (h : Blk W g 68 (stL n dx dy rx ry)) : (Instr.loadAt 66 (.pointer (some ⟨g, 3, none⟩))).run Tryz.prog W = .ok (dfV rx ry) W :=
  run_load_part W _ g 3 2 _ _ _ h (by simp [stL]) Tryz.underlying66 rfl df_size
theorem df_zero : (Tryz.prog.info? 66).map (·.zero) = some (some (.agg #[.int .u64 0, .int .u64 0])) := by kernel_rfl
set_option maxRecDepth 100000 in
set_option maxHeartbeats 400000 in
theorem guess_steps (X Y : Nat) (w : World) (hX : X < B) (hY : Y < B) :
    Calls Tryz.prog 43 #[.int .u64 X, .int .u64 Y] w fun e w' => ∃ n dx dy rx ry a b, e = .returned (stV n dx dy rx ry) ∧ GsI X Y n dx dy rx ry a b ∧ GsB dx dy rx ry a b ∧ Below w.heap.size w w' := by
  have HX := Lib.hid hX
  have HY := Lib.hid hY
  clear hX hY
  go_enter Tryz.func43, Tryz.ntmps43
  go_wp2
  go_loopw [0, 1] (GuR w X Y) (fun _ b _ => (intOf b).toNat)
  case atStart => exact ⟨0, 1, 0, 0, 1, X, Y, rfl, rfl, Lib.hid (GsI.start X Y), Lib.hid ⟨by decide, by decide, by decide, by decide, HX.out, HY.out⟩, Lib.hid (blk_new_at _ _ _ (by simp)), Lib.hid ((Blk.new w 68 _).alloc _), Lib.hid (((Below.refl _ _).alloc (Nat.le_refl _) _).alloc (by simp) _)⟩
  case round =>
    obtain ⟨n, dx, dy, rx, ry, a, b, rfl, rfl, HG, HB, HK, HZ, HW⟩ := hrel
    by_cases hc : 0 < b ∧ b < a
    · obtain ⟨hb, hba⟩ := hc
      have d0 : decide ((0 : Int) < (b : Int)) = true := decide_eq_true (by omega)
      have d0' : decide (0 < b) = true := decide_eq_true (by omega)
      have d1 : decide ((b : Int) < (a : Int)) = true := decide_eq_true (by omega)
      have d1' : decide (b < a) = true := decide_eq_true (by omega)
      obtain ⟨q, hq⟩ : ∃ q, a / b = q := ⟨_, rfl⟩
      obtain ⟨r, hr⟩ : ∃ r, a % b = r := ⟨_, rfl⟩
      have HRM := Lib.hid (fun W => run_remW a b (by omega) W)
      rw [hr] at HRM
      have HQU := Lib.hid (fun W => run_quoW a b q W (by omega) HB.out.2.2.2.2.1 hq)
      obtain ⟨hny, hnx⟩ := HG.out.room hb
      have hfew := HG.out.few hb hba HX.out
      have hnext := HG.out.next hb hba
      rw [hq] at hny hnx
      rw [hq, hr] at hnext
      have hrb : r < b := by rw [← hr]; exact Nat.mod_lt a hb
      obtain ⟨nx, hnxe⟩ : ∃ z, dx + q * rx = z := ⟨_, rfl⟩
      obtain ⟨ny, hnye⟩ : ∃ z, dy + q * ry = z := ⟨_, rfl⟩
      rw [hnxe] at hnx hnext
      rw [hnye] at hny hnext
      have HCN := Lib.hid (fun W => next_any dx dy rx ry q nx ny W hnxe hnye (Nat.lt_of_le_of_lt hnx HY.out) (Nat.lt_of_le_of_lt hny HX.out))
      have HNX := Lib.hid hnext
      have HNB := Lib.hid (And.intro (Nat.lt_of_le_of_lt hnx HY.out) (Nat.lt_of_le_of_lt hny HX.out))
      have HFW := Lib.hid hfew
      have HRB := Lib.hid hrb
      clear hq hr hny hnx hfew hnext hrb hnxe hnye
      obtain ⟨gs, hgs⟩ : ∃ gs, w.heap.size + 1 = gs := ⟨_, rfl⟩
      have HGS := Lib.hid hgs
      rw [hgs] at HK
      go_wp2_with (first
        | (refine wpList_dst 20 rfl ?_; refine wpList_run 20 rfl rfl _ (exec_bin .rem 53 _ (.tmp 18) (.tmp 19) rfl _ _ _ rfl rfl rfl (HRM.out _)) ?_))
      refine late_begin (S := TillQ 9 (fun W => Blk W gs 68 (stL n dx dy rx ry))) (by kernel_rfl) ?_
      have hS1 : Blk wr.drew gs 68 (stL n dx dy rx ry) := HK.out
      have hZ0 : Blk wr.drew w.heap.size 68 (stL 0 0 0 0 0) := HZ.out
      have hW0 : Below w.heap.size w wr.drew := HW.out.drew
      generalize wr.drew = u0 at hS1 hZ0 hW0 ⊢
      have hS0 : ∀ {L}, TillQ 9 (fun W => Blk W gs 68 (stL n dx dy rx ry)) L u0 := fun _ => hS1
      refine late_take [9] (i := 0) (some 21) rfl rfl rfl (by kernel_rfl) (by kernel_rfl) (by kernel_rfl) (by kernel_rfl) (by kernel_rfl) (fun Ls W h => h.off (by decide)) (.pointer (some ⟨gs, 1, none⟩)) (fun _ _ _ h => h) (fun Ls W hl0 hW => exec_fieldAddr 68 (.tmp 5) 1 rfl _ _ rfl (run_st1 W gs)) hS0 hS0 ?_
      go_frame
      refine late_take [9] (i := 1) (some 22) rfl rfl rfl (by kernel_rfl) (by kernel_rfl) (by kernel_rfl) (by kernel_rfl) (by kernel_rfl) (fun Ls W h => h.off (by decide)) (dfV dx dy) (fun _ _ _ h => h) (fun Ls W hl0 hW => exec_load 66 (.tmp 21) rfl _ _ rfl (load_st1 (hW (hl0 9 (by simp))))) hS0 hS0 ?_
      go_frame
      refine late_take [9] (i := 2) (some 23) rfl rfl rfl (by kernel_rfl) (by kernel_rfl) (by kernel_rfl) (by kernel_rfl) (by kernel_rfl) (fun Ls W h => h.off (by decide)) (.pointer (some ⟨gs, 3, none⟩)) (fun _ _ _ h => h) (fun Ls W hl0 hW => exec_fieldAddr 68 (.tmp 5) 2 rfl _ _ rfl (run_st2 W gs)) hS0 hS0 ?_
      go_frame
      refine late_take [9] (i := 3) (some 24) rfl rfl rfl (by kernel_rfl) (by kernel_rfl) (by kernel_rfl) (by kernel_rfl) (by kernel_rfl) (fun Ls W h => h.off (by decide)) (dfV rx ry) (fun _ _ _ h => h) (fun Ls W hl0 hW => exec_load 66 (.tmp 23) rfl _ _ rfl (load_st2 (hW (hl0 9 (by simp))))) hS0 hS0 ?_
      go_frame
      refine late_take [9] (i := 4) (some 25) rfl rfl rfl (by kernel_rfl) (by kernel_rfl) (by kernel_rfl) (by kernel_rfl) (by kernel_rfl) (fun Ls W h => h.off (by decide)) (.int .u64 a) (fun _ _ _ h => h) (fun Ls W hl0 hW => exec_move (.tmp 0) rfl _ rfl) hS0 hS0 ?_
      go_frame
      refine late_take [9] (i := 5) (some 26) rfl rfl rfl (by kernel_rfl) (by kernel_rfl) (by kernel_rfl) (by kernel_rfl) (by kernel_rfl) (fun Ls W h => h.off (by decide)) (.int .u64 b) (fun _ _ _ h => h) (fun Ls W hl0 hW => exec_move (.tmp 1) rfl _ rfl) hS0 hS0 ?_
      go_frame
      refine late_take [9] (i := 6) (some 27) rfl rfl rfl (by kernel_rfl) (by kernel_rfl) (by kernel_rfl) (by kernel_rfl) (by kernel_rfl) (fun Ls W h => h.off (by decide)) (.int .u64 (q : Int)) (fun _ _ _ h => h) (fun Ls W hl0 hW => exec_bin .quo 53 _ (.tmp 25) (.tmp 26) rfl _ _ _ rfl rfl rfl (HQU.out W)) hS0 hS0 ?_
      go_frame
      refine late_two (i := 7) (j := 8) (by kernel_rfl) ?_ ?_
      · refine op_call (some 28) rfl rfl rfl rfl Tryz.func67 (by kernel_rfl) (by kernel_rfl) #[dfV dx dy, dfV rx ry, .int .u64 q] rfl (HCN.out u0) ?_
        rintro e u1 ⟨rfl, hb1⟩
        have hS2 := hS1.next hb1
        have hZ2 := hZ0.next hb1
        have hW2 := hW0.trans (hb1.mono hW0.size)
        refine ⟨_, rfl, fun _ => hS2, ?_⟩
        go_frame
        refine late_one (i := 8) (by kernel_rfl) (op_wp rfl rfl (opG_alloc (some 7) rfl 66 rfl [.int .u64 0, .int .u64 0] df_zero ⟨fun _ => hS2.alloc _, ?_⟩))
        go_frame
        have hN3 := Blk.new u1 66 [.int .u64 0, .int .u64 0]
        have hS3 := hS2.alloc (.cells #[.int .u64 0, .int .u64 0] 66)
        have hZ3 := hZ2.alloc (.cells #[.int .u64 0, .int .u64 0] 66)
        have hW3 := hW2.alloc hW2.size (.cells #[.int .u64 0, .int .u64 0] 66)
        have hl1 := hS2.lt
        have hl2 := hZ2.lt
        obtain ⟨g7, hg7⟩ : ∃ g7, u1.heap.size = g7 := ⟨_, rfl⟩
        rw [hg7] at hN3 hl1 hl2 ⊢
        generalize u1.alloc (.cells [Value.int .u64 0, .int .u64 0].toArray 66) = u3 at hN3 hS3 hZ3 hW3 ⊢
        clear hS2 hZ2 hW2 hg7
        refine late_one (i := 9) (by kernel_rfl) (op_wp rfl rfl (wp_store_part 66 (.tmp 7) (.tmp 28) rfl g7 0 _ [.int .u64 0, .int .u64 0] [.int .u64 nx, .int .u64 ny] rfl rfl hN3 (by simp) df_size (df_one _ _) (fun w6 hk6 ho6 => ⟨fun h => absurd h (by decide), late_done (by kernel_rfl) ?_ _⟩)))
        go_frame
        rw [splice_all [Value.int .u64 0, .int .u64 0] [Value.int .u64 (nx : Int), .int .u64 (ny : Int)] rfl] at hk6
        have hS6 := ho6.blk hS3 (by omega)
        have hZ6 := ho6.blk hZ3 (by omega)
        have hW6 := hW3.trans (ho6.below (by omega))
        clear hN3 hS3 hZ3 hW3 hl1 hl2
        have HK6 := Lib.hid (show Blk w6 gs 68 (stL n dx dy rx ry) from hS6)
        have HZ6 := Lib.hid (show Blk w6 w.heap.size 68 (stL 0 0 0 0 0) from hZ6)
        have HW6 := Lib.hid (show Below w.heap.size w w6 from hW6)
        have HN6 := Lib.hid hk6
        have hcl : w6.cell? ⟨g7, 1, none⟩ = some (.int .u64 (ny : Int)) := by rw [hk6.cell 1]; rfl
        have hcn : w6.cell? ⟨gs, 0, none⟩ = some (.int .i64 (n : Int)) := by rw [hS6.cell 0]; rfl
        clear hk6 ho6 hS6 hZ6 hW6
        clear hS0 hS1
        by_cases hrn : r < ny
        · have d2 : decide ((r : Int) < (ny : Int)) = true := decide_eq_true (by omega)
          have d2' : decide (r < ny) = true := decide_eq_true hrn
          clear hrn hcn
          go_wp2_with (first
            | (refine wpList_dst 42 rfl ?_; refine wpList_load_all rfl 68 (.tmp 5) rfl gs _ (stL n dx dy rx ry) _ rfl HK6.out Tryz.underlying68 rfl st_size ?_)
            | (refine wpList_store_all rfl 68 (.tmp 4) (.tmp 42) rfl w.heap.size _ (stL 0 0 0 0 0) (stL n dx dy rx ry) rfl rfl HZ6.out rfl st_size (stL_one _ _ _ _ _) ?_; intro w9 HK9 ho9; have HO9 := Lib.hid ho9; clear ho9))
          exact bodyPost_ret (results_blk rfl _ _ w.heap.size _ (stL n dx dy rx ry) _ rfl HK9.out Tryz.underlying68 rfl st_size) rfl ⟨n, dx, dy, rx, ry, a, b, rfl, HG.out, HB.out, HW6.out.trans (HO9.out.below (Nat.le_refl _))⟩
        · have d2 : decide ((r : Int) < (ny : Int)) = false := decide_eq_false (by omega)
          have d2' : decide (r < ny) = false := decide_eq_false hrn
          have HNG := Lib.hid (HNX.out (Nat.le_of_not_lt hrn))
          clear hrn
          go_wp2_with (first
            | (refine wpList_dst 37 rfl ?_; refine wpList_run 37 rfl rfl _ (exec_bin .add 3 _ (.tmp 36) (.const (.int .i64 1)) rfl _ _ _ rfl rfl rfl (run_incB n HFW.out _)) ?_)
            | (refine wpList_dst 39 rfl ?_; refine wpList_load_part rfl 66 (.tmp 38) rfl gs 3 _ (stL n dx dy rx ry) [.int .u64 rx, .int .u64 ry] _ rfl HK6.out rfl Tryz.underlying66 rfl df_size ?_)
            | (refine wpList_dst 40 rfl ?_; refine wpList_load_all rfl 66 (.tmp 7) rfl g7 _ [.int .u64 nx, .int .u64 ny] _ rfl HN6.out Tryz.underlying66 rfl df_size ?_)
            | (refine wpList_store_all rfl 68 (.tmp 5) (.tmp 41) rfl gs _ (stL n dx dy rx ry) (stL (n + 1) rx ry nx ny) rfl rfl HK6.out rfl st_size (stL_one _ _ _ _ _) ?_; intro w9 HK9 ho9; have HO9 := Lib.hid ho9; clear ho9))
          have HZ9 := Lib.hid (HO9.out.blk HZ6.out (by have := HGS.out; omega))
          have HW9 := Lib.hid (HW6.out.trans (HO9.out.below (by have := HGS.out; omega)))
          have hge := HGS.out
          subst hge
          go_frame
          go_roundw
          case rel =>
            exact ⟨n + 1, rx, ry, nx, ny, b, r, rfl, rfl, HNG, Lib.hid ⟨HB.out.2.2.1, HB.out.2.2.2.1, HNB.out.1, HNB.out.2, HB.out.2.2.2.2.2, Nat.lt_trans HRB.out HB.out.2.2.2.2.2⟩, HK9, HZ9, HW9⟩
          case measure => simp [intOf]; exact HRB.out
      · refine op_wp rfl rfl (opG_alloc (some 7) rfl 66 rfl [.int .u64 0, .int .u64 0] df_zero ⟨fun _ => hS1.alloc _, ?_⟩)
        go_frame
        have hN2 := Blk.new u0 66 [.int .u64 0, .int .u64 0]
        have hS2 := hS1.alloc (.cells #[.int .u64 0, .int .u64 0] 66)
        have hZ2 := hZ0.alloc (.cells #[.int .u64 0, .int .u64 0] 66)
        have hW2 := hW0.alloc hW0.size (.cells #[.int .u64 0, .int .u64 0] 66)
        have hl1 := hS1.lt
        have hl2 := hZ0.lt
        obtain ⟨g7, hg7⟩ : ∃ g7, u0.heap.size = g7 := ⟨_, rfl⟩
        rw [hg7] at hN2 hl1 hl2 ⊢
        generalize u0.alloc (.cells [Value.int .u64 0, .int .u64 0].toArray 66) = u1 at hN2 hS2 hZ2 hW2 ⊢
        refine late_one (i := 7) (by kernel_rfl) (op_call (some 28) rfl rfl rfl rfl Tryz.func67 (by kernel_rfl) (by kernel_rfl) #[dfV dx dy, dfV rx ry, .int .u64 q] rfl (HCN.out u1) ?_)
        rintro e u3 ⟨rfl, hb1⟩
        have hN3 := hN2.next hb1
        have hS3 := hS2.next hb1
        have hZ3 := hZ2.next hb1
        have hW3 := hW2.trans (hb1.mono hW2.size)
        refine ⟨_, rfl, fun _ => hS3, ?_⟩
        go_frame
        clear hS2 hZ2 hW2 hN2 hg7
        refine late_one (i := 9) (by kernel_rfl) (op_wp rfl rfl (wp_store_part 66 (.tmp 7) (.tmp 28) rfl g7 0 _ [.int .u64 0, .int .u64 0] [.int .u64 nx, .int .u64 ny] rfl rfl hN3 (by simp) df_size (df_one _ _) (fun w6 hk6 ho6 => ⟨fun h => absurd h (by decide), late_done (by kernel_rfl) ?_ _⟩)))
        go_frame
        rw [splice_all [Value.int .u64 0, .int .u64 0] [Value.int .u64 (nx : Int), .int .u64 (ny : Int)] rfl] at hk6
        have hS6 := ho6.blk hS3 (by omega)
        have hZ6 := ho6.blk hZ3 (by omega)
        have hW6 := hW3.trans (ho6.below (by omega))
        clear hN3 hS3 hZ3 hW3 hl1 hl2
        have HK6 := Lib.hid (show Blk w6 gs 68 (stL n dx dy rx ry) from hS6)
        have HZ6 := Lib.hid (show Blk w6 w.heap.size 68 (stL 0 0 0 0 0) from hZ6)
        have HW6 := Lib.hid (show Below w.heap.size w w6 from hW6)
        have HN6 := Lib.hid hk6
        have hcl : w6.cell? ⟨g7, 1, none⟩ = some (.int .u64 (ny : Int)) := by rw [hk6.cell 1]; rfl
        have hcn : w6.cell? ⟨gs, 0, none⟩ = some (.int .i64 (n : Int)) := by rw [hS6.cell 0]; rfl
        clear hk6 ho6 hS6 hZ6 hW6
        clear hS0 hS1
        by_cases hrn : r < ny
        · have d2 : decide ((r : Int) < (ny : Int)) = true := decide_eq_true (by omega)
          have d2' : decide (r < ny) = true := decide_eq_true hrn
          clear hrn hcn
          go_wp2_with (first
            | (refine wpList_dst 42 rfl ?_; refine wpList_load_all rfl 68 (.tmp 5) rfl gs _ (stL n dx dy rx ry) _ rfl HK6.out Tryz.underlying68 rfl st_size ?_)
            | (refine wpList_store_all rfl 68 (.tmp 4) (.tmp 42) rfl w.heap.size _ (stL 0 0 0 0 0) (stL n dx dy rx ry) rfl rfl HZ6.out rfl st_size (stL_one _ _ _ _ _) ?_; intro w9 HK9 ho9; have HO9 := Lib.hid ho9; clear ho9))
          exact bodyPost_ret (results_blk rfl _ _ w.heap.size _ (stL n dx dy rx ry) _ rfl HK9.out Tryz.underlying68 rfl st_size) rfl ⟨n, dx, dy, rx, ry, a, b, rfl, HG.out, HB.out, HW6.out.trans (HO9.out.below (Nat.le_refl _))⟩
        · have d2 : decide ((r : Int) < (ny : Int)) = false := decide_eq_false (by omega)
          have d2' : decide (r < ny) = false := decide_eq_false hrn
          have HNG := Lib.hid (HNX.out (Nat.le_of_not_lt hrn))
          clear hrn
          go_wp2_with (first
            | (refine wpList_dst 37 rfl ?_; refine wpList_run 37 rfl rfl _ (exec_bin .add 3 _ (.tmp 36) (.const (.int .i64 1)) rfl _ _ _ rfl rfl rfl (run_incB n HFW.out _)) ?_)
            | (refine wpList_dst 39 rfl ?_; refine wpList_load_part rfl 66 (.tmp 38) rfl gs 3 _ (stL n dx dy rx ry) [.int .u64 rx, .int .u64 ry] _ rfl HK6.out rfl Tryz.underlying66 rfl df_size ?_)
            | (refine wpList_dst 40 rfl ?_; refine wpList_load_all rfl 66 (.tmp 7) rfl g7 _ [.int .u64 nx, .int .u64 ny] _ rfl HN6.out Tryz.underlying66 rfl df_size ?_)
            | (refine wpList_store_all rfl 68 (.tmp 5) (.tmp 41) rfl gs _ (stL n dx dy rx ry) (stL (n + 1) rx ry nx ny) rfl rfl HK6.out rfl st_size (stL_one _ _ _ _ _) ?_; intro w9 HK9 ho9; have HO9 := Lib.hid ho9; clear ho9))
          have HZ9 := Lib.hid (HO9.out.blk HZ6.out (by have := HGS.out; omega))
          have HW9 := Lib.hid (HW6.out.trans (HO9.out.below (by have := HGS.out; omega)))
          have hge := HGS.out
          subst hge
          go_frame
          go_roundw
          case rel =>
            exact ⟨n + 1, rx, ry, nx, ny, b, r, rfl, rfl, HNG, Lib.hid ⟨HB.out.2.2.1, HB.out.2.2.2.1, HNB.out.1, HNB.out.2, HB.out.2.2.2.2.2, Nat.lt_trans HRB.out HB.out.2.2.2.2.2⟩, HK9, HZ9, HW9⟩
          case measure => simp [intOf]; exact HRB.out
    · have hbool : (decide ((0 : Int) < (b : Int)) && decide ((b : Int) < (a : Int))) = false := by
        rw [Bool.and_eq_false_iff, decide_eq_false_iff_not, decide_eq_false_iff_not]; omega
      by_cases hb : 0 < b
      · have d0 : decide ((0 : Int) < (b : Int)) = true := decide_eq_true (by omega)
        have d0' : decide (0 < b) = true := decide_eq_true (by omega)
        have d1 : decide ((b : Int) < (a : Int)) = false := decide_eq_false (by omega)
        have d1' : decide (b < a) = false := decide_eq_false (by omega)
        go_wp2_with (first
          | (refine wpList_dst 42 rfl ?_; refine wpList_load_all rfl 68 (.tmp 5) rfl (w.heap.size + 1) _ (stL n dx dy rx ry) _ rfl HK.out Tryz.underlying68 rfl st_size ?_)
          | (refine wpList_store_all rfl 68 (.tmp 4) (.tmp 42) rfl w.heap.size _ (stL 0 0 0 0 0) (stL n dx dy rx ry) rfl rfl HZ.out rfl st_size (stL_one _ _ _ _ _) ?_; intro w9 HK9 ho9; have HO9 := Lib.hid ho9; clear ho9))
        exact bodyPost_ret (results_blk rfl _ _ w.heap.size _ (stL n dx dy rx ry) _ rfl HK9.out Tryz.underlying68 rfl st_size) rfl ⟨n, dx, dy, rx, ry, a, b, rfl, HG.out, HB.out, HW.out.trans (HO9.out.below (Nat.le_refl _))⟩
      · have d0 : decide ((0 : Int) < (b : Int)) = false := decide_eq_false (by omega)
        have d0' : decide (0 < b) = false := decide_eq_false (by omega)
        go_wp2_with (first
          | (refine wpList_dst 42 rfl ?_; refine wpList_load_all rfl 68 (.tmp 5) rfl (w.heap.size + 1) _ (stL n dx dy rx ry) _ rfl HK.out Tryz.underlying68 rfl st_size ?_)
          | (refine wpList_store_all rfl 68 (.tmp 4) (.tmp 42) rfl w.heap.size _ (stL 0 0 0 0 0) (stL n dx dy rx ry) rfl rfl HZ.out rfl st_size (stL_one _ _ _ _ _) ?_; intro w9 HK9 ho9; have HO9 := Lib.hid ho9; clear ho9))
        exact bodyPost_ret (results_blk rfl _ _ w.heap.size _ (stL n dx dy rx ry) _ rfl HK9.out Tryz.underlying68 rfl st_size) rfl ⟨n, dx, dy, rx, ry, a, b, rfl, HG.out, HB.out, HW.out.trans (HO9.out.below (Nat.le_refl _))⟩
end Go.Proofs.YtkjnfobaoaaopaaGreatDoor
