/- apply. -/
import Derived.Test.YtkjnfobaoaaopaaGreatDoorN26
import Derived.BigRegion
namespace Go.Proofs.YtkjnfobaoaaopaaGreatDoor
open Go.RowKit Hm Wm Wn

theorem run_evenI (n : Nat) (h : n % 2 = 0) (w : World) : (binOp .rem 3 (.int .i64 n) (.int .i64 2)).run Tryz.prog w = .ok (.int .i64 0) w := by
  simp [binOp, go_sem]
  rw [Int.tmod_eq_emod_of_nonneg (by omega)]
  omega
theorem run_oddI (n : Nat) (h : n % 2 = 1) (w : World) : (binOp .rem 3 (.int .i64 n) (.int .i64 2)).run Tryz.prog w = .ok (.int .i64 1) w := by
  simp [binOp, go_sem]
  rw [Int.tmod_eq_emod_of_nonneg (by omega)]
  omega
theorem newW_next {w w' : World} {n : Nat} {v : Value} (h : NewW w n v) (hb : Below w.heap.size w w') : NewW w' n v := by
  obtain ⟨A, c, e, h1, h2⟩ := h
  exact ⟨A, c, e, h1.next hb, h2⟩
theorem run_df0 (W : World) (g : Nat) : (Instr.fieldAt 66 (.pointer (some ⟨g, 0, none⟩)) 0).run Tryz.prog W = .ok (.pointer (some ⟨g, 0, none⟩)) W := by kernel_rfl
theorem run_df1 (W : World) (g : Nat) : (Instr.fieldAt 66 (.pointer (some ⟨g, 0, none⟩)) 1).run Tryz.prog W = .ok (.pointer (some ⟨g, 1, none⟩)) W := by kernel_rfl
set_option maxRecDepth 100000 in
set_option maxHeartbeats 400000 in
theorem apply_any (n dx dy rx ry N M P C : Nat) (A : Option Addr) (c : Nat) (A2 : Option Addr) (c2 : Nat) (w : World) (hp : GsP n dx dy rx ry N M P C) (h1 : dx < B) (h2 : dy < B) (h3 : rx < B) (h4 : ry < B)
    (hr : RdW w A (digW N)) (hr2 : RdW w A2 (digW M)) (hl : (digW N).length ≤ 100000) (hl2 : (digW M).length ≤ 100000) :
    Calls Tryz.prog 45 #[stV n dx dy rx ry, .slice A (digW N).length c, .slice A2 (digW M).length c2] w fun e w' => ∃ v1 v2, e = .returned (.tuple #[v1, v2]) ∧ NewW w' P v1 ∧ NewW w' C v2 ∧ Below w.heap.size w w' := by
  rcases Nat.mod_two_eq_zero_or_one n with hn | hn
  · obtain ⟨e1, e2⟩ := hp.ev hn
    have HL1 := Lib.hid (fun W h h' => lessN N dx M dy A c A2 c2 W h h' h1 h2 hl hl2 (by omega))
    have HL2 := Lib.hid (fun W h h' => lessN M ry N rx A2 c2 A c W h h' h4 h3 hl2 hl (by omega))
    rw [show dx * N - dy * M = P by omega] at HL1
    rw [show ry * M - rx * N = C by omega] at HL2
    have HE := Lib.hid (fun W => run_evenI n hn W)
    have HR := Lib.hid (And.intro hr hr2)
    clear hp h1 h2 h3 h4 hr hr2 hl hl2 e1 e2 hn
    obtain ⟨a1, ha1⟩ : ∃ a, (digW N).length = a := ⟨_, rfl⟩
    obtain ⟨a2, ha2⟩ : ∃ a, (digW M).length = a := ⟨_, rfl⟩
    rw [ha1, ha2] at HL1 HL2 ⊢
    clear ha1 ha2
    unfold stV stL
    go_enter Tryz.func45, Tryz.ntmps45
    go_wp2
    go_region
    · go_wp2_with (first
        | (refine wpList_dst 16 rfl ?_; refine wpList_run 16 rfl rfl _ (exec_bin .rem 3 _ (.tmp 15) (.const (.int .i64 2)) rfl _ _ _ rfl rfl rfl (HE.out _)) ?_))
      refine wp_region_held_drew (S := fun W => Blk W (w.heap.size + 1) 66 [.int .u64 dx, .int .u64 dy] ∧ Blk W (w.heap.size + 1 + 1) 66 [.int .u64 rx, .int .u64 ry] ∧ RdW W A (digW N) ∧ RdW W A2 (digW M) ∧ Below w.heap.size w W) (by kernel_rfl) ⟨Blk.drew (Blk.drew ((blk_new_at _ _ _ (by simp)).alloc _)), Blk.drew (Blk.drew (blk_new_at _ _ _ (by simp))), HR.out.1.next ?_, HR.out.2.next ?_, ?_⟩ (fun hS => ?_)
      · exact (((((Below.refl _ _).alloc (Nat.le_refl _) _).alloc (by simp) _).alloc (by simp; omega) _).drew).drew
      · exact (((((Below.refl _ _).alloc (Nat.le_refl _) _).alloc (by simp) _).alloc (by simp; omega) _).drew).drew
      · exact (((((Below.refl _ _).alloc (Nat.le_refl _) _).alloc (by simp) _).alloc (by simp; omega) _).drew).drew
      obtain ⟨g9, hg9⟩ : ∃ g, w.heap.size + 1 + 1 = g := ⟨_, rfl⟩
      rw [hg9] at hS
      simp only [hg9]
      obtain ⟨g8, hg8⟩ : ∃ g, w.heap.size + 1 = g := ⟨_, rfl⟩
      rw [hg8] at hS
      simp only [hg8]
      generalize World.drew _ = u0 at hS ⊢
      clear hg8 hg9
      refine reg_takeG (i := 0) (some 18) rfl rfl rfl (by kernel_rfl) (by kernel_rfl) (by kernel_rfl) (.slice A a1 c) (fun _ _ _ h => h) (fun W hW => exec_move (.tmp 1) rfl _ rfl) hS ?_
      go_frame
      refine reg_takeG (i := 1) (some 19) rfl rfl rfl (by kernel_rfl) (by kernel_rfl) (by kernel_rfl) (.pointer (some ⟨g8, 0, none⟩)) (fun _ _ _ h => h) (fun W hW => exec_fieldAddr 66 (.tmp 8) 0 rfl _ _ rfl (run_df0 W g8)) hS ?_
      go_frame
      refine reg_takeG (i := 2) (some 20) rfl rfl rfl (by kernel_rfl) (by kernel_rfl) (by kernel_rfl) (.int .u64 (dx : Int)) (fun _ _ _ h => h) (fun W hW => exec_loadW (.tmp 19) rfl dx rfl (hW.1.cell 0)) hS ?_
      go_frame
      refine reg_takeG (i := 3) (some 21) rfl rfl rfl (by kernel_rfl) (by kernel_rfl) (by kernel_rfl) (.slice A2 a2 c2) (fun _ _ _ h => h) (fun W hW => exec_move (.tmp 2) rfl _ rfl) hS ?_
      go_frame
      refine reg_takeG (i := 4) (some 22) rfl rfl rfl (by kernel_rfl) (by kernel_rfl) (by kernel_rfl) (.pointer (some ⟨g8, 1, none⟩)) (fun _ _ _ h => h) (fun W hW => exec_fieldAddr 66 (.tmp 8) 1 rfl _ _ rfl (run_df1 W g8)) hS ?_
      go_frame
      refine reg_takeG (i := 5) (some 23) rfl rfl rfl (by kernel_rfl) (by kernel_rfl) (by kernel_rfl) (.int .u64 (dy : Int)) (fun _ _ _ h => h) (fun W hW => exec_loadW (.tmp 22) rfl dy rfl (hW.1.cell 1)) hS ?_
      go_frame
      refine reg_takeG (i := 7) (some 25) rfl rfl rfl (by kernel_rfl) (by kernel_rfl) (by kernel_rfl) (.slice A2 a2 c2) (fun _ _ _ h => h) (fun W hW => exec_move (.tmp 2) rfl _ rfl) hS ?_
      go_frame
      refine reg_takeG (i := 8) (some 26) rfl rfl rfl (by kernel_rfl) (by kernel_rfl) (by kernel_rfl) (.pointer (some ⟨g9, 1, none⟩)) (fun _ _ _ h => h) (fun W hW => exec_fieldAddr 66 (.tmp 9) 1 rfl _ _ rfl (run_df1 W g9)) hS ?_
      go_frame
      refine reg_takeG (i := 9) (some 27) rfl rfl rfl (by kernel_rfl) (by kernel_rfl) (by kernel_rfl) (.int .u64 (ry : Int)) (fun _ _ _ h => h) (fun W hW => exec_loadW (.tmp 26) rfl ry rfl (hW.2.1.cell 1)) hS ?_
      go_frame
      refine reg_takeG (i := 10) (some 28) rfl rfl rfl (by kernel_rfl) (by kernel_rfl) (by kernel_rfl) (.slice A a1 c) (fun _ _ _ h => h) (fun W hW => exec_move (.tmp 1) rfl _ rfl) hS ?_
      go_frame
      refine reg_takeG (i := 11) (some 29) rfl rfl rfl (by kernel_rfl) (by kernel_rfl) (by kernel_rfl) (.pointer (some ⟨g9, 0, none⟩)) (fun _ _ _ h => h) (fun W hW => exec_fieldAddr 66 (.tmp 9) 0 rfl _ _ rfl (run_df0 W g9)) hS ?_
      go_frame
      refine reg_takeG (i := 12) (some 30) rfl rfl rfl (by kernel_rfl) (by kernel_rfl) (by kernel_rfl) (.int .u64 (rx : Int)) (fun _ _ _ h => h) (fun W hW => exec_loadW (.tmp 29) rfl rx rfl (hW.2.1.cell 0)) hS ?_
      go_frame
      refine reg_callG (i := 6) (some 24) rfl rfl rfl (by kernel_rfl) rfl Tryz.func30 (by kernel_rfl) (by kernel_rfl) #[.slice A a1 c, .int .u64 dx, .slice A2 a2 c2, .int .u64 dy] rfl (HL1.out u0 hS.2.2.1 hS.2.2.2.1) ?_
      rintro e u1 ⟨v1, rfl, hn1, hb1⟩
      have hS2 : Blk u1 g8 66 [.int .u64 dx, .int .u64 dy] ∧ Blk u1 g9 66 [.int .u64 rx, .int .u64 ry] ∧ RdW u1 A (digW N) ∧ RdW u1 A2 (digW M) ∧ Below w.heap.size w u1 := ⟨hS.1.next hb1, hS.2.1.next hb1, hS.2.2.1.next hb1, hS.2.2.2.1.next hb1, hS.2.2.2.2.trans (hb1.mono hS.2.2.2.2.size)⟩
      refine ⟨_, rfl, hS2, ?_⟩
      go_frame
      refine reg_callG (i := 13) (some 31) rfl rfl rfl (by kernel_rfl) rfl Tryz.func30 (by kernel_rfl) (by kernel_rfl) #[.slice A2 a2 c2, .int .u64 ry, .slice A a1 c, .int .u64 rx] rfl (HL2.out u1 hS2.2.2.2.1 hS2.2.2.1) ?_
      rintro e u2 ⟨v2, rfl, hn2, hb2⟩
      have hS3 : Blk u2 g8 66 [.int .u64 dx, .int .u64 dy] ∧ Blk u2 g9 66 [.int .u64 rx, .int .u64 ry] ∧ RdW u2 A (digW N) ∧ RdW u2 A2 (digW M) ∧ Below w.heap.size w u2 := ⟨hS2.1.next hb2, hS2.2.1.next hb2, hS2.2.2.1.next hb2, hS2.2.2.2.1.next hb2, hS2.2.2.2.2.trans (hb2.mono hS2.2.2.2.2.size)⟩
      refine ⟨_, rfl, hS3, ?_⟩
      go_frame
      refine reg_takeG (i := 14) (some 6) rfl rfl rfl (by kernel_rfl) (by kernel_rfl) (by kernel_rfl) (v1) (fun _ _ _ h => h) (fun W hW => exec_assign (.tmp 24) rfl _ rfl) hS3 ?_
      go_frame
      refine reg_takeG (i := 15) (some 7) rfl rfl rfl (by kernel_rfl) (by kernel_rfl) (by kernel_rfl) (v2) (fun _ _ _ h => h) (fun W hW => exec_assign (.tmp 31) rfl _ rfl) hS3 ?_
      go_frame
      refine wpAnyH_done (by kernel_rfl) ?_ _
      have HN1 := Lib.hid (newW_next hn1 hb2)
      have HN2 := Lib.hid hn2
      have HB := Lib.hid hS3.2.2.2.2
      clear hS hS2 hS3 hn1 hn2 hb1 hb2
      go_wp2
      go_ret2
      exact ⟨v1, v2, rfl, HN1.out, HN2.out, HB.out⟩
    · go_wp2_with (first
        | (refine wpList_dst 16 rfl ?_; refine wpList_run 16 rfl rfl _ (exec_bin .rem 3 _ (.tmp 15) (.const (.int .i64 2)) rfl _ _ _ rfl rfl rfl (HE.out _)) ?_))
      refine wp_region_held_drew (S := fun W => Blk W (w.heap.size + 1 + 1) 66 [.int .u64 dx, .int .u64 dy] ∧ Blk W (w.heap.size + 1) 66 [.int .u64 rx, .int .u64 ry] ∧ RdW W A (digW N) ∧ RdW W A2 (digW M) ∧ Below w.heap.size w W) (by kernel_rfl) ⟨Blk.drew (Blk.drew (blk_new_at _ _ _ (by simp))), Blk.drew (Blk.drew ((blk_new_at _ _ _ (by simp)).alloc _)), HR.out.1.next ?_, HR.out.2.next ?_, ?_⟩ (fun hS => ?_)
      · exact (((((Below.refl _ _).alloc (Nat.le_refl _) _).alloc (by simp) _).alloc (by simp; omega) _).drew).drew
      · exact (((((Below.refl _ _).alloc (Nat.le_refl _) _).alloc (by simp) _).alloc (by simp; omega) _).drew).drew
      · exact (((((Below.refl _ _).alloc (Nat.le_refl _) _).alloc (by simp) _).alloc (by simp; omega) _).drew).drew
      obtain ⟨g8, hg8⟩ : ∃ g, w.heap.size + 1 + 1 = g := ⟨_, rfl⟩
      rw [hg8] at hS
      simp only [hg8]
      obtain ⟨g9, hg9⟩ : ∃ g, w.heap.size + 1 = g := ⟨_, rfl⟩
      rw [hg9] at hS
      simp only [hg9]
      generalize World.drew _ = u0 at hS ⊢
      clear hg8 hg9
      refine reg_takeG (i := 0) (some 18) rfl rfl rfl (by kernel_rfl) (by kernel_rfl) (by kernel_rfl) (.slice A a1 c) (fun _ _ _ h => h) (fun W hW => exec_move (.tmp 1) rfl _ rfl) hS ?_
      go_frame
      refine reg_takeG (i := 1) (some 19) rfl rfl rfl (by kernel_rfl) (by kernel_rfl) (by kernel_rfl) (.pointer (some ⟨g8, 0, none⟩)) (fun _ _ _ h => h) (fun W hW => exec_fieldAddr 66 (.tmp 8) 0 rfl _ _ rfl (run_df0 W g8)) hS ?_
      go_frame
      refine reg_takeG (i := 2) (some 20) rfl rfl rfl (by kernel_rfl) (by kernel_rfl) (by kernel_rfl) (.int .u64 (dx : Int)) (fun _ _ _ h => h) (fun W hW => exec_loadW (.tmp 19) rfl dx rfl (hW.1.cell 0)) hS ?_
      go_frame
      refine reg_takeG (i := 3) (some 21) rfl rfl rfl (by kernel_rfl) (by kernel_rfl) (by kernel_rfl) (.slice A2 a2 c2) (fun _ _ _ h => h) (fun W hW => exec_move (.tmp 2) rfl _ rfl) hS ?_
      go_frame
      refine reg_takeG (i := 4) (some 22) rfl rfl rfl (by kernel_rfl) (by kernel_rfl) (by kernel_rfl) (.pointer (some ⟨g8, 1, none⟩)) (fun _ _ _ h => h) (fun W hW => exec_fieldAddr 66 (.tmp 8) 1 rfl _ _ rfl (run_df1 W g8)) hS ?_
      go_frame
      refine reg_takeG (i := 5) (some 23) rfl rfl rfl (by kernel_rfl) (by kernel_rfl) (by kernel_rfl) (.int .u64 (dy : Int)) (fun _ _ _ h => h) (fun W hW => exec_loadW (.tmp 22) rfl dy rfl (hW.1.cell 1)) hS ?_
      go_frame
      refine reg_takeG (i := 7) (some 25) rfl rfl rfl (by kernel_rfl) (by kernel_rfl) (by kernel_rfl) (.slice A2 a2 c2) (fun _ _ _ h => h) (fun W hW => exec_move (.tmp 2) rfl _ rfl) hS ?_
      go_frame
      refine reg_takeG (i := 8) (some 26) rfl rfl rfl (by kernel_rfl) (by kernel_rfl) (by kernel_rfl) (.pointer (some ⟨g9, 1, none⟩)) (fun _ _ _ h => h) (fun W hW => exec_fieldAddr 66 (.tmp 9) 1 rfl _ _ rfl (run_df1 W g9)) hS ?_
      go_frame
      refine reg_takeG (i := 9) (some 27) rfl rfl rfl (by kernel_rfl) (by kernel_rfl) (by kernel_rfl) (.int .u64 (ry : Int)) (fun _ _ _ h => h) (fun W hW => exec_loadW (.tmp 26) rfl ry rfl (hW.2.1.cell 1)) hS ?_
      go_frame
      refine reg_takeG (i := 10) (some 28) rfl rfl rfl (by kernel_rfl) (by kernel_rfl) (by kernel_rfl) (.slice A a1 c) (fun _ _ _ h => h) (fun W hW => exec_move (.tmp 1) rfl _ rfl) hS ?_
      go_frame
      refine reg_takeG (i := 11) (some 29) rfl rfl rfl (by kernel_rfl) (by kernel_rfl) (by kernel_rfl) (.pointer (some ⟨g9, 0, none⟩)) (fun _ _ _ h => h) (fun W hW => exec_fieldAddr 66 (.tmp 9) 0 rfl _ _ rfl (run_df0 W g9)) hS ?_
      go_frame
      refine reg_takeG (i := 12) (some 30) rfl rfl rfl (by kernel_rfl) (by kernel_rfl) (by kernel_rfl) (.int .u64 (rx : Int)) (fun _ _ _ h => h) (fun W hW => exec_loadW (.tmp 29) rfl rx rfl (hW.2.1.cell 0)) hS ?_
      go_frame
      refine reg_callG (i := 6) (some 24) rfl rfl rfl (by kernel_rfl) rfl Tryz.func30 (by kernel_rfl) (by kernel_rfl) #[.slice A a1 c, .int .u64 dx, .slice A2 a2 c2, .int .u64 dy] rfl (HL1.out u0 hS.2.2.1 hS.2.2.2.1) ?_
      rintro e u1 ⟨v1, rfl, hn1, hb1⟩
      have hS2 : Blk u1 g8 66 [.int .u64 dx, .int .u64 dy] ∧ Blk u1 g9 66 [.int .u64 rx, .int .u64 ry] ∧ RdW u1 A (digW N) ∧ RdW u1 A2 (digW M) ∧ Below w.heap.size w u1 := ⟨hS.1.next hb1, hS.2.1.next hb1, hS.2.2.1.next hb1, hS.2.2.2.1.next hb1, hS.2.2.2.2.trans (hb1.mono hS.2.2.2.2.size)⟩
      refine ⟨_, rfl, hS2, ?_⟩
      go_frame
      refine reg_callG (i := 13) (some 31) rfl rfl rfl (by kernel_rfl) rfl Tryz.func30 (by kernel_rfl) (by kernel_rfl) #[.slice A2 a2 c2, .int .u64 ry, .slice A a1 c, .int .u64 rx] rfl (HL2.out u1 hS2.2.2.2.1 hS2.2.2.1) ?_
      rintro e u2 ⟨v2, rfl, hn2, hb2⟩
      have hS3 : Blk u2 g8 66 [.int .u64 dx, .int .u64 dy] ∧ Blk u2 g9 66 [.int .u64 rx, .int .u64 ry] ∧ RdW u2 A (digW N) ∧ RdW u2 A2 (digW M) ∧ Below w.heap.size w u2 := ⟨hS2.1.next hb2, hS2.2.1.next hb2, hS2.2.2.1.next hb2, hS2.2.2.2.1.next hb2, hS2.2.2.2.2.trans (hb2.mono hS2.2.2.2.2.size)⟩
      refine ⟨_, rfl, hS3, ?_⟩
      go_frame
      refine reg_takeG (i := 14) (some 6) rfl rfl rfl (by kernel_rfl) (by kernel_rfl) (by kernel_rfl) (v1) (fun _ _ _ h => h) (fun W hW => exec_assign (.tmp 24) rfl _ rfl) hS3 ?_
      go_frame
      refine reg_takeG (i := 15) (some 7) rfl rfl rfl (by kernel_rfl) (by kernel_rfl) (by kernel_rfl) (v2) (fun _ _ _ h => h) (fun W hW => exec_assign (.tmp 31) rfl _ rfl) hS3 ?_
      go_frame
      refine wpAnyH_done (by kernel_rfl) ?_ _
      have HN1 := Lib.hid (newW_next hn1 hb2)
      have HN2 := Lib.hid hn2
      have HB := Lib.hid hS3.2.2.2.2
      clear hS hS2 hS3 hn1 hn2 hb1 hb2
      go_wp2
      go_ret2
      exact ⟨v1, v2, rfl, HN1.out, HN2.out, HB.out⟩
  · obtain ⟨e1, e2⟩ := hp.od hn
    have HL1 := Lib.hid (fun W h h' => lessN M dy N dx A2 c2 A c W h h' h2 h1 hl2 hl (by omega))
    have HL2 := Lib.hid (fun W h h' => lessN N rx M ry A c A2 c2 W h h' h3 h4 hl hl2 (by omega))
    rw [show dy * M - dx * N = P by omega] at HL1
    rw [show rx * N - ry * M = C by omega] at HL2
    have HE := Lib.hid (fun W => run_oddI n hn W)
    have HR := Lib.hid (And.intro hr hr2)
    clear hp h1 h2 h3 h4 hr hr2 hl hl2 e1 e2 hn
    obtain ⟨a1, ha1⟩ : ∃ a, (digW N).length = a := ⟨_, rfl⟩
    obtain ⟨a2, ha2⟩ : ∃ a, (digW M).length = a := ⟨_, rfl⟩
    rw [ha1, ha2] at HL1 HL2 ⊢
    clear ha1 ha2
    unfold stV stL
    go_enter Tryz.func45, Tryz.ntmps45
    go_wp2
    go_region
    · go_wp2_with (first
        | (refine wpList_dst 16 rfl ?_; refine wpList_run 16 rfl rfl _ (exec_bin .rem 3 _ (.tmp 15) (.const (.int .i64 2)) rfl _ _ _ rfl rfl rfl (HE.out _)) ?_))
      refine wp_region_held_drew (S := fun W => Blk W (w.heap.size + 1) 66 [.int .u64 dx, .int .u64 dy] ∧ Blk W (w.heap.size + 1 + 1) 66 [.int .u64 rx, .int .u64 ry] ∧ RdW W A (digW N) ∧ RdW W A2 (digW M) ∧ Below w.heap.size w W) (by kernel_rfl) ⟨Blk.drew (Blk.drew ((blk_new_at _ _ _ (by simp)).alloc _)), Blk.drew (Blk.drew (blk_new_at _ _ _ (by simp))), HR.out.1.next ?_, HR.out.2.next ?_, ?_⟩ (fun hS => ?_)
      · exact (((((Below.refl _ _).alloc (Nat.le_refl _) _).alloc (by simp) _).alloc (by simp; omega) _).drew).drew
      · exact (((((Below.refl _ _).alloc (Nat.le_refl _) _).alloc (by simp) _).alloc (by simp; omega) _).drew).drew
      · exact (((((Below.refl _ _).alloc (Nat.le_refl _) _).alloc (by simp) _).alloc (by simp; omega) _).drew).drew
      obtain ⟨g9, hg9⟩ : ∃ g, w.heap.size + 1 + 1 = g := ⟨_, rfl⟩
      rw [hg9] at hS
      simp only [hg9]
      obtain ⟨g8, hg8⟩ : ∃ g, w.heap.size + 1 = g := ⟨_, rfl⟩
      rw [hg8] at hS
      simp only [hg8]
      generalize World.drew _ = u0 at hS ⊢
      clear hg8 hg9
      refine reg_takeG (i := 0) (some 32) rfl rfl rfl (by kernel_rfl) (by kernel_rfl) (by kernel_rfl) (.slice A2 a2 c2) (fun _ _ _ h => h) (fun W hW => exec_move (.tmp 2) rfl _ rfl) hS ?_
      go_frame
      refine reg_takeG (i := 1) (some 33) rfl rfl rfl (by kernel_rfl) (by kernel_rfl) (by kernel_rfl) (.pointer (some ⟨g8, 1, none⟩)) (fun _ _ _ h => h) (fun W hW => exec_fieldAddr 66 (.tmp 8) 1 rfl _ _ rfl (run_df1 W g8)) hS ?_
      go_frame
      refine reg_takeG (i := 2) (some 34) rfl rfl rfl (by kernel_rfl) (by kernel_rfl) (by kernel_rfl) (.int .u64 (dy : Int)) (fun _ _ _ h => h) (fun W hW => exec_loadW (.tmp 33) rfl dy rfl (hW.1.cell 1)) hS ?_
      go_frame
      refine reg_takeG (i := 3) (some 35) rfl rfl rfl (by kernel_rfl) (by kernel_rfl) (by kernel_rfl) (.slice A a1 c) (fun _ _ _ h => h) (fun W hW => exec_move (.tmp 1) rfl _ rfl) hS ?_
      go_frame
      refine reg_takeG (i := 4) (some 36) rfl rfl rfl (by kernel_rfl) (by kernel_rfl) (by kernel_rfl) (.pointer (some ⟨g8, 0, none⟩)) (fun _ _ _ h => h) (fun W hW => exec_fieldAddr 66 (.tmp 8) 0 rfl _ _ rfl (run_df0 W g8)) hS ?_
      go_frame
      refine reg_takeG (i := 5) (some 37) rfl rfl rfl (by kernel_rfl) (by kernel_rfl) (by kernel_rfl) (.int .u64 (dx : Int)) (fun _ _ _ h => h) (fun W hW => exec_loadW (.tmp 36) rfl dx rfl (hW.1.cell 0)) hS ?_
      go_frame
      refine reg_takeG (i := 7) (some 39) rfl rfl rfl (by kernel_rfl) (by kernel_rfl) (by kernel_rfl) (.slice A a1 c) (fun _ _ _ h => h) (fun W hW => exec_move (.tmp 1) rfl _ rfl) hS ?_
      go_frame
      refine reg_takeG (i := 8) (some 40) rfl rfl rfl (by kernel_rfl) (by kernel_rfl) (by kernel_rfl) (.pointer (some ⟨g9, 0, none⟩)) (fun _ _ _ h => h) (fun W hW => exec_fieldAddr 66 (.tmp 9) 0 rfl _ _ rfl (run_df0 W g9)) hS ?_
      go_frame
      refine reg_takeG (i := 9) (some 41) rfl rfl rfl (by kernel_rfl) (by kernel_rfl) (by kernel_rfl) (.int .u64 (rx : Int)) (fun _ _ _ h => h) (fun W hW => exec_loadW (.tmp 40) rfl rx rfl (hW.2.1.cell 0)) hS ?_
      go_frame
      refine reg_takeG (i := 10) (some 42) rfl rfl rfl (by kernel_rfl) (by kernel_rfl) (by kernel_rfl) (.slice A2 a2 c2) (fun _ _ _ h => h) (fun W hW => exec_move (.tmp 2) rfl _ rfl) hS ?_
      go_frame
      refine reg_takeG (i := 11) (some 43) rfl rfl rfl (by kernel_rfl) (by kernel_rfl) (by kernel_rfl) (.pointer (some ⟨g9, 1, none⟩)) (fun _ _ _ h => h) (fun W hW => exec_fieldAddr 66 (.tmp 9) 1 rfl _ _ rfl (run_df1 W g9)) hS ?_
      go_frame
      refine reg_takeG (i := 12) (some 44) rfl rfl rfl (by kernel_rfl) (by kernel_rfl) (by kernel_rfl) (.int .u64 (ry : Int)) (fun _ _ _ h => h) (fun W hW => exec_loadW (.tmp 43) rfl ry rfl (hW.2.1.cell 1)) hS ?_
      go_frame
      refine reg_callG (i := 6) (some 38) rfl rfl rfl (by kernel_rfl) rfl Tryz.func30 (by kernel_rfl) (by kernel_rfl) #[.slice A2 a2 c2, .int .u64 dy, .slice A a1 c, .int .u64 dx] rfl (HL1.out u0 hS.2.2.2.1 hS.2.2.1) ?_
      rintro e u1 ⟨v1, rfl, hn1, hb1⟩
      have hS2 : Blk u1 g8 66 [.int .u64 dx, .int .u64 dy] ∧ Blk u1 g9 66 [.int .u64 rx, .int .u64 ry] ∧ RdW u1 A (digW N) ∧ RdW u1 A2 (digW M) ∧ Below w.heap.size w u1 := ⟨hS.1.next hb1, hS.2.1.next hb1, hS.2.2.1.next hb1, hS.2.2.2.1.next hb1, hS.2.2.2.2.trans (hb1.mono hS.2.2.2.2.size)⟩
      refine ⟨_, rfl, hS2, ?_⟩
      go_frame
      refine reg_callG (i := 13) (some 45) rfl rfl rfl (by kernel_rfl) rfl Tryz.func30 (by kernel_rfl) (by kernel_rfl) #[.slice A a1 c, .int .u64 rx, .slice A2 a2 c2, .int .u64 ry] rfl (HL2.out u1 hS2.2.2.1 hS2.2.2.2.1) ?_
      rintro e u2 ⟨v2, rfl, hn2, hb2⟩
      have hS3 : Blk u2 g8 66 [.int .u64 dx, .int .u64 dy] ∧ Blk u2 g9 66 [.int .u64 rx, .int .u64 ry] ∧ RdW u2 A (digW N) ∧ RdW u2 A2 (digW M) ∧ Below w.heap.size w u2 := ⟨hS2.1.next hb2, hS2.2.1.next hb2, hS2.2.2.1.next hb2, hS2.2.2.2.1.next hb2, hS2.2.2.2.2.trans (hb2.mono hS2.2.2.2.2.size)⟩
      refine ⟨_, rfl, hS3, ?_⟩
      go_frame
      refine reg_takeG (i := 14) (some 6) rfl rfl rfl (by kernel_rfl) (by kernel_rfl) (by kernel_rfl) (v1) (fun _ _ _ h => h) (fun W hW => exec_assign (.tmp 38) rfl _ rfl) hS3 ?_
      go_frame
      refine reg_takeG (i := 15) (some 7) rfl rfl rfl (by kernel_rfl) (by kernel_rfl) (by kernel_rfl) (v2) (fun _ _ _ h => h) (fun W hW => exec_assign (.tmp 45) rfl _ rfl) hS3 ?_
      go_frame
      refine wpAnyH_done (by kernel_rfl) ?_ _
      have HN1 := Lib.hid (newW_next hn1 hb2)
      have HN2 := Lib.hid hn2
      have HB := Lib.hid hS3.2.2.2.2
      clear hS hS2 hS3 hn1 hn2 hb1 hb2
      go_wp2
      go_ret2
      exact ⟨v1, v2, rfl, HN1.out, HN2.out, HB.out⟩
    · go_wp2_with (first
        | (refine wpList_dst 16 rfl ?_; refine wpList_run 16 rfl rfl _ (exec_bin .rem 3 _ (.tmp 15) (.const (.int .i64 2)) rfl _ _ _ rfl rfl rfl (HE.out _)) ?_))
      refine wp_region_held_drew (S := fun W => Blk W (w.heap.size + 1 + 1) 66 [.int .u64 dx, .int .u64 dy] ∧ Blk W (w.heap.size + 1) 66 [.int .u64 rx, .int .u64 ry] ∧ RdW W A (digW N) ∧ RdW W A2 (digW M) ∧ Below w.heap.size w W) (by kernel_rfl) ⟨Blk.drew (Blk.drew (blk_new_at _ _ _ (by simp))), Blk.drew (Blk.drew ((blk_new_at _ _ _ (by simp)).alloc _)), HR.out.1.next ?_, HR.out.2.next ?_, ?_⟩ (fun hS => ?_)
      · exact (((((Below.refl _ _).alloc (Nat.le_refl _) _).alloc (by simp) _).alloc (by simp; omega) _).drew).drew
      · exact (((((Below.refl _ _).alloc (Nat.le_refl _) _).alloc (by simp) _).alloc (by simp; omega) _).drew).drew
      · exact (((((Below.refl _ _).alloc (Nat.le_refl _) _).alloc (by simp) _).alloc (by simp; omega) _).drew).drew
      obtain ⟨g8, hg8⟩ : ∃ g, w.heap.size + 1 + 1 = g := ⟨_, rfl⟩
      rw [hg8] at hS
      simp only [hg8]
      obtain ⟨g9, hg9⟩ : ∃ g, w.heap.size + 1 = g := ⟨_, rfl⟩
      rw [hg9] at hS
      simp only [hg9]
      generalize World.drew _ = u0 at hS ⊢
      clear hg8 hg9
      refine reg_takeG (i := 0) (some 32) rfl rfl rfl (by kernel_rfl) (by kernel_rfl) (by kernel_rfl) (.slice A2 a2 c2) (fun _ _ _ h => h) (fun W hW => exec_move (.tmp 2) rfl _ rfl) hS ?_
      go_frame
      refine reg_takeG (i := 1) (some 33) rfl rfl rfl (by kernel_rfl) (by kernel_rfl) (by kernel_rfl) (.pointer (some ⟨g8, 1, none⟩)) (fun _ _ _ h => h) (fun W hW => exec_fieldAddr 66 (.tmp 8) 1 rfl _ _ rfl (run_df1 W g8)) hS ?_
      go_frame
      refine reg_takeG (i := 2) (some 34) rfl rfl rfl (by kernel_rfl) (by kernel_rfl) (by kernel_rfl) (.int .u64 (dy : Int)) (fun _ _ _ h => h) (fun W hW => exec_loadW (.tmp 33) rfl dy rfl (hW.1.cell 1)) hS ?_
      go_frame
      refine reg_takeG (i := 3) (some 35) rfl rfl rfl (by kernel_rfl) (by kernel_rfl) (by kernel_rfl) (.slice A a1 c) (fun _ _ _ h => h) (fun W hW => exec_move (.tmp 1) rfl _ rfl) hS ?_
      go_frame
      refine reg_takeG (i := 4) (some 36) rfl rfl rfl (by kernel_rfl) (by kernel_rfl) (by kernel_rfl) (.pointer (some ⟨g8, 0, none⟩)) (fun _ _ _ h => h) (fun W hW => exec_fieldAddr 66 (.tmp 8) 0 rfl _ _ rfl (run_df0 W g8)) hS ?_
      go_frame
      refine reg_takeG (i := 5) (some 37) rfl rfl rfl (by kernel_rfl) (by kernel_rfl) (by kernel_rfl) (.int .u64 (dx : Int)) (fun _ _ _ h => h) (fun W hW => exec_loadW (.tmp 36) rfl dx rfl (hW.1.cell 0)) hS ?_
      go_frame
      refine reg_takeG (i := 7) (some 39) rfl rfl rfl (by kernel_rfl) (by kernel_rfl) (by kernel_rfl) (.slice A a1 c) (fun _ _ _ h => h) (fun W hW => exec_move (.tmp 1) rfl _ rfl) hS ?_
      go_frame
      refine reg_takeG (i := 8) (some 40) rfl rfl rfl (by kernel_rfl) (by kernel_rfl) (by kernel_rfl) (.pointer (some ⟨g9, 0, none⟩)) (fun _ _ _ h => h) (fun W hW => exec_fieldAddr 66 (.tmp 9) 0 rfl _ _ rfl (run_df0 W g9)) hS ?_
      go_frame
      refine reg_takeG (i := 9) (some 41) rfl rfl rfl (by kernel_rfl) (by kernel_rfl) (by kernel_rfl) (.int .u64 (rx : Int)) (fun _ _ _ h => h) (fun W hW => exec_loadW (.tmp 40) rfl rx rfl (hW.2.1.cell 0)) hS ?_
      go_frame
      refine reg_takeG (i := 10) (some 42) rfl rfl rfl (by kernel_rfl) (by kernel_rfl) (by kernel_rfl) (.slice A2 a2 c2) (fun _ _ _ h => h) (fun W hW => exec_move (.tmp 2) rfl _ rfl) hS ?_
      go_frame
      refine reg_takeG (i := 11) (some 43) rfl rfl rfl (by kernel_rfl) (by kernel_rfl) (by kernel_rfl) (.pointer (some ⟨g9, 1, none⟩)) (fun _ _ _ h => h) (fun W hW => exec_fieldAddr 66 (.tmp 9) 1 rfl _ _ rfl (run_df1 W g9)) hS ?_
      go_frame
      refine reg_takeG (i := 12) (some 44) rfl rfl rfl (by kernel_rfl) (by kernel_rfl) (by kernel_rfl) (.int .u64 (ry : Int)) (fun _ _ _ h => h) (fun W hW => exec_loadW (.tmp 43) rfl ry rfl (hW.2.1.cell 1)) hS ?_
      go_frame
      refine reg_callG (i := 6) (some 38) rfl rfl rfl (by kernel_rfl) rfl Tryz.func30 (by kernel_rfl) (by kernel_rfl) #[.slice A2 a2 c2, .int .u64 dy, .slice A a1 c, .int .u64 dx] rfl (HL1.out u0 hS.2.2.2.1 hS.2.2.1) ?_
      rintro e u1 ⟨v1, rfl, hn1, hb1⟩
      have hS2 : Blk u1 g8 66 [.int .u64 dx, .int .u64 dy] ∧ Blk u1 g9 66 [.int .u64 rx, .int .u64 ry] ∧ RdW u1 A (digW N) ∧ RdW u1 A2 (digW M) ∧ Below w.heap.size w u1 := ⟨hS.1.next hb1, hS.2.1.next hb1, hS.2.2.1.next hb1, hS.2.2.2.1.next hb1, hS.2.2.2.2.trans (hb1.mono hS.2.2.2.2.size)⟩
      refine ⟨_, rfl, hS2, ?_⟩
      go_frame
      refine reg_callG (i := 13) (some 45) rfl rfl rfl (by kernel_rfl) rfl Tryz.func30 (by kernel_rfl) (by kernel_rfl) #[.slice A a1 c, .int .u64 rx, .slice A2 a2 c2, .int .u64 ry] rfl (HL2.out u1 hS2.2.2.1 hS2.2.2.2.1) ?_
      rintro e u2 ⟨v2, rfl, hn2, hb2⟩
      have hS3 : Blk u2 g8 66 [.int .u64 dx, .int .u64 dy] ∧ Blk u2 g9 66 [.int .u64 rx, .int .u64 ry] ∧ RdW u2 A (digW N) ∧ RdW u2 A2 (digW M) ∧ Below w.heap.size w u2 := ⟨hS2.1.next hb2, hS2.2.1.next hb2, hS2.2.2.1.next hb2, hS2.2.2.2.1.next hb2, hS2.2.2.2.2.trans (hb2.mono hS2.2.2.2.2.size)⟩
      refine ⟨_, rfl, hS3, ?_⟩
      go_frame
      refine reg_takeG (i := 14) (some 6) rfl rfl rfl (by kernel_rfl) (by kernel_rfl) (by kernel_rfl) (v1) (fun _ _ _ h => h) (fun W hW => exec_assign (.tmp 38) rfl _ rfl) hS3 ?_
      go_frame
      refine reg_takeG (i := 15) (some 7) rfl rfl rfl (by kernel_rfl) (by kernel_rfl) (by kernel_rfl) (v2) (fun _ _ _ h => h) (fun W hW => exec_assign (.tmp 45) rfl _ rfl) hS3 ?_
      go_frame
      refine wpAnyH_done (by kernel_rfl) ?_ _
      have HN1 := Lib.hid (newW_next hn1 hb2)
      have HN2 := Lib.hid hn2
      have HB := Lib.hid hS3.2.2.2.2
      clear hS hS2 hS3 hn1 hn2 hb1 hb2
      go_wp2
      go_ret2
      exact ⟨v1, v2, rfl, HN1.out, HN2.out, HB.out⟩
end Go.Proofs.YtkjnfobaoaaopaaGreatDoor
