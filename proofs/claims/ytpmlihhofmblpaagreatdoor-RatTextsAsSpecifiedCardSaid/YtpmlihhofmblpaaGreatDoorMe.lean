/- apply. -/
import Derived.Test.YtpmlihhofmblpaaGreatDoorMd
import Derived.BigRegion
import Derived.Lib.ItoaMem
import Derived.Lib.AppendIntMem
import Derived.Lib.ItoaLen
import Derived.Deep.LoopGhost
import Derived.Lib.OwnBridge
import Derived.Lib.Builder
import Derived.Laws.Externs
namespace Go.Proofs.YtpmlihhofmblpaaGreatDoor
open Go.RowKit Hm Wm Wn

theorem run_evenI (n : Nat) (h : n % 2 = 0) (w : World) : (binOp .rem 3 (.int .i64 n) (.int .i64 2)).run Tryz.prog w = .ok (.int .i64 0) w := by
  simp [binOp, go_sem]
  rw [Int.tmod_eq_emod_of_nonneg (by omega)]
  omega
theorem run_oddI (n : Nat) (h : n % 2 = 1) (w : World) : (binOp .rem 3 (.int .i64 n) (.int .i64 2)).run Tryz.prog w = .ok (.int .i64 1) w := by
  simp [binOp, go_sem]
  rw [Int.tmod_eq_emod_of_nonneg (by omega)]
  omega
theorem newW_next {w w' : World} {n : Nat} {v : Value} (h : NewW w n v) (hb : Below w.heap.size w w') : NewW w' n v := by
  obtain ⟨A, c, e, h1, h2⟩ := h
  exact ⟨A, c, e, h1.next hb, h2⟩
theorem run_df0 (W : World) (g : Nat) : (Instr.fieldAt 127 (.pointer (some ⟨g, 0, none⟩)) 0).run Tryz.prog W = .ok (.pointer (some ⟨g, 0, none⟩)) W := by kernel_rfl
theorem run_df1 (W : World) (g : Nat) : (Instr.fieldAt 127 (.pointer (some ⟨g, 0, none⟩)) 1).run Tryz.prog W = .ok (.pointer (some ⟨g, 1, none⟩)) W := by kernel_rfl
set_option maxRecDepth 100000 in
set_option maxHeartbeats 400000 in
theorem apply_any (n dx dy rx ry N M P C : Nat) (A : Option Addr) (c : Nat) (A2 : Option Addr) (c2 : Nat) (w : World) (hp : GsP n dx dy rx ry N M P C) (h1 : dx < B) (h2 : dy < B) (h3 : rx < B) (h4 : ry < B)
    (hr : RdW w A (digW N)) (hr2 : RdW w A2 (digW M)) (hl : (digW N).length ≤ 100000) (hl2 : (digW M).length ≤ 100000) :
    Calls Tryz.prog 107 #[stV n dx dy rx ry, .slice A (digW N).length c, .slice A2 (digW M).length c2] w fun e w' => ∃ v1 v2, e = .returned (.tuple #[v1, v2]) ∧ NewW w' P v1 ∧ NewW w' C v2 ∧ Below w.heap.size w w' := by
  rcases Nat.mod_two_eq_zero_or_one n with hn | hn
  · obtain ⟨e1, e2⟩ := hp.ev hn
    have HL1 := Lib.hid (fun W h h' => lessN N dx M dy A c A2 c2 W h h' h1 h2 hl hl2 (by omega))
    have HL2 := Lib.hid (fun W h h' => lessN M ry N rx A2 c2 A c W h h' h4 h3 hl2 hl (by omega))
    rw [show dx * N - dy * M = P by omega] at HL1
    rw [show ry * M - rx * N = C by omega] at HL2
    have HE := Lib.hid (fun W => run_evenI n hn W)
    have HR := Lib.hid (And.intro hr hr2)
    clear hp h1 h2 h3 h4 hr hr2 hl hl2 e1 e2 hn
    obtain ⟨a1, ha1⟩ : ∃ a, (digW N).length = a := ⟨_, rfl⟩
    obtain ⟨a2, ha2⟩ : ∃ a, (digW M).length = a := ⟨_, rfl⟩
    rw [ha1, ha2] at HL1 HL2 ⊢
    clear ha1 ha2
    unfold stV stL
    go_enter Tryz.func107, Tryz.ntmps107
    go_wp2
    go_region
    · go_wp2_with (first
        | (refine wpList_dst 16 rfl ?_; refine wpList_run 16 rfl rfl _ (exec_bin .rem 3 _ (.tmp 15) (.const (.int .i64 2)) rfl _ _ _ rfl rfl rfl (HE.out _)) ?_))
      refine wp_region_held_drew (S := fun W => Blk W (w.heap.size + 1) 127 [.int .u64 dx, .int .u64 dy] ∧ Blk W (w.heap.size + 1 + 1) 127 [.int .u64 rx, .int .u64 ry] ∧ RdW W A (digW N) ∧ RdW W A2 (digW M) ∧ Below w.heap.size w W) (by kernel_rfl) ⟨Blk.drew (Blk.drew ((blk_new_at _ _ _ (by simp)).alloc _)), Blk.drew (Blk.drew (blk_new_at _ _ _ (by simp))), HR.out.1.next ?_, HR.out.2.next ?_, ?_⟩ (fun hS => ?_)
      · exact (((((Below.refl _ _).alloc (Nat.le_refl _) _).alloc (by simp) _).alloc (by simp; omega) _).drew).drew
      · exact (((((Below.refl _ _).alloc (Nat.le_refl _) _).alloc (by simp) _).alloc (by simp; omega) _).drew).drew
      · exact (((((Below.refl _ _).alloc (Nat.le_refl _) _).alloc (by simp) _).alloc (by simp; omega) _).drew).drew
      obtain ⟨g9, hg9⟩ : ∃ g, w.heap.size + 1 + 1 = g := ⟨_, rfl⟩
      rw [hg9] at hS
      simp only [hg9]
      obtain ⟨g8, hg8⟩ : ∃ g, w.heap.size + 1 = g := ⟨_, rfl⟩
      rw [hg8] at hS
      simp only [hg8]
      generalize World.drew _ = u0 at hS ⊢
      clear hg8 hg9
      refine reg_takeG (i := 0) (some 18) rfl rfl rfl (by kernel_rfl) (by kernel_rfl) (by kernel_rfl) (.slice A a1 c) (fun _ _ _ h => h) (fun W hW => exec_move (.tmp 1) rfl _ rfl) hS ?_
      go_frame
      refine reg_takeG (i := 1) (some 19) rfl rfl rfl (by kernel_rfl) (by kernel_rfl) (by kernel_rfl) (.pointer (some ⟨g8, 0, none⟩)) (fun _ _ _ h => h) (fun W hW => exec_fieldAddr 127 (.tmp 8) 0 rfl _ _ rfl (run_df0 W g8)) hS ?_
      go_frame
      refine reg_takeG (i := 2) (some 20) rfl rfl rfl (by kernel_rfl) (by kernel_rfl) (by kernel_rfl) (.int .u64 (dx : Int)) (fun _ _ _ h => h) (fun W hW => exec_loadW (.tmp 19) rfl dx rfl (hW.1.cell 0)) hS ?_
      go_frame
      refine reg_takeG (i := 3) (some 21) rfl rfl rfl (by kernel_rfl) (by kernel_rfl) (by kernel_rfl) (.slice A2 a2 c2) (fun _ _ _ h => h) (fun W hW => exec_move (.tmp 2) rfl _ rfl) hS ?_
      go_frame
      refine reg_takeG (i := 4) (some 22) rfl rfl rfl (by kernel_rfl) (by kernel_rfl) (by kernel_rfl) (.pointer (some ⟨g8, 1, none⟩)) (fun _ _ _ h => h) (fun W hW => exec_fieldAddr 127 (.tmp 8) 1 rfl _ _ rfl (run_df1 W g8)) hS ?_
      go_frame
      refine reg_takeG (i := 5) (some 23) rfl rfl rfl (by kernel_rfl) (by kernel_rfl) (by kernel_rfl) (.int .u64 (dy : Int)) (fun _ _ _ h => h) (fun W hW => exec_loadW (.tmp 22) rfl dy rfl (hW.1.cell 1)) hS ?_
      go_frame
      refine reg_takeG (i := 7) (some 25) rfl rfl rfl (by kernel_rfl) (by kernel_rfl) (by kernel_rfl) (.slice A2 a2 c2) (fun _ _ _ h => h) (fun W hW => exec_move (.tmp 2) rfl _ rfl) hS ?_
      go_frame
      refine reg_takeG (i := 8) (some 26) rfl rfl rfl (by kernel_rfl) (by kernel_rfl) (by kernel_rfl) (.pointer (some ⟨g9, 1, none⟩)) (fun _ _ _ h => h) (fun W hW => exec_fieldAddr 127 (.tmp 9) 1 rfl _ _ rfl (run_df1 W g9)) hS ?_
      go_frame
      refine reg_takeG (i := 9) (some 27) rfl rfl rfl (by kernel_rfl) (by kernel_rfl) (by kernel_rfl) (.int .u64 (ry : Int)) (fun _ _ _ h => h) (fun W hW => exec_loadW (.tmp 26) rfl ry rfl (hW.2.1.cell 1)) hS ?_
      go_frame
      refine reg_takeG (i := 10) (some 28) rfl rfl rfl (by kernel_rfl) (by kernel_rfl) (by kernel_rfl) (.slice A a1 c) (fun _ _ _ h => h) (fun W hW => exec_move (.tmp 1) rfl _ rfl) hS ?_
      go_frame
      refine reg_takeG (i := 11) (some 29) rfl rfl rfl (by kernel_rfl) (by kernel_rfl) (by kernel_rfl) (.pointer (some ⟨g9, 0, none⟩)) (fun _ _ _ h => h) (fun W hW => exec_fieldAddr 127 (.tmp 9) 0 rfl _ _ rfl (run_df0 W g9)) hS ?_
      go_frame
      refine reg_takeG (i := 12) (some 30) rfl rfl rfl (by kernel_rfl) (by kernel_rfl) (by kernel_rfl) (.int .u64 (rx : Int)) (fun _ _ _ h => h) (fun W hW => exec_loadW (.tmp 29) rfl rx rfl (hW.2.1.cell 0)) hS ?_
      go_frame
      refine reg_callG (i := 6) (some 24) rfl rfl rfl (by kernel_rfl) rfl Tryz.func132 (by kernel_rfl) (by kernel_rfl) #[.slice A a1 c, .int .u64 dx, .slice A2 a2 c2, .int .u64 dy] rfl (HL1.out u0 hS.2.2.1 hS.2.2.2.1) ?_
      rintro e u1 ⟨v1, rfl, hn1, hb1⟩
      have hS2 : Blk u1 g8 127 [.int .u64 dx, .int .u64 dy] ∧ Blk u1 g9 127 [.int .u64 rx, .int .u64 ry] ∧ RdW u1 A (digW N) ∧ RdW u1 A2 (digW M) ∧ Below w.heap.size w u1 := ⟨hS.1.next hb1, hS.2.1.next hb1, hS.2.2.1.next hb1, hS.2.2.2.1.next hb1, hS.2.2.2.2.trans (hb1.mono hS.2.2.2.2.size)⟩
      refine ⟨_, rfl, hS2, ?_⟩
      go_frame
      refine reg_callG (i := 13) (some 31) rfl rfl rfl (by kernel_rfl) rfl Tryz.func132 (by kernel_rfl) (by kernel_rfl) #[.slice A2 a2 c2, .int .u64 ry, .slice A a1 c, .int .u64 rx] rfl (HL2.out u1 hS2.2.2.2.1 hS2.2.2.1) ?_
      rintro e u2 ⟨v2, rfl, hn2, hb2⟩
      have hS3 : Blk u2 g8 127 [.int .u64 dx, .int .u64 dy] ∧ Blk u2 g9 127 [.int .u64 rx, .int .u64 ry] ∧ RdW u2 A (digW N) ∧ RdW u2 A2 (digW M) ∧ Below w.heap.size w u2 := ⟨hS2.1.next hb2, hS2.2.1.next hb2, hS2.2.2.1.next hb2, hS2.2.2.2.1.next hb2, hS2.2.2.2.2.trans (hb2.mono hS2.2.2.2.2.size)⟩
      refine ⟨_, rfl, hS3, ?_⟩
      go_frame
      refine reg_takeG (i := 14) (some 6) rfl rfl rfl (by kernel_rfl) (by kernel_rfl) (by kernel_rfl) (v1) (fun _ _ _ h => h) (fun W hW => exec_assign (.tmp 24) rfl _ rfl) hS3 ?_
      go_frame
      refine reg_takeG (i := 15) (some 7) rfl rfl rfl (by kernel_rfl) (by kernel_rfl) (by kernel_rfl) (v2) (fun _ _ _ h => h) (fun W hW => exec_assign (.tmp 31) rfl _ rfl) hS3 ?_
      go_frame
      refine wpAnyH_done (by kernel_rfl) ?_ _
      have HN1 := Lib.hid (newW_next hn1 hb2)
      have HN2 := Lib.hid hn2
      have HB := Lib.hid hS3.2.2.2.2
      clear hS hS2 hS3 hn1 hn2 hb1 hb2
      go_wp2
      go_ret2
      exact ⟨v1, v2, rfl, HN1.out, HN2.out, HB.out⟩
    · go_wp2_with (first
        | (refine wpList_dst 16 rfl ?_; refine wpList_run 16 rfl rfl _ (exec_bin .rem 3 _ (.tmp 15) (.const (.int .i64 2)) rfl _ _ _ rfl rfl rfl (HE.out _)) ?_))
      refine wp_region_held_drew (S := fun W => Blk W (w.heap.size + 1 + 1) 127 [.int .u64 dx, .int .u64 dy] ∧ Blk W (w.heap.size + 1) 127 [.int .u64 rx, .int .u64 ry] ∧ RdW W A (digW N) ∧ RdW W A2 (digW M) ∧ Below w.heap.size w W) (by kernel_rfl) ⟨Blk.drew (Blk.drew (blk_new_at _ _ _ (by simp))), Blk.drew (Blk.drew ((blk_new_at _ _ _ (by simp)).alloc _)), HR.out.1.next ?_, HR.out.2.next ?_, ?_⟩ (fun hS => ?_)
      · exact (((((Below.refl _ _).alloc (Nat.le_refl _) _).alloc (by simp) _).alloc (by simp; omega) _).drew).drew
      · exact (((((Below.refl _ _).alloc (Nat.le_refl _) _).alloc (by simp) _).alloc (by simp; omega) _).drew).drew
      · exact (((((Below.refl _ _).alloc (Nat.le_refl _) _).alloc (by simp) _).alloc (by simp; omega) _).drew).drew
      obtain ⟨g8, hg8⟩ : ∃ g, w.heap.size + 1 + 1 = g := ⟨_, rfl⟩
      rw [hg8] at hS
      simp only [hg8]
      obtain ⟨g9, hg9⟩ : ∃ g, w.heap.size + 1 = g := ⟨_, rfl⟩
      rw [hg9] at hS
      simp only [hg9]
      generalize World.drew _ = u0 at hS ⊢
      clear hg8 hg9
      refine reg_takeG (i := 0) (some 18) rfl rfl rfl (by kernel_rfl) (by kernel_rfl) (by kernel_rfl) (.slice A a1 c) (fun _ _ _ h => h) (fun W hW => exec_move (.tmp 1) rfl _ rfl) hS ?_
      go_frame
      refine reg_takeG (i := 1) (some 19) rfl rfl rfl (by kernel_rfl) (by kernel_rfl) (by kernel_rfl) (.pointer (some ⟨g8, 0, none⟩)) (fun _ _ _ h => h) (fun W hW => exec_fieldAddr 127 (.tmp 8) 0 rfl _ _ rfl (run_df0 W g8)) hS ?_
      go_frame
      refine reg_takeG (i := 2) (some 20) rfl rfl rfl (by kernel_rfl) (by kernel_rfl) (by kernel_rfl) (.int .u64 (dx : Int)) (fun _ _ _ h => h) (fun W hW => exec_loadW (.tmp 19) rfl dx rfl (hW.1.cell 0)) hS ?_
      go_frame
      refine reg_takeG (i := 3) (some 21) rfl rfl rfl (by kernel_rfl) (by kernel_rfl) (by kernel_rfl) (.slice A2 a2 c2) (fun _ _ _ h => h) (fun W hW => exec_move (.tmp 2) rfl _ rfl) hS ?_
      go_frame
      refine reg_takeG (i := 4) (some 22) rfl rfl rfl (by kernel_rfl) (by kernel_rfl) (by kernel_rfl) (.pointer (some ⟨g8, 1, none⟩)) (fun _ _ _ h => h) (fun W hW => exec_fieldAddr 127 (.tmp 8) 1 rfl _ _ rfl (run_df1 W g8)) hS ?_
      go_frame
      refine reg_takeG (i := 5) (some 23) rfl rfl rfl (by kernel_rfl) (by kernel_rfl) (by kernel_rfl) (.int .u64 (dy : Int)) (fun _ _ _ h => h) (fun W hW => exec_loadW (.tmp 22) rfl dy rfl (hW.1.cell 1)) hS ?_
      go_frame
      refine reg_takeG (i := 7) (some 25) rfl rfl rfl (by kernel_rfl) (by kernel_rfl) (by kernel_rfl) (.slice A2 a2 c2) (fun _ _ _ h => h) (fun W hW => exec_move (.tmp 2) rfl _ rfl) hS ?_
      go_frame
      refine reg_takeG (i := 8) (some 26) rfl rfl rfl (by kernel_rfl) (by kernel_rfl) (by kernel_rfl) (.pointer (some ⟨g9, 1, none⟩)) (fun _ _ _ h => h) (fun W hW => exec_fieldAddr 127 (.tmp 9) 1 rfl _ _ rfl (run_df1 W g9)) hS ?_
      go_frame
      refine reg_takeG (i := 9) (some 27) rfl rfl rfl (by kernel_rfl) (by kernel_rfl) (by kernel_rfl) (.int .u64 (ry : Int)) (fun _ _ _ h => h) (fun W hW => exec_loadW (.tmp 26) rfl ry rfl (hW.2.1.cell 1)) hS ?_
      go_frame
      refine reg_takeG (i := 10) (some 28) rfl rfl rfl (by kernel_rfl) (by kernel_rfl) (by kernel_rfl) (.slice A a1 c) (fun _ _ _ h => h) (fun W hW => exec_move (.tmp 1) rfl _ rfl) hS ?_
      go_frame
      refine reg_takeG (i := 11) (some 29) rfl rfl rfl (by kernel_rfl) (by kernel_rfl) (by kernel_rfl) (.pointer (some ⟨g9, 0, none⟩)) (fun _ _ _ h => h) (fun W hW => exec_fieldAddr 127 (.tmp 9) 0 rfl _ _ rfl (run_df0 W g9)) hS ?_
      go_frame
      refine reg_takeG (i := 12) (some 30) rfl rfl rfl (by kernel_rfl) (by kernel_rfl) (by kernel_rfl) (.int .u64 (rx : Int)) (fun _ _ _ h => h) (fun W hW => exec_loadW (.tmp 29) rfl rx rfl (hW.2.1.cell 0)) hS ?_
      go_frame
      refine reg_callG (i := 6) (some 24) rfl rfl rfl (by kernel_rfl) rfl Tryz.func132 (by kernel_rfl) (by kernel_rfl) #[.slice A a1 c, .int .u64 dx, .slice A2 a2 c2, .int .u64 dy] rfl (HL1.out u0 hS.2.2.1 hS.2.2.2.1) ?_
      rintro e u1 ⟨v1, rfl, hn1, hb1⟩
      have hS2 : Blk u1 g8 127 [.int .u64 dx, .int .u64 dy] ∧ Blk u1 g9 127 [.int .u64 rx, .int .u64 ry] ∧ RdW u1 A (digW N) ∧ RdW u1 A2 (digW M) ∧ Below w.heap.size w u1 := ⟨hS.1.next hb1, hS.2.1.next hb1, hS.2.2.1.next hb1, hS.2.2.2.1.next hb1, hS.2.2.2.2.trans (hb1.mono hS.2.2.2.2.size)⟩
      refine ⟨_, rfl, hS2, ?_⟩
      go_frame
      refine reg_callG (i := 13) (some 31) rfl rfl rfl (by kernel_rfl) rfl Tryz.func132 (by kernel_rfl) (by kernel_rfl) #[.slice A2 a2 c2, .int .u64 ry, .slice A a1 c, .int .u64 rx] rfl (HL2.out u1 hS2.2.2.2.1 hS2.2.2.1) ?_
      rintro e u2 ⟨v2, rfl, hn2, hb2⟩
      have hS3 : Blk u2 g8 127 [.int .u64 dx, .int .u64 dy] ∧ Blk u2 g9 127 [.int .u64 rx, .int .u64 ry] ∧ RdW u2 A (digW N) ∧ RdW u2 A2 (digW M) ∧ Below w.heap.size w u2 := ⟨hS2.1.next hb2, hS2.2.1.next hb2, hS2.2.2.1.next hb2, hS2.2.2.2.1.next hb2, hS2.2.2.2.2.trans (hb2.mono hS2.2.2.2.2.size)⟩
      refine ⟨_, rfl, hS3, ?_⟩
      go_frame
      refine reg_takeG (i := 14) (some 6) rfl rfl rfl (by kernel_rfl) (by kernel_rfl) (by kernel_rfl) (v1) (fun _ _ _ h => h) (fun W hW => exec_assign (.tmp 24) rfl _ rfl) hS3 ?_
      go_frame
      refine reg_takeG (i := 15) (some 7) rfl rfl rfl (by kernel_rfl) (by kernel_rfl) (by kernel_rfl) (v2) (fun _ _ _ h => h) (fun W hW => exec_assign (.tmp 31) rfl _ rfl) hS3 ?_
      go_frame
      refine wpAnyH_done (by kernel_rfl) ?_ _
      have HN1 := Lib.hid (newW_next hn1 hb2)
      have HN2 := Lib.hid hn2
      have HB := Lib.hid hS3.2.2.2.2
      clear hS hS2 hS3 hn1 hn2 hb1 hb2
      go_wp2
      go_ret2
      exact ⟨v1, v2, rfl, HN1.out, HN2.out, HB.out⟩
  · obtain ⟨e1, e2⟩ := hp.od hn
    have HL1 := Lib.hid (fun W h h' => lessN M dy N dx A2 c2 A c W h h' h2 h1 hl2 hl (by omega))
    have HL2 := Lib.hid (fun W h h' => lessN N rx M ry A c A2 c2 W h h' h3 h4 hl hl2 (by omega))
    rw [show dy * M - dx * N = P by omega] at HL1
    rw [show rx * N - ry * M = C by omega] at HL2
    have HE := Lib.hid (fun W => run_oddI n hn W)
    have HR := Lib.hid (And.intro hr hr2)
    clear hp h1 h2 h3 h4 hr hr2 hl hl2 e1 e2 hn
    obtain ⟨a1, ha1⟩ : ∃ a, (digW N).length = a := ⟨_, rfl⟩
    obtain ⟨a2, ha2⟩ : ∃ a, (digW M).length = a := ⟨_, rfl⟩
    rw [ha1, ha2] at HL1 HL2 ⊢
    clear ha1 ha2
    unfold stV stL
    go_enter Tryz.func107, Tryz.ntmps107
    go_wp2
    go_region
    · go_wp2_with (first
        | (refine wpList_dst 16 rfl ?_; refine wpList_run 16 rfl rfl _ (exec_bin .rem 3 _ (.tmp 15) (.const (.int .i64 2)) rfl _ _ _ rfl rfl rfl (HE.out _)) ?_))
      refine wp_region_held_drew (S := fun W => Blk W (w.heap.size + 1) 127 [.int .u64 dx, .int .u64 dy] ∧ Blk W (w.heap.size + 1 + 1) 127 [.int .u64 rx, .int .u64 ry] ∧ RdW W A (digW N) ∧ RdW W A2 (digW M) ∧ Below w.heap.size w W) (by kernel_rfl) ⟨Blk.drew (Blk.drew ((blk_new_at _ _ _ (by simp)).alloc _)), Blk.drew (Blk.drew (blk_new_at _ _ _ (by simp))), HR.out.1.next ?_, HR.out.2.next ?_, ?_⟩ (fun hS => ?_)
      · exact (((((Below.refl _ _).alloc (Nat.le_refl _) _).alloc (by simp) _).alloc (by simp; omega) _).drew).drew
      · exact (((((Below.refl _ _).alloc (Nat.le_refl _) _).alloc (by simp) _).alloc (by simp; omega) _).drew).drew
      · exact (((((Below.refl _ _).alloc (Nat.le_refl _) _).alloc (by simp) _).alloc (by simp; omega) _).drew).drew
      obtain ⟨g9, hg9⟩ : ∃ g, w.heap.size + 1 + 1 = g := ⟨_, rfl⟩
      rw [hg9] at hS
      simp only [hg9]
      obtain ⟨g8, hg8⟩ : ∃ g, w.heap.size + 1 = g := ⟨_, rfl⟩
      rw [hg8] at hS
      simp only [hg8]
      generalize World.drew _ = u0 at hS ⊢
      clear hg8 hg9
      refine reg_takeG (i := 0) (some 32) rfl rfl rfl (by kernel_rfl) (by kernel_rfl) (by kernel_rfl) (.slice A2 a2 c2) (fun _ _ _ h => h) (fun W hW => exec_move (.tmp 2) rfl _ rfl) hS ?_
      go_frame
      refine reg_takeG (i := 1) (some 33) rfl rfl rfl (by kernel_rfl) (by kernel_rfl) (by kernel_rfl) (.pointer (some ⟨g8, 1, none⟩)) (fun _ _ _ h => h) (fun W hW => exec_fieldAddr 127 (.tmp 8) 1 rfl _ _ rfl (run_df1 W g8)) hS ?_
      go_frame
      refine reg_takeG (i := 2) (some 34) rfl rfl rfl (by kernel_rfl) (by kernel_rfl) (by kernel_rfl) (.int .u64 (dy : Int)) (fun _ _ _ h => h) (fun W hW => exec_loadW (.tmp 33) rfl dy rfl (hW.1.cell 1)) hS ?_
      go_frame
      refine reg_takeG (i := 3) (some 35) rfl rfl rfl (by kernel_rfl) (by kernel_rfl) (by kernel_rfl) (.slice A a1 c) (fun _ _ _ h => h) (fun W hW => exec_move (.tmp 1) rfl _ rfl) hS ?_
      go_frame
      refine reg_takeG (i := 4) (some 36) rfl rfl rfl (by kernel_rfl) (by kernel_rfl) (by kernel_rfl) (.pointer (some ⟨g8, 0, none⟩)) (fun _ _ _ h => h) (fun W hW => exec_fieldAddr 127 (.tmp 8) 0 rfl _ _ rfl (run_df0 W g8)) hS ?_
      go_frame
      refine reg_takeG (i := 5) (some 37) rfl rfl rfl (by kernel_rfl) (by kernel_rfl) (by kernel_rfl) (.int .u64 (dx : Int)) (fun _ _ _ h => h) (fun W hW => exec_loadW (.tmp 36) rfl dx rfl (hW.1.cell 0)) hS ?_
      go_frame
      refine reg_takeG (i := 7) (some 39) rfl rfl rfl (by kernel_rfl) (by kernel_rfl) (by kernel_rfl) (.slice A a1 c) (fun _ _ _ h => h) (fun W hW => exec_move (.tmp 1) rfl _ rfl) hS ?_
      go_frame
      refine reg_takeG (i := 8) (some 40) rfl rfl rfl (by kernel_rfl) (by kernel_rfl) (by kernel_rfl) (.pointer (some ⟨g9, 0, none⟩)) (fun _ _ _ h => h) (fun W hW => exec_fieldAddr 127 (.tmp 9) 0 rfl _ _ rfl (run_df0 W g9)) hS ?_
      go_frame
      refine reg_takeG (i := 9) (some 41) rfl rfl rfl (by kernel_rfl) (by kernel_rfl) (by kernel_rfl) (.int .u64 (rx : Int)) (fun _ _ _ h => h) (fun W hW => exec_loadW (.tmp 40) rfl rx rfl (hW.2.1.cell 0)) hS ?_
      go_frame
      refine reg_takeG (i := 10) (some 42) rfl rfl rfl (by kernel_rfl) (by kernel_rfl) (by kernel_rfl) (.slice A2 a2 c2) (fun _ _ _ h => h) (fun W hW => exec_move (.tmp 2) rfl _ rfl) hS ?_
      go_frame
      refine reg_takeG (i := 11) (some 43) rfl rfl rfl (by kernel_rfl) (by kernel_rfl) (by kernel_rfl) (.pointer (some ⟨g9, 1, none⟩)) (fun _ _ _ h => h) (fun W hW => exec_fieldAddr 127 (.tmp 9) 1 rfl _ _ rfl (run_df1 W g9)) hS ?_
      go_frame
      refine reg_takeG (i := 12) (some 44) rfl rfl rfl (by kernel_rfl) (by kernel_rfl) (by kernel_rfl) (.int .u64 (ry : Int)) (fun _ _ _ h => h) (fun W hW => exec_loadW (.tmp 43) rfl ry rfl (hW.2.1.cell 1)) hS ?_
      go_frame
      refine reg_callG (i := 6) (some 38) rfl rfl rfl (by kernel_rfl) rfl Tryz.func132 (by kernel_rfl) (by kernel_rfl) #[.slice A2 a2 c2, .int .u64 dy, .slice A a1 c, .int .u64 dx] rfl (HL1.out u0 hS.2.2.2.1 hS.2.2.1) ?_
      rintro e u1 ⟨v1, rfl, hn1, hb1⟩
      have hS2 : Blk u1 g8 127 [.int .u64 dx, .int .u64 dy] ∧ Blk u1 g9 127 [.int .u64 rx, .int .u64 ry] ∧ RdW u1 A (digW N) ∧ RdW u1 A2 (digW M) ∧ Below w.heap.size w u1 := ⟨hS.1.next hb1, hS.2.1.next hb1, hS.2.2.1.next hb1, hS.2.2.2.1.next hb1, hS.2.2.2.2.trans (hb1.mono hS.2.2.2.2.size)⟩
      refine ⟨_, rfl, hS2, ?_⟩
      go_frame
      refine reg_callG (i := 13) (some 45) rfl rfl rfl (by kernel_rfl) rfl Tryz.func132 (by kernel_rfl) (by kernel_rfl) #[.slice A a1 c, .int .u64 rx, .slice A2 a2 c2, .int .u64 ry] rfl (HL2.out u1 hS2.2.2.1 hS2.2.2.2.1) ?_
      rintro e u2 ⟨v2, rfl, hn2, hb2⟩
      have hS3 : Blk u2 g8 127 [.int .u64 dx, .int .u64 dy] ∧ Blk u2 g9 127 [.int .u64 rx, .int .u64 ry] ∧ RdW u2 A (digW N) ∧ RdW u2 A2 (digW M) ∧ Below w.heap.size w u2 := ⟨hS2.1.next hb2, hS2.2.1.next hb2, hS2.2.2.1.next hb2, hS2.2.2.2.1.next hb2, hS2.2.2.2.2.trans (hb2.mono hS2.2.2.2.2.size)⟩
      refine ⟨_, rfl, hS3, ?_⟩
      go_frame
      refine reg_takeG (i := 14) (some 6) rfl rfl rfl (by kernel_rfl) (by kernel_rfl) (by kernel_rfl) (v1) (fun _ _ _ h => h) (fun W hW => exec_assign (.tmp 38) rfl _ rfl) hS3 ?_
      go_frame
      refine reg_takeG (i := 15) (some 7) rfl rfl rfl (by kernel_rfl) (by kernel_rfl) (by kernel_rfl) (v2) (fun _ _ _ h => h) (fun W hW => exec_assign (.tmp 45) rfl _ rfl) hS3 ?_
      go_frame
      refine wpAnyH_done (by kernel_rfl) ?_ _
      have HN1 := Lib.hid (newW_next hn1 hb2)
      have HN2 := Lib.hid hn2
      have HB := Lib.hid hS3.2.2.2.2
      clear hS hS2 hS3 hn1 hn2 hb1 hb2
      go_wp2
      go_ret2
      exact ⟨v1, v2, rfl, HN1.out, HN2.out, HB.out⟩
    · go_wp2_with (first
        | (refine wpList_dst 16 rfl ?_; refine wpList_run 16 rfl rfl _ (exec_bin .rem 3 _ (.tmp 15) (.const (.int .i64 2)) rfl _ _ _ rfl rfl rfl (HE.out _)) ?_))
      refine wp_region_held_drew (S := fun W => Blk W (w.heap.size + 1 + 1) 127 [.int .u64 dx, .int .u64 dy] ∧ Blk W (w.heap.size + 1) 127 [.int .u64 rx, .int .u64 ry] ∧ RdW W A (digW N) ∧ RdW W A2 (digW M) ∧ Below w.heap.size w W) (by kernel_rfl) ⟨Blk.drew (Blk.drew (blk_new_at _ _ _ (by simp))), Blk.drew (Blk.drew ((blk_new_at _ _ _ (by simp)).alloc _)), HR.out.1.next ?_, HR.out.2.next ?_, ?_⟩ (fun hS => ?_)
      · exact (((((Below.refl _ _).alloc (Nat.le_refl _) _).alloc (by simp) _).alloc (by simp; omega) _).drew).drew
      · exact (((((Below.refl _ _).alloc (Nat.le_refl _) _).alloc (by simp) _).alloc (by simp; omega) _).drew).drew
      · exact (((((Below.refl _ _).alloc (Nat.le_refl _) _).alloc (by simp) _).alloc (by simp; omega) _).drew).drew
      obtain ⟨g8, hg8⟩ : ∃ g, w.heap.size + 1 + 1 = g := ⟨_, rfl⟩
      rw [hg8] at hS
      simp only [hg8]
      obtain ⟨g9, hg9⟩ : ∃ g, w.heap.size + 1 = g := ⟨_, rfl⟩
      rw [hg9] at hS
      simp only [hg9]
      generalize World.drew _ = u0 at hS ⊢
      clear hg8 hg9
      refine reg_takeG (i := 0) (some 32) rfl rfl rfl (by kernel_rfl) (by kernel_rfl) (by kernel_rfl) (.slice A2 a2 c2) (fun _ _ _ h => h) (fun W hW => exec_move (.tmp 2) rfl _ rfl) hS ?_
      go_frame
      refine reg_takeG (i := 1) (some 33) rfl rfl rfl (by kernel_rfl) (by kernel_rfl) (by kernel_rfl) (.pointer (some ⟨g8, 1, none⟩)) (fun _ _ _ h => h) (fun W hW => exec_fieldAddr 127 (.tmp 8) 1 rfl _ _ rfl (run_df1 W g8)) hS ?_
      go_frame
      refine reg_takeG (i := 2) (some 34) rfl rfl rfl (by kernel_rfl) (by kernel_rfl) (by kernel_rfl) (.int .u64 (dy : Int)) (fun _ _ _ h => h) (fun W hW => exec_loadW (.tmp 33) rfl dy rfl (hW.1.cell 1)) hS ?_
      go_frame
      refine reg_takeG (i := 3) (some 35) rfl rfl rfl (by kernel_rfl) (by kernel_rfl) (by kernel_rfl) (.slice A a1 c) (fun _ _ _ h => h) (fun W hW => exec_move (.tmp 1) rfl _ rfl) hS ?_
      go_frame
      refine reg_takeG (i := 4) (some 36) rfl rfl rfl (by kernel_rfl) (by kernel_rfl) (by kernel_rfl) (.pointer (some ⟨g8, 0, none⟩)) (fun _ _ _ h => h) (fun W hW => exec_fieldAddr 127 (.tmp 8) 0 rfl _ _ rfl (run_df0 W g8)) hS ?_
      go_frame
      refine reg_takeG (i := 5) (some 37) rfl rfl rfl (by kernel_rfl) (by kernel_rfl) (by kernel_rfl) (.int .u64 (dx : Int)) (fun _ _ _ h => h) (fun W hW => exec_loadW (.tmp 36) rfl dx rfl (hW.1.cell 0)) hS ?_
      go_frame
      refine reg_takeG (i := 7) (some 39) rfl rfl rfl (by kernel_rfl) (by kernel_rfl) (by kernel_rfl) (.slice A a1 c) (fun _ _ _ h => h) (fun W hW => exec_move (.tmp 1) rfl _ rfl) hS ?_
      go_frame
      refine reg_takeG (i := 8) (some 40) rfl rfl rfl (by kernel_rfl) (by kernel_rfl) (by kernel_rfl) (.pointer (some ⟨g9, 0, none⟩)) (fun _ _ _ h => h) (fun W hW => exec_fieldAddr 127 (.tmp 9) 0 rfl _ _ rfl (run_df0 W g9)) hS ?_
      go_frame
      refine reg_takeG (i := 9) (some 41) rfl rfl rfl (by kernel_rfl) (by kernel_rfl) (by kernel_rfl) (.int .u64 (rx : Int)) (fun _ _ _ h => h) (fun W hW => exec_loadW (.tmp 40) rfl rx rfl (hW.2.1.cell 0)) hS ?_
      go_frame
      refine reg_takeG (i := 10) (some 42) rfl rfl rfl (by kernel_rfl) (by kernel_rfl) (by kernel_rfl) (.slice A2 a2 c2) (fun _ _ _ h => h) (fun W hW => exec_move (.tmp 2) rfl _ rfl) hS ?_
      go_frame
      refine reg_takeG (i := 11) (some 43) rfl rfl rfl (by kernel_rfl) (by kernel_rfl) (by kernel_rfl) (.pointer (some ⟨g9, 1, none⟩)) (fun _ _ _ h => h) (fun W hW => exec_fieldAddr 127 (.tmp 9) 1 rfl _ _ rfl (run_df1 W g9)) hS ?_
      go_frame
      refine reg_takeG (i := 12) (some 44) rfl rfl rfl (by kernel_rfl) (by kernel_rfl) (by kernel_rfl) (.int .u64 (ry : Int)) (fun _ _ _ h => h) (fun W hW => exec_loadW (.tmp 43) rfl ry rfl (hW.2.1.cell 1)) hS ?_
      go_frame
      refine reg_callG (i := 6) (some 38) rfl rfl rfl (by kernel_rfl) rfl Tryz.func132 (by kernel_rfl) (by kernel_rfl) #[.slice A2 a2 c2, .int .u64 dy, .slice A a1 c, .int .u64 dx] rfl (HL1.out u0 hS.2.2.2.1 hS.2.2.1) ?_
      rintro e u1 ⟨v1, rfl, hn1, hb1⟩
      have hS2 : Blk u1 g8 127 [.int .u64 dx, .int .u64 dy] ∧ Blk u1 g9 127 [.int .u64 rx, .int .u64 ry] ∧ RdW u1 A (digW N) ∧ RdW u1 A2 (digW M) ∧ Below w.heap.size w u1 := ⟨hS.1.next hb1, hS.2.1.next hb1, hS.2.2.1.next hb1, hS.2.2.2.1.next hb1, hS.2.2.2.2.trans (hb1.mono hS.2.2.2.2.size)⟩
      refine ⟨_, rfl, hS2, ?_⟩
      go_frame
      refine reg_callG (i := 13) (some 45) rfl rfl rfl (by kernel_rfl) rfl Tryz.func132 (by kernel_rfl) (by kernel_rfl) #[.slice A a1 c, .int .u64 rx, .slice A2 a2 c2, .int .u64 ry] rfl (HL2.out u1 hS2.2.2.1 hS2.2.2.2.1) ?_
      rintro e u2 ⟨v2, rfl, hn2, hb2⟩
      have hS3 : Blk u2 g8 127 [.int .u64 dx, .int .u64 dy] ∧ Blk u2 g9 127 [.int .u64 rx, .int .u64 ry] ∧ RdW u2 A (digW N) ∧ RdW u2 A2 (digW M) ∧ Below w.heap.size w u2 := ⟨hS2.1.next hb2, hS2.2.1.next hb2, hS2.2.2.1.next hb2, hS2.2.2.2.1.next hb2, hS2.2.2.2.2.trans (hb2.mono hS2.2.2.2.2.size)⟩
      refine ⟨_, rfl, hS3, ?_⟩
      go_frame
      refine reg_takeG (i := 14) (some 6) rfl rfl rfl (by kernel_rfl) (by kernel_rfl) (by kernel_rfl) (v1) (fun _ _ _ h => h) (fun W hW => exec_assign (.tmp 38) rfl _ rfl) hS3 ?_
      go_frame
      refine reg_takeG (i := 15) (some 7) rfl rfl rfl (by kernel_rfl) (by kernel_rfl) (by kernel_rfl) (v2) (fun _ _ _ h => h) (fun W hW => exec_assign (.tmp 45) rfl _ rfl) hS3 ?_
      go_frame
      refine wpAnyH_done (by kernel_rfl) ?_ _
      have HN1 := Lib.hid (newW_next hn1 hb2)
      have HN2 := Lib.hid hn2
      have HB := Lib.hid hS3.2.2.2.2
      clear hS hS2 hS3 hn1 hn2 hb1 hb2
      go_wp2
      go_ret2
      exact ⟨v1, v2, rfl, HN1.out, HN2.out, HB.out⟩
end Go.Proofs.YtpmlihhofmblpaaGreatDoor

/- Gcd. -/
namespace Go.Proofs.YtpmlihhofmblpaaGreatDoor
open Go.RowKit Hm Wm Wn

section
variable {P : Program} {md : Region.Mode} {ops : Array Oper} {Q : Exit → Act → World → Prop} {S : World → Prop} {i fuel : Nat} {oi : Oper} {listed : Array Bool} {a : Act} {w : World}
theorem reg_call_val (d : Option Tmp) {F : FuncId} {caps : Array Value} (x : Operand) {xs : Array Operand} {ts : Array TypeId} (hi : ops[i]? = some oi) (hd : oi.dst = d) (hw : Region.wanted oi (yielded ops a.tmps) = true) (hr : Region.ready md ops listed = [i]) (ho : oi.op = .call { callee := .value x, args := xs, argTypes := ts }) (hx : a.eval x = .func (.func F) #[] caps)
    {fn : Func} (hf : P.funcs[F]? = some fn) (hn : (fn.name == "runtime.NumGoroutine") = false) (hb : fn.body.isNone = false) (vs : Array Value) (hvs : xs.toList.map a.eval ++ caps.toList = vs.toList) {R : Ending → World → Prop} (hc : Calls P F vs w R)
    (h : ∀ e w', R e w' → ∃ v, e = .returned v ∧ S w' ∧ wpAnyH P md ops Q S fuel (listed.setIfInBounds i true) (a.put d v) w') : wpAnyH P md ops Q S (fuel + 1) listed a w := by
  subst hd
  exact reg_oneG hi hw hr (wp_call_val x ho hx hf hn hb vs hvs hc h)
end
/-- The measure of Gcd's recursion. -/
def ms (N M : Nat) : Nat := 2 * (N + M) + (if N < M then 1 else 0)
theorem ms_swap {N M : Nat} (h : N < M) : ms M N < ms N M := by unfold ms; rw [if_pos h, if_neg (by omega)]; omega
theorem ms_less {N M P C : Nat} (h : P + C < N + M) : ms P C < ms N M := by unfold ms; split <;> split <;> omega
theorem ms_rest {N M : Nat} (h : M ≠ 0) : ms M (N % M) < ms N M := by
  have h1 := Nat.mod_lt N (Nat.pos_of_ne_zero h)
  unfold ms
  rw [if_neg (by omega)]
  by_cases h2 : N < M
  · rw [Nat.mod_eq_of_lt h2, if_pos h2]; omega
  · have h3 := Nat.mod_lt N (Nat.pos_of_ne_zero h)
    rw [if_neg h2]; omega
theorem gcd_rest (N M : Nat) : Nat.gcd M (N % M) = Nat.gcd N M := by rw [Nat.gcd_comm N M, Nat.gcd_rec M N, Nat.gcd_comm]
def gF (q : Nat) : Value := .func (.func 103) #[] #[.pointer (some ⟨q, 0, none⟩)]
theorem fn_flat (W : World) : (isAgg 124).run Tryz.prog W = .ok false W := by kernel_rfl
set_option maxRecDepth 100000 in
set_option maxHeartbeats 400000 in
theorem gcd1_any (Z : Nat) (hZ : Z ≤ 100000) (q : Nat) (k : Nat) : ∀ (N M : Nat) (A : Option Addr) (c : Nat) (A2 : Option Addr) (c2 : Nat) (w : World), ms N M = k → N + M < B ^ Z → RdW w A (digW N) → (digW N).length ≤ c → RdW w A2 (digW M) → (digW M).length ≤ c2 → Blk w q 124 [gF q] →
    Calls Tryz.prog 103 #[.slice A (digW N).length c, .slice A2 (digW M).length c2, .pointer (some ⟨q, 0, none⟩)] w fun e w' => ∃ v, e = .returned v ∧ NewW w' (Nat.gcd N M) v ∧ Below w.heap.size w w' := by
  induction k using Nat.strongRecOn with
  | ind k ih =>
    intro N M A c A2 c2 w hm hS hr hc hr2 hc2 hq
    subst hm
    have hl1 : (digW N).length ≤ 100000 := Nat.le_trans (digW_len (Nat.lt_of_le_of_lt (Nat.le_add_right N M) hS)) hZ
    have hl2 : (digW M).length ≤ 100000 := Nat.le_trans (digW_len (Nat.lt_of_le_of_lt (Nat.le_add_left M N) hS)) hZ
    obtain ⟨n1, hn1⟩ : ∃ n, (digW N).length = n := ⟨_, rfl⟩
    obtain ⟨n2, hn2⟩ : ∃ n, (digW M).length = n := ⟨_, rfl⟩
    have HQ := Lib.hid hq
    have HR := Lib.hid (And.intro hr hr2)
    have HC := Lib.hid (And.intro hc hc2)
    have HS := Lib.hid hS
    clear hq hr hr2 hc hc2 hS
    by_cases h1 : n1 < n2
    · have hlt : N < M := by
        have h2 := digW_lt N
        have hM0 : M ≠ 0 := fun h => by rw [h, digW_zero] at hn2; simp at hn2; omega
        have h3 := (digW_ge hM0).2
        have h4 : B ^ (digW N).length ≤ B ^ ((digW M).length - 1) := Nat.pow_le_pow_right B_pos (by omega)
        omega
      have HI := Lib.hid (ih (ms M N) (ms_swap hlt) M N A2 c2 A c w rfl (by have := HS.out; omega) HR.out.2 HC.out.2 HR.out.1 HC.out.1 HQ.out)
      rw [hn1, hn2] at HI ⊢
      have d1 : decide ((n1 : Int) < (n2 : Int)) = true := decide_eq_true (by omega)
      have d1' : decide (n1 < n2) = true := decide_eq_true h1
      clear ih hl1 hl2 hn1 hn2 hlt
      go_enter Tryz.func103, Tryz.ntmps103
      go_wp2_with (refine wpList_load_var rfl 124 (.tmp 2) rfl q _ (gF q) rfl HQ.out fn_flat ?_; unfold gF)
      refine HI.out.mono ?_
      rintro e w1 ⟨v, rfl, hv, hb⟩
      have HV := Lib.hid hv
      have HB := Lib.hid hb
      clear hv hb HI
      go_wp2
      go_ret
      exact ⟨v, rfl, by rw [Nat.gcd_comm]; exact HV.out, HB.out⟩
    · have d1 : decide ((n1 : Int) < (n2 : Int)) = false := decide_eq_false (by omega)
      have d1' : decide (n1 < n2) = false := decide_eq_false h1
      by_cases hM : M = 0
      · subst hM
        have h0 : n2 = 0 := by rw [← hn2, digW_zero]; rfl
        have HV := Lib.hid (show NewW w (Nat.gcd N 0) (.slice A n1 c) from ⟨A, c, by rw [Nat.gcd_zero_right, hn1], by rw [Nat.gcd_zero_right]; exact HR.out.1, by rw [Nat.gcd_zero_right]; exact HC.out.1⟩)
        rw [hn1, hn2]
        subst h0
        clear ih hl1 hl2 hn1 hn2
        go_enter Tryz.func103, Tryz.ntmps103
        go_wp2
        go_ret
        exact ⟨_, rfl, HV.out, Below.refl _ _⟩
      · have hp2 : 0 < n2 := by rw [← hn2]; exact (digW_ge hM).1
        have d2 : ((n2 : Int) == 0) = false := by rw [beq_eq_false_iff_ne]; omega
        have d2' : (n2 == 0) = false := by rw [beq_eq_false_iff_ne]; omega
        by_cases h2 : n1 = 1
        · have hN0 : N ≠ 0 := fun h => by rw [h, digW_zero] at hn1; simp at hn1; omega
          have h22 : n2 = 1 := by omega
          have hNB : N < B := by have := digW_lt N; rw [hn1, h2, Nat.pow_one] at this; exact this
          have hMB : M < B := by have := digW_lt M; rw [hn2, h22, Nat.pow_one] at this; exact this
          have e1 := digW_one hN0 hNB
          have e2 := digW_one hM hMB
          rw [hn1, hn2]
          rw [e1, e2] at HR
          subst h2
          subst h22
          obtain ⟨b, off, rfl, -⟩ := HR.out.1.cell (k := 0) (by simp)
          obtain ⟨b2, off2, rfl, -⟩ := HR.out.2.cell (k := 0) (by simp)
          have hgM : Nat.gcd N M ≤ M := Nat.gcd_le_right N (Nat.pos_of_ne_zero hM)
          have hg0 : Nat.gcd N M ≠ 0 := Nat.ne_of_gt (Nat.gcd_pos_of_pos_right N (Nat.pos_of_ne_zero hM))
          have HG := Lib.hid (digW_one hg0 (Nat.lt_of_le_of_lt hgM hMB))
          have HWD := Lib.hid (fun W => words_any N M W hNB hMB)
          obtain ⟨g, hg⟩ : ∃ g, Nat.gcd N M = g := ⟨_, rfl⟩
          rw [hg] at HG HWD ⊢
          clear ih hl1 hl2 hn1 hn2 hN0 hNB hMB e1 e2 hgM hg0 hg h1
          go_enter Tryz.func103, Tryz.ntmps103
          go_wp2
          refine wp_region_held_drew (S := fun W => RdW W (some ⟨b, off, none⟩) [N] ∧ RdW W (some ⟨b2, off2, none⟩) [M] ∧ Below w.heap.size w W) (by kernel_rfl) ⟨HR.out.1, HR.out.2, (Below.refl _ _).drew⟩ (fun hS => ?_)
          generalize w.drew = u0 at hS ⊢
          refine reg_takeG (i := 0) (some 28) rfl rfl rfl (by kernel_rfl) (by kernel_rfl) (by kernel_rfl) (.slice (some ⟨b, off, none⟩) 1 c) (fun _ _ _ h => h) (fun W hW => exec_move (.tmp 0) rfl _ rfl) hS ?_
          go_frame
          refine reg_takeG (i := 1) (some 29) rfl rfl rfl (by kernel_rfl) (by kernel_rfl) (by kernel_rfl) (.pointer (some ⟨b, off + 0, none⟩)) (fun _ _ _ h => h) (fun W hW => exec_atW (.tmp 28) (.const (.int .i64 0)) rfl b off 1 c 0 (by omega) rfl rfl) hS ?_
          go_frame
          refine reg_takeG (i := 2) (some 30) rfl rfl rfl (by kernel_rfl) (by kernel_rfl) (by kernel_rfl) (.int .u64 (N : Int)) (fun _ _ _ h => h) (fun W hW => exec_loadW (.tmp 29) rfl N rfl (rd_at hW.1 rfl)) hS ?_
          go_frame
          refine reg_takeG (i := 3) (some 31) rfl rfl rfl (by kernel_rfl) (by kernel_rfl) (by kernel_rfl) (.slice (some ⟨b2, off2, none⟩) 1 c2) (fun _ _ _ h => h) (fun W hW => exec_move (.tmp 1) rfl _ rfl) hS ?_
          go_frame
          refine reg_takeG (i := 4) (some 32) rfl rfl rfl (by kernel_rfl) (by kernel_rfl) (by kernel_rfl) (.pointer (some ⟨b2, off2 + 0, none⟩)) (fun _ _ _ h => h) (fun W hW => exec_atW (.tmp 31) (.const (.int .i64 0)) rfl b2 off2 1 c2 0 (by omega) rfl rfl) hS ?_
          go_frame
          refine reg_takeG (i := 5) (some 33) rfl rfl rfl (by kernel_rfl) (by kernel_rfl) (by kernel_rfl) (.int .u64 (M : Int)) (fun _ _ _ h => h) (fun W hW => exec_loadW (.tmp 32) rfl M rfl (rd_at hW.2.1 rfl)) hS ?_
          go_frame
          refine reg_callG (i := 6) (some 34) rfl rfl rfl (by kernel_rfl) rfl Tryz.func104 (by kernel_rfl) (by kernel_rfl) #[.int .u64 N, .int .u64 M] rfl (HWD.out u0) ?_
          rintro e u1 ⟨rfl, hb1⟩
          have hS1 : RdW u1 (some ⟨b, off, none⟩) [N] ∧ RdW u1 (some ⟨b2, off2, none⟩) [M] ∧ Below w.heap.size w u1 := ⟨hS.1.next hb1, hS.2.1.next hb1, hS.2.2.trans (hb1.mono hS.2.2.size)⟩
          refine ⟨_, rfl, hS1, ?_⟩
          go_frame
          have hK3 := Blk.new u1 89 (ws [g])
          have hal := (Below.refl u1.heap.size u1).alloc (Nat.le_refl _) (.cells (ws [g]).toArray 89)
          have hS2 : RdW (u1.alloc (.cells (ws [g]).toArray 89)) (some ⟨b, off, none⟩) [N] ∧ RdW (u1.alloc (.cells (ws [g]).toArray 89)) (some ⟨b2, off2, none⟩) [M] ∧ Below w.heap.size w (u1.alloc (.cells (ws [g]).toArray 89)) := ⟨hS1.1.next hal, hS1.2.1.next hal, hS1.2.2.trans (hal.mono hS1.2.2.size)⟩
          refine reg_makeG (i := 7) (some 35) rfl rfl rfl (by kernel_rfl) (.slice (some ⟨u1.heap.size, 0, none⟩) 1 1) _ (exec_word1 (.tmp 34) rfl g rfl) hS2 ?_
          go_frame
          have HV := Lib.hid (show NewW (u1.alloc (.cells (ws [g]).toArray 89)) g (.slice (some ⟨u1.heap.size, 0, none⟩) 1 1) from ⟨_, 1, by rw [HG.out]; rfl, by rw [HG.out]; exact rdW_blk hK3, by rw [HG.out]; exact Nat.le_refl _⟩)
          clear hK3 hal
          generalize u1.alloc (.cells (ws [g]).toArray 89) = u2 at hS2 HV ⊢
          refine reg_valueG (i := 8) (some 5) rfl rfl rfl (by kernel_rfl) (.slice (some ⟨u1.heap.size, 0, none⟩) 1 1) (exec_assign (.tmp 35) rfl _ rfl) hS2 ?_
          go_frame
          refine wpAnyH_done (by kernel_rfl) ?_ _
          have HB := Lib.hid hS2.2.2
          clear hS hS1 hS2
          go_wp2
          go_ret
          exact ⟨_, rfl, HV.out, HB.out⟩
        · have d3 : ((n1 : Int) == 1) = false := by rw [beq_eq_false_iff_ne]; omega
          have d3' : (n1 == 1) = false := by rw [beq_eq_false_iff_ne]; omega
          have HLD := Lib.hid (fun W h h' => leading_any A c N A2 c2 M W h h' (by omega) hl1 (by omega))
          have HAP := Lib.hid (fun n dx dy rx ry P C W hp h1 h2 h3 h4 h h' => apply_any n dx dy rx ry N M P C A c A2 c2 W hp h1 h2 h3 h4 h h' hl1 hl2)
          have HDM := Lib.hid (fun W h h' => divMod_any N M A c A2 c2 W hM h HC.out.1 h' hl1 hl2)
          have HIA := Lib.hid (fun (P C : Nat) (h : P + C < N + M) A3 c3 A4 c4 W h1 h2 h3 h4 h5 => ih (ms P C) (ms_less h) P C A3 c3 A4 c4 W rfl (Nat.lt_trans h HS.out) h1 h2 h3 h4 h5)
          have HIR := Lib.hid (fun A4 c4 W h1 h2 h3 h4 => ih (ms M (N % M)) (ms_rest hM) M (N % M) A2 c2 A4 c4 W rfl (by have := Nat.mod_le N M; have := HS.out; omega) h1 HC.out.2 h2 h3 h4)
          rw [gcd_rest] at HIR
          rw [hn1, hn2] at HLD HAP HDM ⊢
          rw [hn2] at HIR
          have HM := Lib.hid hM
          clear ih hl1 hl2 hn1 hn2 hM h1 h2 hp2 HC
          go_enter Tryz.func103, Tryz.ntmps103
          go_wp2_with fail
          refine (HLD.out w HR.out.1 HR.out.2).mono ?_
          rintro e w1 ⟨K, k1, k2, k3, rfl, hb1⟩
          have HB1 := Lib.hid hb1
          have HK := Lib.hid k1
          have HGU := Lib.hid (fun W => guess_steps (N / K) (M / K) W k2 k3)
          clear hb1 k1 k2 k3 HLD
          obtain ⟨X, hX⟩ : ∃ X, N / K = X := ⟨_, rfl⟩
          obtain ⟨Y, hY⟩ : ∃ Y, M / K = Y := ⟨_, rfl⟩
          rw [hX, hY] at HGU ⊢
          have HXY := Lib.hid (And.intro hX hY)
          clear hX hY
          go_wp2_with fail
          refine (HGU.out w1).mono ?_
          rintro e w2 ⟨n, dx, dy, rx, ry, a, b, rfl, hI, hB, hb2⟩
          unfold stV stL
          have HI := Lib.hid hI
          have HBB := Lib.hid hB
          have HB2 := Lib.hid (HB1.out.trans (hb2.mono HB1.out.size))
          clear hI hB hb2
          by_cases hn : 0 < n
          · have c1 : decide ((0 : Int) < (n : Int)) = true := decide_eq_true (by omega)
            have c1' : decide (0 < n) = true := decide_eq_true hn
            obtain ⟨P, C, hP, -⟩ := HI.out.all K (N % K) (M % K) (Nat.mod_lt _ HK.out) (Nat.mod_lt _ HK.out)
            rw [← HXY.out.1, ← HXY.out.2, Nat.div_add_mod', Nat.div_add_mod'] at hP
            have HA2 := Lib.hid (fun W h h' => HAP.out n dx dy rx ry P C W hP HBB.out.1 HBB.out.2.1 HBB.out.2.2.1 HBB.out.2.2.2.1 h h')
            have HI2 := Lib.hid (HIA.out P C (hP.les hn))
            rw [hP.com] at HI2
            clear HI HBB HAP HIA HIR HDM HGU hP hn
            go_wp2_with fail
            refine wp_region_held_drew (S := fun W => Blk W q 124 [gF q] ∧ Blk W w2.heap.size 129 (stL n dx dy rx ry) ∧ RdW W A (digW N) ∧ RdW W A2 (digW M) ∧ Below w.heap.size w W) (by kernel_rfl) ⟨((HQ.out.next HB2.out).alloc _).drew, (Blk.drew (Blk.new w2 129 (stL n dx dy rx ry))), (HR.out.1.next HB2.out).next ((Below.refl _ _).alloc (Nat.le_refl _) _).drew, (HR.out.2.next HB2.out).next ((Below.refl _ _).alloc (Nat.le_refl _) _).drew, HB2.out.trans (Below.mono ((Below.refl _ _).alloc (Nat.le_refl _) _).drew HB2.out.size)⟩ (fun hS => ?_)
            obtain ⟨g6, hg6⟩ : ∃ g, w2.heap.size = g := ⟨_, rfl⟩
            simp only [hg6] at hS ⊢
            generalize World.drew _ = u0 at hS ⊢
            refine reg_takeG (i := 0) (some 45) rfl rfl rfl (by kernel_rfl) (by kernel_rfl) (by kernel_rfl) (gF q) (fun _ _ _ h => h) (fun W hW => exec_load 124 (.tmp 2) rfl _ _ rfl (run_load_var 124 fn_flat hW.1)) hS ?_
            go_frame
            refine reg_takeG (i := 1) (some 46) rfl rfl rfl (by kernel_rfl) (by kernel_rfl) (by kernel_rfl) (stV n dx dy rx ry) (fun _ _ _ h => h) (fun W hW => exec_load 129 (.tmp 6) rfl _ _ rfl (run_load_part W _ g6 0 5 _ _ _ hW.2.1 (by simp [stL]) Tryz.underlying129 rfl st_size)) hS ?_
            go_frame
            refine reg_takeG (i := 2) (some 47) rfl rfl rfl (by kernel_rfl) (by kernel_rfl) (by kernel_rfl) (.slice A n1 c) (fun _ _ _ h => h) (fun W hW => exec_move (.tmp 0) rfl _ rfl) hS ?_
            go_frame
            refine reg_takeG (i := 3) (some 48) rfl rfl rfl (by kernel_rfl) (by kernel_rfl) (by kernel_rfl) (.slice A2 n2 c2) (fun _ _ _ h => h) (fun W hW => exec_move (.tmp 1) rfl _ rfl) hS ?_
            go_frame
            refine reg_callG (i := 4) (some 49) rfl rfl rfl (by kernel_rfl) rfl Tryz.func107 (by kernel_rfl) (by kernel_rfl) #[stV n dx dy rx ry, .slice A n1 c, .slice A2 n2 c2] rfl (HA2.out u0 hS.2.2.1 hS.2.2.2.1) ?_
            rintro e u1 ⟨v1, v2, rfl, ⟨A3, c3, rfl, hr3, hc3⟩, ⟨A4, c4, rfl, hr4, hc4⟩, hb1⟩
            have hS1 : Blk u1 q 124 [gF q] ∧ Blk u1 g6 129 (stL n dx dy rx ry) ∧ RdW u1 A (digW N) ∧ RdW u1 A2 (digW M) ∧ Below w.heap.size w u1 := ⟨hS.1.next hb1, hS.2.1.next hb1, hS.2.2.1.next hb1, hS.2.2.2.1.next hb1, hS.2.2.2.2.trans (hb1.mono hS.2.2.2.2.size)⟩
            refine ⟨_, rfl, hS1, ?_⟩
            go_frame
            refine reg_takeG (i := 5) (some 50) rfl rfl rfl (by kernel_rfl) (by kernel_rfl) (by kernel_rfl) (.slice A3 (digW P).length c3) (fun _ _ _ h => h) (fun W hW => exec_extract (.tmp 49) 0 rfl #[.slice A3 (digW P).length c3, .slice A4 (digW C).length c4] _ rfl rfl) hS1 ?_
            go_frame
            refine reg_takeG (i := 6) (some 51) rfl rfl rfl (by kernel_rfl) (by kernel_rfl) (by kernel_rfl) (.slice A4 (digW C).length c4) (fun _ _ _ h => h) (fun W hW => exec_extract (.tmp 49) 1 rfl #[.slice A3 (digW P).length c3, .slice A4 (digW C).length c4] _ rfl rfl) hS1 ?_
            go_frame
            refine reg_call_val (i := 7) (some 52) (.tmp 45) rfl rfl rfl (by kernel_rfl) rfl rfl Tryz.func103 (by kernel_rfl) (by kernel_rfl) #[.slice A3 (digW P).length c3, .slice A4 (digW C).length c4, .pointer (some ⟨q, 0, none⟩)] rfl (HI2.out A3 c3 A4 c4 u1 hr3 hc3 hr4 hc4 hS1.1) ?_
            rintro e u2 ⟨v, rfl, hv, hb2⟩
            have hS2 : Blk u2 q 124 [gF q] ∧ Blk u2 g6 129 (stL n dx dy rx ry) ∧ RdW u2 A (digW N) ∧ RdW u2 A2 (digW M) ∧ Below w.heap.size w u2 := ⟨hS1.1.next hb2, hS1.2.1.next hb2, hS1.2.2.1.next hb2, hS1.2.2.2.1.next hb2, hS1.2.2.2.2.trans (hb2.mono hS1.2.2.2.2.size)⟩
            refine ⟨_, rfl, hS2, ?_⟩
            go_frame
            refine reg_takeG (i := 8) (some 5) rfl rfl rfl (by kernel_rfl) (by kernel_rfl) (by kernel_rfl) (v) (fun _ _ _ h => h) (fun W hW => exec_assign (.tmp 52) rfl _ rfl) hS2 ?_
            go_frame
            refine wpAnyH_done (by kernel_rfl) ?_ _
            have HV := Lib.hid hv
            have HB := Lib.hid hS2.2.2.2.2
            clear hS hS1 hS2 hv hb1 hb2 hr3 hr4
            go_wp2
            go_ret
            exact ⟨_, rfl, HV.out, HB.out⟩
          · have c1 : decide ((0 : Int) < (n : Int)) = false := decide_eq_false (by omega)
            have c1' : decide (0 < n) = false := decide_eq_false hn
            clear HI HBB HAP HIA HGU hn
            have hal := HB2.out.alloc HB2.out.size (.cells #[.int .i64 n, .int .u64 dx, .int .u64 dy, .int .u64 rx, .int .u64 ry] 129)
            have HAL := Lib.hid hal
            clear hal
            go_wp2_with fail
            refine (HDM.out _ (HR.out.1.next HAL.out) (HR.out.2.next HAL.out)).mono ?_
            rintro e w3 ⟨v7, v8, rfl, ⟨A3, c3, rfl, hr3, hc3⟩, ⟨A4, c4, rfl, hr4, hc4⟩, hb3⟩
            have HB3 := Lib.hid (HAL.out.trans (hb3.mono HAL.out.size))
            have HR4 := Lib.hid (And.intro hr4 hc4)
            clear hr3 hc3 hr4 hc4 hb3 HDM HAL
            go_wp2_with (refine wpList_load_var rfl 124 (.tmp 2) rfl q _ (gF q) rfl (HQ.out.next HB3.out) fn_flat ?_; unfold gF)
            refine (HIR.out A4 c4 w3 (HR.out.2.next HB3.out) HR4.out.1 HR4.out.2 (HQ.out.next HB3.out)).mono ?_
            rintro e w4 ⟨v, rfl, hv, hb4⟩
            have HV := Lib.hid hv
            have HB4 := Lib.hid (HB3.out.trans (hb4.mono HB3.out.size))
            clear hv hb4
            go_wp2
            go_ret
            exact ⟨_, rfl, HV.out, HB4.out⟩
end Go.Proofs.YtpmlihhofmblpaaGreatDoor

/- Gcd of strings. -/
namespace Go.Proofs.YtpmlihhofmblpaaGreatDoor
open Go.RowKit Hm Wm Wn

theorem sum_pow {s t : ByteArray} {K : Nat} (hs : s.size ≤ K) (ht : t.size ≤ K) : nB s + nB t < B ^ (K + 1) := by
  have h1 : nB s < 256 ^ K := Nat.lt_of_lt_of_le (nB_lt s) (Nat.pow_le_pow_right (by decide) hs)
  have h2 : nB t < 256 ^ K := Nat.lt_of_lt_of_le (nB_lt t) (Nat.pow_le_pow_right (by decide) ht)
  have h3 : nB s + nB t < 256 ^ (K + 1) := by rw [Nat.pow_succ]; omega
  exact Nat.lt_of_lt_of_le h3 (Nat.pow_le_pow_left (by decide) _)
theorem gcd_sum (N M : Nat) : Nat.gcd N M ≤ N + M := by
  rcases Nat.eq_zero_or_pos N with h | h
  · subst h; rw [Nat.gcd_zero_left]; omega
  · exact Nat.le_trans (Nat.gcd_le_left M h) (Nat.le_add_right _ _)
theorem fn_size : (Tryz.prog.info? 124).map (·.size) = some 1 := by kernel_rfl
set_option maxRecDepth 100000 in
set_option maxHeartbeats 400000 in
theorem gcd_any (s t : ByteArray) (w : World) (hs : s.size ≤ 40000) (ht : t.size ≤ 40000) : Calls Tryz.prog 83 #[.string s, .string t] w fun e w' => e = .returned (.string (cS (Nat.gcd (nB s) (nB t)))) ∧ Below w.heap.size w w' := by
  obtain ⟨Z, hZ, hS⟩ : ∃ Z, Z ≤ 100000 ∧ nB s + nB t < B ^ Z := by
    obtain ⟨K, hK⟩ : ∃ K, K = 40000 := ⟨_, rfl⟩
    exact ⟨K + 1, by omega, sum_pow (by omega) (by omega)⟩
  have HGL := Lib.hid (show (digW (Nat.gcd (nB s) (nB t))).length ≤ 100000 from Nat.le_trans (digW_len (Nat.lt_of_le_of_lt (gcd_sum _ _) hS)) hZ)
  have HR1 := Lib.hid (fun w => readN s w (by omega))
  have HR2 := Lib.hid (fun w => readN t w (by omega))
  have HG := Lib.hid (fun q A c A2 c2 w h1 h2 h3 h4 h5 => gcd1_any Z hZ q _ (nB s) (nB t) A c A2 c2 w rfl hS h1 h2 h3 h4 h5)
  clear hZ hS hs ht
  go_enter Tryz.func83, Tryz.ntmps83
  go_wp2_with (refine wpList_store_var rfl 124 (.tmp 5) (.tmp 6) rfl w.heap.size _ _ (gF w.heap.size) rfl rfl (Blk.new w 124 _) fn_size rfl rfl ?_; intro w1 HK1 ho1; have HO1 := Lib.hid ((((Below.refl w.heap.size w).alloc (Nat.le_refl _) _).trans (ho1.below (Nat.le_refl _)))); clear ho1)
  refine wp_region_held_drew (S := fun W => Blk W w.heap.size 124 [gF w.heap.size] ∧ Below w.heap.size w W) (by kernel_rfl) ⟨Blk.drew HK1.out, HO1.out.drew⟩ (fun hS => ?_)
  generalize w1.drew = u0 at hS ⊢
  refine reg_takeG (i := 0) (some 7) rfl rfl rfl (by kernel_rfl) (by kernel_rfl) (by kernel_rfl) (gF w.heap.size) (fun _ _ _ h => h) (fun W hW => exec_load 124 (.tmp 5) rfl _ _ rfl (run_load_var 124 fn_flat hW.1)) hS ?_
  go_frame
  refine reg_takeG (i := 1) (some 8) rfl rfl rfl (by kernel_rfl) (by kernel_rfl) (by kernel_rfl) (.string s) (fun _ _ _ h => h) (fun W hW => exec_move (.tmp 0) rfl _ rfl) hS ?_
  go_frame
  refine reg_takeG (i := 3) (some 10) rfl rfl rfl (by kernel_rfl) (by kernel_rfl) (by kernel_rfl) (.string t) (fun _ _ _ h => h) (fun W hW => exec_move (.tmp 1) rfl _ rfl) hS ?_
  go_frame
  refine reg_callG (i := 2) (some 9) rfl rfl rfl (by kernel_rfl) rfl Tryz.func55 (by kernel_rfl) (by kernel_rfl) #[.string s] rfl (HR1.out u0) ?_
  rintro e u1 ⟨v1, rfl, ⟨A1, c1, rfl, hr1, hc1⟩, hbu1⟩
  have hS1 : Blk u1 w.heap.size 124 [gF w.heap.size] ∧ Below w.heap.size w u1 := ⟨hS.1.next hbu1, hS.2.trans (hbu1.mono hS.2.size)⟩
  refine ⟨_, rfl, hS1, ?_⟩
  go_frame
  refine reg_callG (i := 4) (some 11) rfl rfl rfl (by kernel_rfl) rfl Tryz.func55 (by kernel_rfl) (by kernel_rfl) #[.string t] rfl (HR2.out u1) ?_
  rintro e u2 ⟨v2, rfl, ⟨A2, c2, rfl, hr2, hc2⟩, hbu2⟩
  have hS2 : Blk u2 w.heap.size 124 [gF w.heap.size] ∧ Below w.heap.size w u2 := ⟨hS1.1.next hbu2, hS1.2.trans (hbu2.mono hS1.2.size)⟩
  refine ⟨_, rfl, hS2, ?_⟩
  go_frame
  refine reg_call_val (i := 5) (some 12) (.tmp 7) rfl rfl rfl (by kernel_rfl) rfl rfl Tryz.func103 (by kernel_rfl) (by kernel_rfl) #[.slice A1 (digW (nB s)).length c1, .slice A2 (digW (nB t)).length c2, .pointer (some ⟨w.heap.size, 0, none⟩)] rfl (HG.out w.heap.size A1 c1 A2 c2 u2 (hr1.next hbu2) hc1 hr2 hc2 hS2.1) ?_
  rintro e u3 ⟨v3, rfl, ⟨A3, c3, rfl, hr3, hc3⟩, hbu3⟩
  have hS3 : Blk u3 w.heap.size 124 [gF w.heap.size] ∧ Below w.heap.size w u3 := ⟨hS2.1.next hbu3, hS2.2.trans (hbu3.mono hS2.2.size)⟩
  refine ⟨_, rfl, hS3, ?_⟩
  go_frame
  refine reg_callG (i := 6) (some 13) rfl rfl rfl (by kernel_rfl) rfl Tryz.func68 (by kernel_rfl) (by kernel_rfl) #[.slice A3 (digW (Nat.gcd (nB s) (nB t))).length c3] rfl (textN _ A3 c3 u3 hr3 HGL.out) ?_
  rintro e u4 ⟨rfl, hbu4⟩
  have hS4 : Blk u4 w.heap.size 124 [gF w.heap.size] ∧ Below w.heap.size w u4 := ⟨hS3.1.next hbu4, hS3.2.trans (hbu4.mono hS3.2.size)⟩
  refine ⟨_, rfl, hS4, ?_⟩
  go_frame
  refine reg_takeG (i := 7) (some 4) rfl rfl rfl (by kernel_rfl) (by kernel_rfl) (by kernel_rfl) (.string (cS (Nat.gcd (nB s) (nB t)))) (fun _ _ _ h => h) (fun W hW => exec_assign (.tmp 13) rfl _ rfl) hS4 ?_
  go_frame
  refine wpAnyH_done (by kernel_rfl) ?_ _
  have HB := Lib.hid hS4.2
  clear hS hS1 hS2 hS3 hS4 hr1 hr2 hr3
  go_wp2
  go_ret
  exact ⟨rfl, HB.out⟩
end Go.Proofs.YtpmlihhofmblpaaGreatDoor

/- FormatUint. -/
namespace Go.Proofs.YtpmlihhofmblpaaGreatDoor
open Go.RowKit Go.Sort Go.Lib Hm Wm Wn

theorem tabIs_next {P : Program} {w w' : World} {name : String} {k : IntKind} {zs : List Int} (h : TabIs P w name k zs) (hb : Below w.heap.size w w') : TabIs P w' name k zs := by
  unfold TabIs World.var? at *
  cases hg : P.globalNamed name with
  | none => simp [hg] at h
  | some g =>
    simp only [hg, Option.bind_some] at h ⊢
    have hlt : g < w.heap.size := by
      rcases Nat.lt_or_ge g w.heap.size with h' | h'
      · exact h'
      · rw [Array.getElem?_eq_none h'] at h; simp at h
    rw [hb.block g hlt]
    exact h
theorem holds_zero0 (w : World) (T : TypeId) (nd : Nat) (hs : nd ≤ 24) : Holds (fun (b : UInt8) => Value.int .u8 (b.toNat : Int)) (w.alloc (.cells zeros24 T)) w.heap.size 0 (Array.replicate nd (0 : UInt8)) := fun j hj => by
  have hj' : j < nd := by simpa using hj
  refine ⟨?_, World.frozen?_alloc_new _ _ _ _⟩
  rw [World.cell?_alloc_new, zeros24_at _ (by omega), getElem!_pos _ j hj]
  simp
/-- The table of powers of ten. -/
def Pow (w : World) : Prop := TabIs Tryz.prog w "internal/strconv.uint64pow10" .u64 pow10Tab
theorem Pow.next {w w' : World} (h : Pow w) (hb : Below w.heap.size w w') : Pow w' := tabIs_next h hb
theorem a24_under : Tryz.prog.underlying 138 = some (.array 24 5) := by kernel_rfl
set_option maxRecDepth 100000 in
set_option maxHeartbeats 400000 in
theorem fmt_small (u : Nat) (w : World) (hu : u < 100) : Calls Tryz.prog 89 #[.int .u64 u, .int .i64 10] w fun e w' => e = .returned (.string ⟨(decDigits u).toArray⟩) ∧ Below w.heap.size w w' := by
  have c1 : decide ((u : Int) < 100) = true := decide_eq_true (by omega)
  have c1' : decide (u < 100) = true := decide_eq_true hu
  have HS := Lib.hid (fun W => Tryz.internal_strconv_small u hu W)
  have HW := Lib.hid (show wrap64 (u : Int) = (u : Int) by unfold wrap64; omega)
  clear hu
  go_enter Tryz.func89, Tryz.ntmps89
  go_wp2_with fail
  rw [HW.out]
  refine (HS.out _).mono ?_
  rintro e w1 ⟨rfl, hw⟩
  obtain rfl : w = w1 := hw.symm
  go_wp2
  go_ret
  exact ⟨rfl, Below.refl _ _⟩
set_option maxRecDepth 100000 in
set_option maxHeartbeats 1000000 in
theorem fmt_big (u : Nat) (w : World) (hu : 100 ≤ u) (huB : u < B) (hT : Pow w) : Calls Tryz.prog 89 #[.int .u64 u, .int .i64 10] w fun e w' => e = .returned (.string ⟨(decDigits u).toArray⟩) ∧ Below w.heap.size w w' := by
  have hu64 : u < 18446744073709551616 := huB
  have c1 : decide ((u : Int) < 100) = false := decide_eq_false (by omega)
  have c1' : decide (u < 100) = false := decide_eq_false (by omega)
  have hnd : nDigits u ≤ 20 := nDigits_le20 u hu64
  have HND := Lib.hid (fun W (h : Pow W) => Tryz.internal_strconv_numDigits u (by omega) hu64 W h)
  have hal : Tryz.prog.arrayLen 138 = 24 := by simp [Program.arrayLen]
  have hsl : ∀ W, (Instr.sliceAt 138 (.pointer (some ⟨w.heap.size, 0, none⟩)) none (some (.int .i64 (nDigits u : Int))) none).run Tryz.prog W = .ok (.slice (some ⟨w.heap.size, 0, none⟩) (nDigits u) 24) W := fun W => by
    rw [run_sliceAt_array_h W 138 ⟨w.heap.size, 0, none⟩ (by simp [Program.arrayLen, Program.elem]) .i64 (nDigits u : Int) (by omega) (by rw [hal]; omega)]
    go_simp
  have hH0 := holds_zero0 w 138 (nDigits u) (by omega)
  have hfmt := Tryz.internal_strconv_formatBase10 w.heap.size 0 24 u (Array.replicate (nDigits u) 0) (w.alloc (.cells zeros24 138)) hH0 (by rw [Array.size_replicate]; exact lt_pow_nDigits u) hu64 (by rw [Array.size_replicate]; omega)
  rw [Array.size_replicate] at hfmt
  have HH0 := Lib.hid hH0
  have HF := Lib.hid hfmt
  have HT := Lib.hid (hT.next ((Below.refl w.heap.size w).alloc (Nat.le_refl _) (.cells zeros24 138)))
  clear hH0 hal hfmt hT huB hu hu64 hnd
  go_enter Tryz.func89, Tryz.ntmps89
  go_wp2_with fail
  refine (HND.out _ HT.out).mono ?_
  rintro e w1 ⟨rfl, hw⟩
  subst hw
  go_wp2_with fail
  refine HF.out.mono ?_
  rintro e w1 ⟨rfl, k, v', dk, rfl, hF⟩
  have hcv : (convert 50 9 (.slice (some ⟨w.heap.size, 0, none⟩) (nDigits u) 24)).run Tryz.prog ((putRow (fun (b : UInt8) => Value.int .u8 (b.toNat : Int)) (w.alloc (.cells zeros24 138)) w.heap.size 0 dk).drewN k) = .ok (.string ⟨(decDigits u).toArray⟩) ((putRow (fun (b : UInt8) => Value.int .u8 (b.toNat : Int)) (w.alloc (.cells zeros24 138)) w.heap.size 0 dk).drewN k) := by
    have h := run_convert_bytes_back (P := Tryz.prog) ((putRow (fun (b : UInt8) => Value.int .u8 (b.toNat : Int)) (w.alloc (.cells zeros24 138)) w.heap.size 0 dk).drewN k) 50 9 5 ⟨w.heap.size, 0, none⟩ 24 (decDigits u) Tryz.underlying50 Tryz.underlying5 Tryz.underlying9 (fun j hj => by
      rw [row_is_numeral hF j hj, add_plain, World.cell?_drewN]
      exact cell?_putRow (fun (b : UInt8) => Value.int .u8 (b.toNat : Int)) _ w.heap.size 0 _ dk HH0.out (by rw [hF.size, Array.size_replicate]) j (by rw [hF.size]; rw [decDigits_length] at hj; exact hj))
    rw [decDigits_length] at h
    exact h
  obtain ⟨os, eo⟩ := fin_at w (.cells zeros24 138) dk k 0
  have HB := Lib.hid (show Below w.heap.size w ((putRow (fun (b : UInt8) => Value.int .u8 (b.toNat : Int)) (w.alloc (.cells zeros24 138)) w.heap.size 0 dk).drewN k) from by
    rw [eo]
    exact ⟨rfl, rfl, rfl, by show w.heap.size ≤ (w.heap ++ os).size; simp, fun g hg => heap_grow_old w k os g hg⟩)
  clear eo hF
  go_wp2
  go_ret
  exact ⟨rfl, HB.out⟩
theorem fmt_any (u : Nat) (w : World) (hu : u < B) (hT : Pow w) : Calls Tryz.prog 57 #[.int .u64 u, .int .i64 10] w fun e w' => e = .returned (.string ⟨(decDigits u).toArray⟩) ∧ Below w.heap.size w w' := by
  have HF : Hid (Calls Tryz.prog 89 #[.int .u64 u, .int .i64 10] w fun e w' => e = .returned (.string ⟨(decDigits u).toArray⟩) ∧ Below w.heap.size w w') := by
    by_cases h : u < 100
    · exact Lib.hid (fmt_small u w h)
    · exact Lib.hid (fmt_big u w (by omega) hu hT)
  clear hu hT
  go_enter Tryz.func57, Tryz.ntmps57
  go_wp2_with fail
  refine HF.out.mono ?_
  rintro e w1 ⟨rfl, hb⟩
  have HB := Lib.hid hb
  clear hb HF
  go_wp2
  go_ret
  exact ⟨rfl, HB.out⟩
end Go.Proofs.YtpmlihhofmblpaaGreatDoor

/- groups: the digits of a number to the base 10^19. -/
namespace Go.Proofs.YtpmlihhofmblpaaGreatDoor
open Go.RowKit Hm Wm Wn

/-- The base of the groups, and the groups of a number, the lowest one first. -/
def GB : Nat := 10000000000000000000
def gN (n : Nat) : List Nat := if _h : n < GB then [n] else n % GB :: gN (n / GB)
termination_by n
decreasing_by
  unfold GB at *
  exact Nat.div_lt_self (by omega) (by decide)
theorem gN_small {n : Nat} (h : n < GB) : gN n = [n] := by rw [gN, dif_pos h]
theorem gN_big {n : Nat} (h : ¬ n < GB) : gN n = n % GB :: gN (n / GB) := by rw [gN, dif_neg h]
theorem gN_len : ∀ (k n : Nat), n < GB ^ (k + 1) → (gN n).length ≤ k + 1
  | 0, n, h => by rw [gN_small (by simpa using h)]; simp
  | k + 1, n, h => by
    by_cases hn : n < GB
    · rw [gN_small hn]; simp
    · rw [gN_big hn, List.length_cons]
      have := gN_len k (n / GB) (Nat.div_lt_of_lt_mul (by rw [Nat.pow_succ] at h; rw [Nat.mul_comm]; exact h))
      omega
theorem gN_few {n Z : Nat} (h : n < B ^ Z) : (gN n).length ≤ 2 * Z + 1 := by
  refine gN_len (2 * Z) n (Nat.lt_of_lt_of_le h ?_)
  have h1 : B ^ Z ≤ (GB ^ 2) ^ Z := Nat.pow_le_pow_left (by decide) _
  rw [← Nat.pow_mul] at h1
  exact Nat.le_trans h1 (Nat.pow_le_pow_right (by decide) (by omega))
/-- An own row of words. -/
def OwnW (w : World) (base : Nat) (v : Value) (l : List Nat) : Prop := w.ownsRow base 89 1 v l.length (ws l)
theorem OwnW.nil (w : World) (base : Nat) : OwnW w base (.slice none 0 0) [] := World.ownsRow_nil _ _ _ _
theorem OwnW.kept {w w' : World} {base : Nat} {v : Value} {l : List Nat} (h : OwnW w base v l) (hb : Below w.heap.size w w') : OwnW w' base v l := own_below h hb
theorem wl_under : Tryz.prog.underlying 85 = some (.slice 89) := Tryz.underlying85
theorem rdW_other {w w' : World} {r : Option Nat} {A : Option Addr} {l : List Nat} (h : RdW w A l) (ho : ∀ k, k < w.heap.size → some k ≠ r → w'.heap[k]? = w.heap[k]?) (hA : ∀ a, A = some a → some a.block ≠ r) : RdW w' A l := by
  intro hne
  obtain ⟨b, off, rfl, hc⟩ := h hne
  refine ⟨b, off, rfl, fun k u hu => ?_⟩
  have h1 := hc k u hu
  have hlt : b < w.heap.size := by
    rcases Nat.lt_or_ge b w.heap.size with h' | h'
    · exact h'
    · unfold World.cell? at h1; rw [Array.getElem?_eq_none h'] at h1; simp at h1
  have hb := ho b hlt (hA _ rfl)
  unfold World.cell? at h1 ⊢
  rw [hb]
  exact h1
theorem wpList_pushW {w : World} {ops : Array Oper} {rest : List Oper} {o : Oper} {a : Act} {Q : Exit → Act → World → Prop} (hgd : o.guard = none) (s x : Operand)
    (ho : o.op = .call { callee := .builtin .append, args := #[s, x], argTypes := #[85, 85] })
    (base : Nat) (v : Value) (l : List Nat) (hs : a.eval s = v) (hown : OwnW w base v l) (d : Nat) (hb : base ≤ w.heap.size) (hl : l.length ≤ 1000000)
    (hx : a.eval x = .slice (some ⟨w.heap.size, 0, none⟩) 1 1)
    (h : ∀ v' w', OwnW w' base v' (l ++ [d]) → Below base w w' → (∀ A X, RdW w A X → (∀ ad, A = some ad → some ad.block ≠ v.ownBlock) → RdW w' A X) → wpList Tryz.prog ops Q rest (a.put o.dst v') w') :
    wpList Tryz.prog ops Q (o :: rest) a (w.alloc (.cells #[.int .u64 (d : Int)] 89)) := by
  obtain ⟨i0, hi, hz0, hz1, hz2⟩ := info_parts wd_info
  refine wpList_append_own _ hgd s x 85 ho base 89 i0 (.int .u64 0) 1 8 wl_under hi hz0 hz1 hz2 rfl (by decide) v l.length (ws l) hs (World.ownsRow.alloc hown _)
    ⟨w.heap.size, 0, none⟩ 1 1 [.int .u64 (d : Int)] hx rfl (cell_one_new _ _ _) ?_ ?_ ?_ ?_ ?_
  · intro u hu; simp at hu; subst hu; rfl
  · unfold maxLen; omega
  · omega
  · simp; omega
  · intro v' w' h1 h2 _
    refine h v' w' ?_ ?_ ?_
    · unfold OwnW
      rw [List.length_append, ws_app]
      exact h1
    · exact (((Below.refl base w).alloc hb _).grown h2 (by simp; omega) (fun k hk => (World.ownsRow.lt hown k hk).1))
    · intro A X hr hA
      have hr2 : RdW (w.alloc (.cells #[.int .u64 (d : Int)] 89)) A X := hr.next ((Below.refl _ _).alloc (Nat.le_refl _) _)
      exact rdW_other hr2 (fun k hk hne => h2.block k hk hne) hA
theorem run_geqG (x : Nat) (b : Bool) (h : decide (GB ≤ x) = b) (w : World) : (binOp .geq 89 (.int .u64 x) (.int .u64 10000000000000000000)).run Tryz.prog w = .ok (.bool b) w := by
  subst h
  unfold GB
  simp [binOp, go_sem]
  omega
theorem num_GB : digW GB = [GB] := digW_one (by decide) (by decide)
def GpR (w : World) (N g : Nat) (xv gv : Value) (wr : World) : Prop :=
  ∃ (A : Option Addr) (c : Nat) (L : List Nat), xv = .slice A (digW g).length c ∧ Hid (RdW wr A (digW g)) ∧ Hid ((digW g).length ≤ c) ∧ Hid (gN N = L ++ gN g) ∧ Hid (OwnW wr w.heap.size gv L) ∧ Hid (Below w.heap.size w wr) ∧ Hid (g ≤ N)
set_option maxRecDepth 100000 in
set_option maxHeartbeats 400000 in
theorem groups_any (Z : Nat) (hZ : Z ≤ 100000) (A : Option Addr) (c N : Nat) (w : World) (hN : N < B ^ Z) (hr : RdW w A (digW N)) (hc : (digW N).length ≤ c) :
    Calls Tryz.prog 56 #[.slice A (digW N).length c] w fun e w' => ∃ A2 c2, e = .returned (.slice A2 (gN N).reverse.length c2) ∧ RdW w' A2 (gN N).reverse ∧ Below w.heap.size w w' := by
  have HGL := Lib.hid (gN_few hN)
  have HZ := Lib.hid hZ
  have HN := Lib.hid hN
  have HR := Lib.hid (And.intro hr hc)
  obtain ⟨n0, hn0⟩ : ∃ n, (digW N).length = n := ⟨_, rfl⟩
  have HN0 := Lib.hid hn0
  clear hZ hN hr hc
  rw [hn0]
  clear hn0
  go_enter Tryz.func56, Tryz.ntmps56
  go_wp2
  go_loopg [0, 3] N (fun g xv gv wr => GpR w N g xv gv wr)
  case atStart => exact ⟨A, c, [], by rw [HN0.out], Lib.hid HR.out.1, Lib.hid HR.out.2, Lib.hid rfl, Lib.hid (OwnW.nil _ _), Lib.hid (Below.refl _ _), Lib.hid (Nat.le_refl _)⟩
  case round =>
    clear HR
    obtain ⟨A, c, L, rfl, HR, HC, HG, HO, HW, HL⟩ := hrel
    have hl1 : (digW gk).length ≤ 100000 := Nat.le_trans (digW_len (Nat.lt_of_le_of_lt HL.out HN.out)) HZ.out
    have hLl : L.length ≤ 200001 := by
      have h1 := congrArg List.length HG.out
      rw [List.length_append] at h1
      have h2 := HGL.out
      have h3 := HZ.out
      omega
    obtain ⟨n1, hn1⟩ : ∃ n, (digW gk).length = n := ⟨_, rfl⟩
    have hd0 : (digW gk).getD 0 0 = gk % B := by rw [digW_getD, Nat.pow_zero, Nat.div_one]
    have HDG := Lib.hid (fun W h => digit_any A c (digW gk) 0 W h)
    obtain ⟨x0, hx0⟩ : ∃ x, gk % B = x := ⟨_, rfl⟩
    rw [hd0, hx0, hn1] at HDG
    rw [hn1]
    by_cases hbig : GB ≤ gk
    · have hn10 : 1 ≤ n1 := by rw [← hn1]; exact (digW_ge (by unfold GB at hbig; omega)).1
      have HDV := Lib.hid (fun ga W (hA : RdW W A (digW gk)) (hG : RdW W (some ⟨ga, 0, none⟩) [GB]) => divMod_longF A c (digW gk) (some ⟨ga, 0, none⟩) 1 [GB] GB W hA hG (dig_digW gk) (by intro d hd; rw [List.mem_singleton.1 hd]; decide) (by decide) rfl (by decide) (by decide) (by rw [hn1]; exact hn10) hl1)
      rw [num_digW, num_one, hn1] at HDV
      obtain ⟨q, hq⟩ : ∃ q, gk / GB = q := ⟨_, rfl⟩
      obtain ⟨d, hd⟩ : ∃ d, gk % GB = d := ⟨_, rfl⟩
      rw [hq, hd] at HDV
      have HQ := Lib.hid (show q < gk by rw [← hq]; unfold GB at hbig ⊢; omega)
      have hdB : d < B := by
        rw [← hd]
        have h1 : GB < B := by decide
        have h2 := Nat.mod_lt gk (show 0 < GB by decide)
        omega
      have HDD := Lib.hid (show (digW d).getD 0 0 = d by rw [digW_getD, Nat.pow_zero, Nat.div_one]; exact Nat.mod_eq_of_lt hdB)
      have HG2 := Lib.hid (show gN N = (L ++ [d]) ++ gN q by rw [HG.out, gN_big (by omega), hq, hd]; simp)
      have hG0 : RdW (wr.alloc (.cells #[.int .u64 10000000000000000000] 89)) (some ⟨wr.heap.size, 0, none⟩) [GB] := rdW_blk (Blk.new wr 89 (ws [GB]))
      have hal : Below wr.heap.size wr (wr.alloc (.cells #[.int .u64 10000000000000000000] 89)) := (Below.refl _ _).alloc (Nat.le_refl _) _
      have HG0 := Lib.hid hG0
      have HAL := Lib.hid hal
      have HGE := Lib.hid (fun W (h : ¬ 1 < n1) => run_geqG x0 true (by
        have h2 := digW_lt gk
        have h3 : B ^ (digW gk).length ≤ B ^ 1 := Nat.pow_le_pow_right B_pos (by omega)
        rw [Nat.pow_one] at h3
        rw [← hx0, Nat.mod_eq_of_lt (by omega)]
        exact decide_eq_true hbig) W)
      clear hG0 hal hd hdB hq hbig hn10 hd0 hx0 hl1 hn1
      by_cases h1 : 1 < n1
      · have c1 : decide ((1 : Int) < (n1 : Int)) = true := decide_eq_true (by omega)
        have c1' : decide (1 < n1) = true := decide_eq_true h1
        clear HDG HGE
        go_wp2_with fail
        refine (HDV.out wr.heap.size _ (HR.out.next HAL.out) HG0.out).mono ?_
        rintro e w2 ⟨v1, v2, rfl, ⟨A1, cc1, rfl, r1, k1⟩, ⟨A2, cc2, rfl, r2, -⟩, hb2, hfr⟩
        have HO2 := Lib.hid ((HO.out.kept HAL.out).kept hb2)
        have HW2 := Lib.hid ((HW.out.trans (HAL.out.mono HW.out.size)).trans (hb2.mono (Nat.le_trans HW.out.size HAL.out.size)))
        have HOF := Lib.hid (show ∀ ad, A1 = some ad → some ad.block ≠ Value.ownBlock _ from fun ad ha e => by
          subst ha
          have h1 := hfr ad _ _ rfl
          have h2 := (World.ownsRow.lt HO.out _ e.symm).2
          have h3 := HAL.out.size
          omega)
        have HR1 := Lib.hid r1
        have HC1 := Lib.hid k1
        have hdg := digit_any A2 cc2 (digW d) 0 w2 r2
        rw [HDD.out] at hdg
        have HD2 := Lib.hid hdg
        clear hb2 hfr r1 r2 k1 hdg HDV
        go_wp2_with fail
        refine HD2.out.mono ?_
        rintro e w3 ⟨rfl, hw⟩
        obtain rfl : w2 = w3 := hw.symm
        clear hw
        go_wp2_with (refine wpList_dst 23 rfl ?_; refine wpList_pushW rfl (.tmp 19) (.tmp 22) rfl w.heap.size _ L rfl HO2.out d HW2.out.size (by omega) rfl ?_; intro v' w4 ho hbl hkp; have HO3 := Lib.hid ho; have HB3 := Lib.hid (HW2.out.trans hbl); have HR3 := Lib.hid (hkp A1 _ HR1.out HOF.out); clear ho hbl hkp)
        go_roundg q
        case measure => exact HQ.out
        case rel => exact ⟨A1, cc1, L ++ [d], rfl, HR3, HC1, HG2, HO3, HB3, Lib.hid (Nat.le_trans (Nat.le_of_lt HQ.out) HL.out)⟩
      · have c1 : decide ((1 : Int) < (n1 : Int)) = false := decide_eq_false (by omega)
        have c1' : decide (1 < n1) = false := decide_eq_false h1
        replace HGE := Lib.hid (fun W => HGE.out W h1)
        go_wp2_with fail
        refine (HDG.out wr HR.out).mono ?_
        rintro e w2 ⟨rfl, hw⟩
        obtain rfl : wr = w2 := hw.symm
        clear hw
        go_wp2_with (first | (refine wpList_dst 11 rfl ?_; refine wpList_runG 11 rfl rfl _ (exec_bin .geq 89 _ (.tmp 10) (.const (.int .u64 10000000000000000000)) rfl _ _ _ rfl rfl rfl (HGE.out _)) ?_))
        refine (HDV.out wr.heap.size _ (HR.out.next HAL.out) HG0.out).mono ?_
        rintro e w2 ⟨v1, v2, rfl, ⟨A1, cc1, rfl, r1, k1⟩, ⟨A2, cc2, rfl, r2, -⟩, hb2, hfr⟩
        have HO2 := Lib.hid ((HO.out.kept HAL.out).kept hb2)
        have HW2 := Lib.hid ((HW.out.trans (HAL.out.mono HW.out.size)).trans (hb2.mono (Nat.le_trans HW.out.size HAL.out.size)))
        have HOF := Lib.hid (show ∀ ad, A1 = some ad → some ad.block ≠ Value.ownBlock _ from fun ad ha e => by
          subst ha
          have h1 := hfr ad _ _ rfl
          have h2 := (World.ownsRow.lt HO.out _ e.symm).2
          have h3 := HAL.out.size
          omega)
        have HR1 := Lib.hid r1
        have HC1 := Lib.hid k1
        have hdg := digit_any A2 cc2 (digW d) 0 w2 r2
        rw [HDD.out] at hdg
        have HD2 := Lib.hid hdg
        clear hb2 hfr r1 r2 k1 hdg HDV
        go_wp2_with fail
        refine HD2.out.mono ?_
        rintro e w3 ⟨rfl, hw⟩
        obtain rfl : w2 = w3 := hw.symm
        clear hw
        go_wp2_with (refine wpList_dst 23 rfl ?_; refine wpList_pushW rfl (.tmp 19) (.tmp 22) rfl w.heap.size _ L rfl HO2.out d HW2.out.size (by omega) rfl ?_; intro v' w4 ho hbl hkp; have HO3 := Lib.hid ho; have HB3 := Lib.hid (HW2.out.trans hbl); have HR3 := Lib.hid (hkp A1 _ HR1.out HOF.out); clear ho hbl hkp)
        go_roundg q
        case measure => exact HQ.out
        case rel => exact ⟨A1, cc1, L ++ [d], rfl, HR3, HC1, HG2, HO3, HB3, Lib.hid (Nat.le_trans (Nat.le_of_lt HQ.out) HL.out)⟩
    · have hlt : gk < GB := Nat.lt_of_not_le hbig
      have hBB : GB < B := by decide
      have hle : n1 ≤ 1 := by rw [← hn1]; exact digW_len (by rw [Nat.pow_one]; omega)
      have hxe : x0 = gk := by rw [← hx0]; exact Nat.mod_eq_of_lt (by omega)
      have c1 : decide ((1 : Int) < (n1 : Int)) = false := decide_eq_false (by omega)
      have c1' : decide (1 < n1) = false := decide_eq_false (by omega)
      have HGE := Lib.hid (fun W => run_geqG gk false (decide_eq_false (by omega)) W)
      have HG2 := Lib.hid (show gN N = L ++ [gk] by rw [HG.out, gN_small hlt])
      rw [hxe] at HDG
      clear hlt hBB hle hxe hx0 hd0 hl1 hn1 hbig HC HL
      go_wp2_with fail
      refine (HDG.out wr HR.out).mono ?_
      rintro e w2 ⟨rfl, hw⟩
      obtain rfl : wr = w2 := hw.symm
      clear hw
      go_wp2_with (first | (refine wpList_dst 11 rfl ?_; refine wpList_runG 11 rfl rfl _ (exec_bin .geq 89 _ (.tmp 10) (.const (.int .u64 10000000000000000000)) rfl _ _ _ rfl rfl rfl (HGE.out _)) ?_))
      refine (HDG.out wr HR.out).mono ?_
      rintro e w2 ⟨rfl, hw⟩
      obtain rfl : wr = w2 := hw.symm
      clear hw
      go_wp2_with (refine wpList_dst 28 rfl ?_; refine wpList_pushW rfl (.tmp 24) (.tmp 27) rfl w.heap.size _ L rfl HO.out gk HW.out.size (by omega) rfl ?_; intro v' w3 ho hbl _; have HO3 := Lib.hid ho; have HB3 := Lib.hid (HW.out.trans hbl); clear ho hbl; refine Hid.out ?_)
      refine Lib.hid ?_
      have hne : v' ≠ .slice none 0 0 := fun e => by
        subst e
        rcases HO3.out.2 with ⟨_, h⟩ | ⟨g, cap, cur, h, _⟩
        · simp at h
        · cases h
      obtain ⟨g, cap, rfl, hbg, hgl, -, -, hzl, hH⟩ := Lib.holds_of_ownsRow (enc := wu) HO3.out hne
      have hrv := Tryz.slices_Reverse wu (fun _ => rfl) g 0 cap (L ++ [gk]) w3 hH (by rw [List.length_append]; simp; omega)
      have HRV := Lib.hid hrv
      have HBG := Lib.hid hbg
      obtain ⟨m, hm⟩ : ∃ m, (L ++ [gk]).length = m := ⟨_, rfl⟩
      have HOO := Lib.hid (show w3.ownsRow w.heap.size 89 1 (.slice (some ⟨g, 0, none⟩) m cap) m (ws (L ++ [gk])) from by have := HO3.out; unfold OwnW at this; rwa [hm] at this)
      have HRL := Lib.hid (show (L ++ [gk]).reverse.length = m by rw [List.length_reverse]; exact hm)
      rw [hm] at HRV ⊢
      clear hne hH hrv hbg hgl hzl hm HO3
      go_wp2_with fail
      refine HRV.out.mono ?_
      rintro e w4 ⟨rfl, k, rfl⟩
      have hown := Lib.ownsRow_putRow (q := k) (ys := (L ++ [gk]).reverse) HOO.out HRL.out (Nat.le_refl m)
      rw [List.take_of_length_le (by rw [HRL.out]; exact Nat.le_refl _)] at hown
      have HRD := Lib.hid (show RdW (Go.Sort.putRow wu (Go.Sort.ahead w3 k) g 0 (L ++ [gk]).reverse.toArray) (some ⟨g, 0, none⟩) (L ++ [gk]).reverse from Rd.of_row hown)
      have HBE := Lib.hid (show Below w.heap.size w (Go.Sort.putRow wu (Go.Sort.ahead w3 k) g 0 (L ++ [gk]).reverse.toArray) from Lib.below_putRow HB3.out HBG.out)
      clear hown
      generalize Go.Sort.putRow wu (Go.Sort.ahead w3 k) g 0 (L ++ [gk]).reverse.toArray = w5 at HRD HBE ⊢
      go_wp2_with fail
      go_ret
      exact ⟨_, _, by rw [HG2.out, HRL.out]; rfl, by rw [HG2.out]; exact HRD.out, HBE.out⟩
end Go.Proofs.YtpmlihhofmblpaaGreatDoor

/- strings.Builder's WriteString, at a builder that the call made itself. -/
namespace Go.Proofs.YtpmlihhofmblpaaGreatDoor
open Go.RowKit Hm Wm Wn

theorem row_form {w : World} {base : Nat} {e : TypeId} {size n : Nat} {v : Value} {xs : List Value} (h : w.ownsRow base e size v n xs) : ∃ A c, v = .slice A n c := by
  rcases h.2 with ⟨rfl, rfl⟩ | ⟨g, cap, cur, rfl, _⟩
  · exact ⟨none, 0, rfl⟩
  · exact ⟨_, cap, rfl⟩
theorem bd_size : (Tryz.prog.info? 52).map (·.size) = some 2 := by kernel_rfl

set_option maxRecDepth 100000 in
set_option maxHeartbeats 1000000 in
theorem copyCheck_used (b : Nat) (w : World) (h0 : w.cell? ⟨b, 0, none⟩ = some (.pointer (some ⟨b, 0, none⟩))) :
    Calls Tryz.prog 54 #[.pointer (some ⟨b, 0, none⟩)] w fun e w' => e = .returned (.tuple #[]) ∧ w' = w := by
  obtain ⟨j, hj, _⟩ := Option.map_eq_some_iff.1 bd_size
  go_enter Tryz.func54, Tryz.ntmps54
  go_wp2
  rw [Lib.run_neq_ptr_same w _ Tryz.underlying49 hj]
  go_wp2
  go_end0
  exact ⟨rfl, rfl⟩

set_option maxRecDepth 100000 in
set_option maxHeartbeats 1000000 in
theorem copyCheck_fresh (b : Nat) (w : World) (h0 : w.cell? ⟨b, 0, none⟩ = some (.pointer none)) (hsh : w.shape? b = some (52, 2)) (hfz : w.frozen? ⟨b, 0, none⟩ = false) :
    Calls Tryz.prog 54 #[.pointer (some ⟨b, 0, none⟩)] w fun e w' => e = .returned (.tuple #[]) ∧ w' = w.setCell ⟨b, 0, none⟩ (.pointer (some ⟨b, 0, none⟩)) := by
  obtain ⟨j, hj, hjs⟩ := Option.map_eq_some_iff.1 bd_size
  go_enter Tryz.func54, Tryz.ntmps54
  go_wp2
  rw [Lib.run_to_unsafe w ⟨b, 0, none⟩ Tryz.underlying49 Tryz.underlying105 hj (by rw [hjs]; decide) hsh (Nat.zero_lt_succ 1)]
  simp only [Result.andThen]
  rw [Oper.upon_value]
  go_wp2
  rw [run_callFunc_extern Tryz.func84 (by kernel_rfl) (by kernel_rfl) (by kernel_rfl) (e := Extern.AbiNoEscape.same) (by kernel_rfl)]
  rw [Lib.run_noEscape]
  simp only [Result.andThen]
  rw [Oper.upon_value]
  go_wp2
  rw [Lib.run_from_unsafe w ⟨b, 0, none⟩ Tryz.underlying105 Tryz.underlying49 hj hsh (by kernel_rfl)]
  simp only [Result.andThen]
  rw [Oper.upon_value]
  go_wp2
  go_end0
  exact ⟨rfl, rfl⟩

theorem copyCheck_any (B b : Nat) (bs : List Value) (w : World) (h : Lib.IsBuilder 52 5 B b bs w) :
    Calls Tryz.prog 54 #[.pointer (some ⟨b, 0, none⟩)] w fun e w' => e = .returned (.tuple #[]) ∧ (Lib.BuilderAt 52 5 B b (.pointer (some ⟨b, 0, none⟩)) bs w' ∧ Only b w w') := by
  rcases h with h | h
  · refine (copyCheck_fresh b w h.cell0 h.shape h.frozen0).mono ?_
    rintro e w' ⟨rfl, rfl⟩
    exact ⟨rfl, h.used _, ⟨rfl, rfl, rfl, by simp, fun k hk => Below.heap_setCell _ _ _ _ hk⟩⟩
  · refine (copyCheck_used b w h.cell0).mono ?_
    rintro e w' ⟨rfl, rfl⟩
    exact ⟨rfl, h, ⟨rfl, rfl, rfl, rfl, fun _ _ => rfl⟩⟩

set_option maxRecDepth 100000 in
set_option maxHeartbeats 1000000 in
theorem write_any (B b : Nat) (bs : List Value) (s : ByteArray) (w : World) (h : Lib.IsBuilder 52 5 B b bs w) (hB : B ≤ w.heap.size) (hl : bs.length + s.size ≤ 1099511627776) :
    Calls Tryz.prog 28 #[.pointer (some ⟨b, 0, none⟩), .string s] w fun e w' => e = .returned (.tuple #[.int .i64 s.size, .nilIface]) ∧ Lib.IsBuilder 52 5 B b (bs ++ Lib.strCells s) w' ∧ Below B w w' := by
  have HC := Lib.hid (copyCheck_any B b bs w h)
  have hbB : B ≤ b := by rcases h with h | h <;> exact h.1
  have HL := Lib.hid hl
  clear h hl
  go_enter Tryz.func28, Tryz.ntmps28
  go_wp2_with fail
  refine HC.out.mono ?_
  rintro e w2 ⟨rfl, hbu, ho2⟩
  obtain ⟨_, v, hb, hown, hne⟩ := hbu
  have hc1 : w2.cell? ⟨b, 1, none⟩ = some v := Lib.cell_of_heap hb 1
  have hf1 : w2.frozen? ⟨b, 1, none⟩ = false := Lib.frozen_of_heap hb 1
  have hs2 : b < w2.heap.size := (Array.getElem?_eq_some_iff.1 hb).1
  have hsz : w2.heap.size = w.heap.size := ho2.size
  have HOWN := Lib.hid hown
  have HB2 := Lib.hid hb
  have HNE := Lib.hid hne
  have HO := Lib.hid ho2
  obtain ⟨i0, hi, hz0, hz1, hz2⟩ := info_parts u8_info
  have HI := Lib.hid hi
  clear hown hb hne ho2 hi
  go_wp2_with (at_builtin; refine Lib.wpList_append_own_string _ rfl (.tmp 12) (.tmp 13) 50 9 rfl B 5 i0 Tryz.underlying50 Tryz.underlying9 HI.out hz0 hz1 hz2 v bs.length bs rfl HOWN.out s rfl (by have := HL.out; unfold maxLen; omega) (by have := HL.out; omega) (by omega) ?_; intro v3 w3 ho3 hg3 hn3; obtain ⟨A3, c3, rfl⟩ := row_form ho3; have hb3 : w3.heap[b]? = some (.cells #[.pointer (some ⟨b, 0, none⟩), v] 52 (0, 0)) := (hg3.block b hs2 (fun e => HNE.out e.symm)).trans HB2.out; have hc3 : w3.cell? ⟨b, 1, none⟩ = some v := Lib.cell_of_heap hb3 1; have hf3 : w3.frozen? ⟨b, 1, none⟩ = false := Lib.frozen_of_heap hb3 1; have hs3 : b < w3.heap.size := (Array.getElem?_eq_some_iff.1 hb3).1; have HB3 := Lib.hid hb3; have HO3 := Lib.hid ho3; have HG3 := Lib.hid hg3; clear hb3 ho3 hg3 hn3)
  go_ret2
  refine ⟨rfl, .inr ?_, ?_⟩
  · have h3 := HO3.out
    refine Lib.BuilderAt.put hbB HB3.out ?_ (by decide)
    rw [List.length_append, Lib.strCells_length]
    exact h3
  · exact (((HO.out.below hbB).grown HG3.out (by omega) (fun k hk => (World.ownsRow.lt HOWN.out k hk).1))).setCell (p := ⟨b, 1, none⟩) hbB _
end Go.Proofs.YtpmlihhofmblpaaGreatDoor
