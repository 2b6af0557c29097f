/- Children. -/
import Derived.Test.YtmifpaafpmibmaaDoorCD
namespace Go.Proofs.YtmifpaafpmibmaaDoor
open Go.RowKit Hm Wm Cm

theorem Row.base {W : World} {b0 b1 : Nat} {v : Value} {l : List Bk} (h : Row W b1 v l) (hb : b0 ≤ b1) : Row W b0 v l := by
  refine ⟨⟨h.1.1, ?_⟩, h.2⟩
  rcases h.1.2 with h1 | ⟨g, cap, cur, h1, h2, h3⟩
  · exact .inl h1
  · exact .inr ⟨g, cap, cur, h1, by omega, h3⟩
theorem within_blk (n a b : Int) (w : World) : Calls Tryd.prog 25 #[.int .i64 n, .int .i64 a, .int .i64 b] w fun e w' => ∃ BF BT BL, e = .returned (wiF BF BT BL) ∧ (Blk w' BF 3 [.int .i64 a] ∧ Blk w' BT 3 [.int .i64 b] ∧ Blk w' BL 3 [.int .i64 n]) ∧ (w.heap.size ≤ BF ∧ w.heap.size ≤ BT ∧ w.heap.size ≤ BL) ∧ Below w.heap.size w w' := by
  refine (within_any n a b w).mono ?_
  rintro e w' ⟨rfl, rfl⟩
  refine ⟨_, _, _, rfl, ⟨?_, ?_, ?_⟩, ⟨by omega, by omega, by omega⟩, (((Below.refl w.heap.size w).alloc (Nat.le_refl _) _).alloc (by simp) _).alloc (by simp; omega) _⟩
  · have := (Blk.new (w.alloc (.cells #[.int .i64 n] 3)) 3 [.int .i64 a]).alloc (.cells #[.int .i64 b] 3)
    rwa [World.size_alloc] at this
  · have := Blk.new ((w.alloc (.cells #[.int .i64 n] 3)).alloc (.cells #[.int .i64 a] 3)) 3 [.int .i64 b]
    rwa [World.size_alloc, World.size_alloc] at this
  · exact ((Blk.new w 3 [.int .i64 n]).alloc _).alloc _
set_option maxRecDepth 100000 in
set_option maxHeartbeats 1000000 in
theorem child_bad (l f t : Int) (hv : okB l f t = false) (w : World) (hL : Lens w) : Calls Tryd.prog 9 #[.agg #[.int .i64 l, .int .i64 f, .int .i64 t]] w fun e w' => e = .returned (.tuple #[.slice none 0 0, .int .i64 1]) ∧ Below w.heap.size w w' := by
  have HX := Lib.hid (Blk.new w 23 (b3 l f t))
  have HW := Lib.hid ((Below.refl w.heap.size w).alloc (Nat.le_refl _) (.cells (b3 l f t).toArray 23))
  have HN := Lib.hid (hL.next HW.out)
  have HV := Lib.hid (fun W h => valid_any l f t W h)
  rw [hv] at HV
  clear hL hv
  go_enter Tryd.func9, Tryd.ntmps9
  go_wp2_with fail
  refine (HV.out _ HN.out).mono ?_
  rintro e w1 ⟨rfl, hb⟩
  replace HX := Lib.hid (HX.out.next hb)
  replace HN := Lib.hid (HN.out.next hb)
  replace HW := Lib.hid (HW.out.trans (hb.mono HW.out.size))
  clear hb
  go_wp2
  go_ret2
  exact ⟨rfl, HW.out⟩
set_option maxRecDepth 100000 in
set_option maxHeartbeats 1000000 in
theorem child_low (l f t : Int) (hv : okB l f t = true) (h4 : l = 0) (w : World) (hL : Lens w) : Calls Tryd.prog 9 #[.agg #[.int .i64 l, .int .i64 f, .int .i64 t]] w fun e w' => e = .returned (.tuple #[.slice none 0 0, .int .i64 8]) ∧ Below w.heap.size w w' := by
  subst h4
  have HX := Lib.hid (Blk.new w 23 (b3 0 f t))
  have HW := Lib.hid ((Below.refl w.heap.size w).alloc (Nat.le_refl _) (.cells (b3 0 f t).toArray 23))
  have HN := Lib.hid (hL.next HW.out)
  have HV := Lib.hid (fun W h => valid_any 0 f t W h)
  rw [hv] at HV
  clear hL hv
  go_enter Tryd.func9, Tryd.ntmps9
  go_wp2_with fail
  refine (HV.out _ HN.out).mono ?_
  rintro e w1 ⟨rfl, hb⟩
  replace HX := Lib.hid (HX.out.next hb)
  replace HN := Lib.hid (HN.out.next hb)
  replace HW := Lib.hid (HW.out.trans (hb.mono HW.out.size))
  clear hb
  go_wp2_with (first | (refine wpList_dst 7 rfl ?_; refine wpList_run 7 rfl rfl _ (exec_fieldAddr 23 (.tmp 1) 0 rfl _ _ rfl (bn_f0 _ _)) ?_) | (refine wpList_dst 8 rfl ?_; refine wpList_run 8 rfl rfl _ (exec_loadI (.tmp 7) rfl (.int .i64 0) rfl (HX.out.cell 0)) ?_))
  go_ret2
  exact ⟨rfl, HW.out⟩
set_option maxRecDepth 100000 in
set_option maxHeartbeats 1000000 in
theorem child_raw (n a b : Nat) (l f t : Int) (hv : okB l f t = true) (h0 : (l == 0) = false) (hl : l = (n : Int) + 1) (hf : f = (a : Int)) (ht : t = (b : Int)) (hn : n ≤ 3) (hbM : b ≤ M) (w : World) (hL : Lens w) : Calls Tryd.prog 9 #[.agg #[.int .i64 l, .int .i64 f, .int .i64 t]] w fun e w' => (∃ v, e = .returned (.tuple #[v, .int .i64 0]) ∧ Row w' w.heap.size v (wi n a b)) ∧ Below w.heap.size w w' := by
  have hl1 : 1 ≤ l := by omega
  have hl4 : l ≤ 4 := by omega
  have HL := Lib.hid hl
  have HF := Lib.hid hf
  have HT := Lib.hid ht
  clear hl hf ht
  have HX := Lib.hid (Blk.new w 23 (b3 l f t))
  have HW := Lib.hid ((Below.refl w.heap.size w).alloc (Nat.le_refl _) (.cells (b3 l f t).toArray 23))
  have HN := Lib.hid (hL.next HW.out)
  have HV := Lib.hid (fun W h => valid_any l f t W h)
  rw [hv] at HV
  clear hL hv
  go_enter Tryd.func9, Tryd.ntmps9
  go_wp2_with fail
  refine (HV.out _ HN.out).mono ?_
  rintro e w1 ⟨rfl, hb⟩
  replace HX := Lib.hid (HX.out.next hb)
  replace HN := Lib.hid (HN.out.next hb)
  replace HW := Lib.hid (HW.out.trans (hb.mono HW.out.size))
  clear hb
  have hlt := HX.out.lt
  go_wp2_with (first | (refine wpList_dst 7 rfl ?_; refine wpList_run 7 rfl rfl _ (exec_fieldAddr 23 (.tmp 1) 0 rfl _ _ rfl (bn_f0 _ _)) ?_) | (refine wpList_dst 8 rfl ?_; refine wpList_run 8 rfl rfl _ (exec_loadI (.tmp 7) rfl (.int .i64 l) rfl (HX.out.cell 0)) ?_) | (refine wpList_dst 10 rfl ?_; refine wpList_run 10 rfl rfl _ (exec_fieldAddr 23 (.tmp 1) 0 rfl _ _ rfl (bn_f0 _ _)) ?_) | (refine wpList_dst 11 rfl ?_; refine wpList_run 11 rfl rfl _ (exec_loadI (.tmp 10) rfl (.int .i64 l) rfl (HX.out.cell 0)) ?_) | (refine wpList_dst 13 rfl ?_; refine wpList_run 13 rfl rfl _ (exec_fieldAddr 23 (.tmp 1) 1 rfl _ _ rfl (bn_f1 _ _)) ?_) | (refine wpList_dst 14 rfl ?_; refine wpList_run 14 rfl rfl _ (exec_loadI (.tmp 13) rfl (.int .i64 f) rfl (HX.out.cell 1)) ?_) | (refine wpList_dst 15 rfl ?_; refine wpList_run 15 rfl rfl _ (exec_fieldAddr 23 (.tmp 1) 2 rfl _ _ rfl (bn_f2 _ _)) ?_) | (refine wpList_dst 16 rfl ?_; refine wpList_run 16 rfl rfl _ (exec_loadI (.tmp 15) rfl (.int .i64 t) rfl (HX.out.cell 2)) ?_))
  refine (within_blk _ _ _ w1).mono ?_
  rintro e w2 ⟨BF, BT, BL, rfl, ⟨kF, kT, kL⟩, hge, hb⟩
  replace HN := Lib.hid (HN.out.next hb)
  replace HW := Lib.hid (HW.out.trans (hb.mono HW.out.size))
  rw [HF.out] at kF
  rw [HT.out] at kT
  rw [show l - 1 = (n : Int) from by have := HL.out; omega] at kL
  have HC := Lib.hid (collect_any n a b BF BT BL w2 (by omega) hbM HN.out kF kT kL)
  clear hb kF kT kL hge
  go_wp2_with fail
  refine HC.out.mono ?_
  rintro e w3 ⟨⟨v, rfl, hr⟩, hb⟩
  have HR := Lib.hid (Row.base hr (HW.out.size))
  replace HW := Lib.hid (HW.out.trans (hb.mono HW.out.size))
  clear hb hr
  go_wp2
  go_ret2
  exact ⟨⟨_, rfl, HR.out⟩, HW.out⟩
end Go.Proofs.YtmifpaafpmibmaaDoor
