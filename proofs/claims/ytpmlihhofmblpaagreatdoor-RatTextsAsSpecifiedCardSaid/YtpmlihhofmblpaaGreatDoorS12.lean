/- The reference: Sum. -/
import Derived.Test.YtpmlihhofmblpaaGreatDoorS8
namespace Go.Proofs.YtpmlihhofmblpaaGreatDoor
open Go.RowKit Hm Wm Wn

theorem rdq_at {W : World} {b off : Nat} {l : List Rv} {k : Nat} {x : Rv} (h : RdQ W (some ⟨b, off, none⟩) l) (hx : l[k]? = some x) : W.rangeAt b (off + k * 3) (cQ x) := by
  have hk : k < l.length := (List.getElem?_eq_some_iff.1 hx).1
  obtain ⟨b', off', e, h2⟩ := h.range hk
  injection e with e
  injection e with e1 e2
  subst e1 e2
  rw [List.getElem?_eq_getElem hk] at hx
  rw [← Option.some.inj hx]
  exact h2
set_option maxRecDepth 100000 in
set_option maxHeartbeats 1500000 in
theorem rsum_raw (A : Option Addr) (n c : Nat) (l : List Rv) (S : Nat → Rv) (w : World) (hn : n ≤ 100000) (hln : l.length = n) (hr : RdQ w A l) (h0 : S 0 = zR)
    (hS : ∀ k x, l[k]? = some x → ∀ W, Calls Tryz.prog 42 #[rv (S k), rv x] W fun e w' => e = .returned (rv (S (k + 1))) ∧ Below W.heap.size W w') : Calls Tryz.prog 11 #[.slice A n c] w fun e w' => e = .returned (rv (S n)) ∧ Below w.heap.size w w' := by
  have FS := Lib.hid hS
  have HLN := Lib.hid hln
  have H0 := Lib.hid h0
  have hAb : ∀ b off, A = some ⟨b, off, none⟩ → l ≠ [] → b < w.heap.size := fun b off hA hl => by
    have hp := List.length_pos_iff.2 hl
    obtain ⟨b', off', e, h2⟩ := hr.range (k := 0) hp
    rw [hA] at e
    injection e with e
    injection e with e1 e2
    subst e1
    exact World.block_lt_of_cell? w _ (h2 0 _ (show (cQ l[0])[0]? = some (.bool l[0].neg) from rfl))
  have HAB := Lib.hid hAb
  have HR0 := Lib.hid hr
  clear hS hln h0 hAb hr
  go_enter Tryz.func11, Tryz.ntmps11
  go_wp2_with (first | (refine wpList_var rfl rfl 26 3 rfl rfl rfl (.tmp 5) rfl [.bool false, .string ByteArray.empty, .string ByteArray.empty] [.bool false, .string ⟨#[]⟩, .string ⟨#[]⟩] zero_api_Rat rfl rfl rfl size_api_Rat (List.forall_mem_cons.2 ⟨rfl, (List.forall_mem_cons.2 ⟨rfl, (List.forall_mem_cons.2 ⟨rfl, fun _ h => nomatch h⟩)⟩)⟩) ?_; intro w2 HT HBw; replace HZ := Lib.hid (HZ.out.next HBw.out); replace HL := Lib.hid (HL.out.below HBw.out); replace HW := Lib.hid (HW.out.trans (HBw.out.mono HW.out.size)); clear HBw) | (refine wpList_dst 5 rfl ?_; refine wpList_run 5 rfl rfl _ (exec_build0 26 rfl _ (qr_nil _)) ?_; go_frame) | (refine wpList_new rfl 26 rfl [.bool false, .string ⟨#[]⟩, .string ⟨#[]⟩] qr_zero ?_; intro W1 HZ HW; have HL := Lib.hid (RdQ.below HR0.out HW.out); have hg := HZ.out.lt; have HG := Lib.hid hg; clear hg))
  clear HR0
  obtain ⟨g3, hg3⟩ : ∃ g, g = W1.heap.size := ⟨_, rfl⟩
  rw [← hg3] at HT HG ⊢
  clear hg3
  go_loopw [4] (fun iv wr => ∃ k : Nat, iv = .int .i64 k ∧ k ≤ n ∧ Hid (Blk wr g3 26 [.bool (S k).neg, .string (S k).n, .string (S k).d]) ∧ Hid (Blk wr w.heap.size 26 [.bool false, .string ⟨#[]⟩, .string ⟨#[]⟩]) ∧ Hid (RdQ wr A l) ∧ Hid (Below w.heap.size w wr)) (fun iv _ => n - (intOf iv).toNat)
  case atStart => exact ⟨0, rfl, Nat.zero_le _, by rw [H0.out]; exact HT, HZ, HL, HW⟩
  case round =>
    clear HT HZ HL HW
    obtain ⟨k, rfl, hk, HT, HZ, HL, HW⟩ := hrel
    by_cases hlt : k < n
    · have hlt2 : k < l.length := by rw [HLN.out]; exact hlt
      obtain ⟨x, hx⟩ : ∃ x, l[k]? = some x := ⟨l[k], List.getElem?_eq_getElem hlt2⟩
      obtain ⟨b, off, rfl, hrgx⟩ := HL.out.range hlt2
      have F17 := Lib.hid (FS.out k x hx)
      have HXK := Lib.hid hx
      have hwg : w.heap.size < g3 := HG.out
      have hab : ∀ b' off', (some (⟨b, off, none⟩ : Addr)) = some ⟨b', off', none⟩ → l ≠ [] → b' < g3 := fun b' off' e h => Nat.lt_trans (HAB.out b' off' e h) hwg
      obtain ⟨s, hs⟩ : ∃ s, s = S k := ⟨_, rfl⟩
      obtain ⟨s2, hs2⟩ : ∃ s, s = S (k + 1) := ⟨_, rfl⟩
      rw [← hs] at HT F17
      rw [← hs2] at F17
      have HS2 := Lib.hid hs2
      clear hrgx hx hlt2 hs hs2
      go_wp2_with fail
      refine late_begin (S := fun _ W => RdQ W (some ⟨b, off, none⟩) l) (by kernel_rfl) ?_
      have hT0 := HT.out.drew
      have hZ0 := HZ.out.drew
      have hL0 := HL.out.below (Below.refl _ _).drew
      have hW0 := HW.out.drew
      generalize wr.drew = u0 at hT0 hZ0 hL0 hW0 ⊢
      clear HT HZ HL HW
      refine late_take [] (i := 1) (some 13) rfl rfl (by first | rfl | kernel_rfl) (by kernel_rfl) (by kernel_rfl) (by kernel_rfl) (by kernel_rfl) (by kernel_rfl) (fun Ls W h => h) (.slice (some ⟨b, off, none⟩) n c) (fun _ _ _ h => h) (fun Ls W hl0 hW => exec_move (.tmp 0) rfl _ rfl) hL0 hL0 ?_
      go_frame
      refine late_take [] (i := 2) (some 14) rfl rfl (by first | rfl | kernel_rfl) (by kernel_rfl) (by kernel_rfl) (by kernel_rfl) (by kernel_rfl) (by kernel_rfl) (fun Ls W h => h) (.int .i64 k) (fun _ _ _ h => h) (fun Ls W hl0 hW => exec_move (.tmp 4) rfl _ rfl) hL0 hL0 ?_
      go_frame
      refine late_take [] (i := 3) (some 15) rfl rfl (by first | rfl | kernel_rfl) (by kernel_rfl) (by kernel_rfl) (by kernel_rfl) (by kernel_rfl) (by kernel_rfl) (fun Ls W h => h) (.pointer (some ⟨b, off + k * 3, none⟩)) (fun _ _ _ h => h) (fun Ls W hl0 hW => exec_indexAddr 22 (.tmp 13) (.tmp 14) rfl _ _ _ rfl rfl (run_atR b off n c k hlt W)) hL0 hL0 ?_
      go_frame
      refine late_take [] (i := 4) (some 16) rfl rfl (by first | rfl | kernel_rfl) (by kernel_rfl) (by kernel_rfl) (by kernel_rfl) (by kernel_rfl) (by kernel_rfl) (fun Ls W h => h) (rv x) (fun _ _ _ h => h) (fun Ls W hl0 hW => exec_load 26 (.tmp 15) rfl _ (rv x) rfl (run_loadAt_mid W b (off + k * 3) _ [.bool x.neg, .string x.n, .string x.d] _ (rdq_at hW HXK.out) qr_under rfl qr_size)) hL0 hL0 ?_
      go_frame
      refine late_one (i := 0) (by kernel_rfl) (op_value (some 12) rfl rfl rfl (rv s) (exec_load 26 (.tmp 3) rfl _ (rv s) rfl (run_load_part _ 26 _ 0 3 _ [.bool s.neg, .string s.n, .string s.d] _ hT0 (by simp) Tryz.underlying26 rfl qr_size)) ⟨hL0, ?_⟩)
      go_frame
      refine late_one (i := 5) (by kernel_rfl) (op_callG (some 17) rfl rfl (by first | rfl | kernel_rfl) rfl Tryz.func42 (by kernel_rfl) (by kernel_rfl) #[rv s, rv x] rfl (F17.out u0) ?_)
      rintro e u1 ⟨rfl, hb⟩
      have hT1 := hT0.next hb
      have hZ1 := hZ0.next hb
      have hL1 := hL0.below hb
      have hW1 := hW0.trans (hb.mono hW0.size)
      refine ⟨_, rfl, hL1, ?_⟩
      go_frame
      clear hT0 hZ0 hL0 hW0 hb
      refine late_one (i := 6) (by kernel_rfl) (op_store_all rfl rfl rfl 26 (.tmp 3) (.tmp 17) rfl (g3) _ [.bool s.neg, .string s.n, .string s.d] [.bool s2.neg, .string s2.n, .string s2.d] rfl rfl hT1 rfl qr_size (List.forall_mem_cons.2 ⟨rfl, (List.forall_mem_cons.2 ⟨rfl, (List.forall_mem_cons.2 ⟨rfl, fun _ h => nomatch h⟩)⟩)⟩) ?_)
      intro w9 hk9 ho9
      have hT2 := hk9
      have hZ2 := ho9.blk hZ1 (by omega)
      have hL2 := hL1.only9 ho9 hab
      have hW2 := hW1.trans (ho9.below (by omega))
      refine ⟨hL2, ?_⟩
      refine late_done (by kernel_rfl) ?_ _
      go_frame
      clear hT1 hZ1 hL1 hW1 hk9 ho9
      have HT2 := Lib.hid hT2
      have HZ2 := Lib.hid hZ2
      have HL2 := Lib.hid hL2
      have HW2 := Lib.hid hW2
      clear hT2 hZ2 hL2 hW2
      rw [HS2.out] at HT2
      go_wp2_with fail
      go_roundw
      case rel => exact ⟨k + 1, by go_num, by omega, HT2, HZ2, HL2, HW2⟩
      case measure => simp [intOf]; omega
    · obtain rfl : k = n := by omega
      obtain ⟨s, hs⟩ : ∃ s, s = S k := ⟨_, rfl⟩
      rw [← hs] at HT
      go_wp2_with (first | (refine wpList_dst 18 rfl ?_; refine wpList_run 18 rfl rfl _ (exec_load 26 (.tmp 3) rfl _ (rv s) rfl (run_load_part _ 26 _ 0 3 _ [.bool s.neg, .string s.n, .string s.d] _ HT.out (by simp) Tryz.underlying26 rfl qr_size)) ?_; go_frame) | (refine wpList_store_all rfl 26 (.tmp 2) (.tmp 18) rfl (w.heap.size) _ [.bool false, .string ⟨#[]⟩, .string ⟨#[]⟩] [.bool s.neg, .string s.n, .string s.d] rfl rfl HZ.out rfl qr_size (List.forall_mem_cons.2 ⟨rfl, (List.forall_mem_cons.2 ⟨rfl, (List.forall_mem_cons.2 ⟨rfl, fun _ h => nomatch h⟩)⟩)⟩) ?_; intro w9 HK9 ho9; have HO9 := Lib.hid ho9; clear ho9))
      exact bodyPost_ret (results_blk rfl _ _ (w.heap.size) _ [.bool s.neg, .string s.n, .string s.d] _ rfl HK9.out Tryz.underlying26 rfl qr_size) rfl ⟨by rw [← hs]; rfl, HW.out.trans (HO9.out.below (by omega))⟩
theorem rsum5_any (K : Nat) (l : List Rv) (A : Option Addr) (c : Nat) (w : World) (hK2 : K ≤ 20) (hb : l.length ≤ 12) (hs : ∀ x ∈ l, szR K x) (hr : RdQ w A l) :
    Calls Tryz.prog 11 #[.slice A l.length c] w fun e w' => e = .returned (rv (rt (sumQ (l.map valR)))) ∧ Below w.heap.size w w' := by
  have key : ∀ k, k ≤ l.length → Sz (k * 21 + 1) (sumQ ((l.take k).map valR)) := by
    intro k
    induction k with
    | zero => intro _; rw [List.take_zero]; exact ⟨by rw [show cS (sumQ (([] : List Rv).map valR)).num.natAbs = ⟨#[]⟩ from c0]; decide, by rw [show cS (sumQ (([] : List Rv).map valR)).den = ⟨#[1]⟩ from c1]; decide⟩
    | succ k ih =>
      intro hk
      have hlt : k < l.length := by omega
      have e2 : l.take (k + 1) = l.take k ++ [l[k]] := by rw [List.take_add_one, List.getElem?_eq_getElem hlt]; rfl
      rw [e2, List.map_append, sumQ_app, show sumQ ([l[k]].map valR) = valR l[k] from Rat.add_zero _]
      have hx := hs l[k] (List.getElem_mem hlt)
      exact Sz_mono (Sz_add (ih (by omega)) (Sz_val l[k] 20 (by decide) (Nat.le_trans hx.1 hK2) (Nat.le_trans hx.2 hK2))) (by omega)
  have h := rsum_raw A l.length c l (fun k => rt (sumQ ((l.take k).map valR))) w (by omega) rfl hr rt_zero (fun k x hx W => ?_)
  · rwa [List.take_length] at h
  · have hlt : k < l.length := (List.getElem?_eq_some_iff.1 hx).1
    have hx2 : l[k] = x := (List.getElem?_eq_some_iff.1 hx).2
    have e2 : l.take (k + 1) = l.take k ++ [x] := by rw [List.take_add_one, hx]; rfl
    have hsx := hs x (by rw [← hx2]; exact List.getElem_mem hlt)
    have h := radd5_any (rt (sumQ ((l.take k).map valR))) x W (sz_big (sz_rt (key k (by omega))) (by omega)) (sz_big hsx (by omega))
    rw [val_rt] at h
    show Calls _ _ _ W fun e w' => e = .returned (rv (rt (sumQ ((l.take (k + 1)).map valR)))) ∧ Below W.heap.size W w'
    rw [e2, List.map_append, sumQ_app, show sumQ ([x].map valR) = valR x from Rat.add_zero _]
    exact h
end Go.Proofs.YtpmlihhofmblpaaGreatDoor
