/- Contract of add at a string. -/
import Derived.Test.YtoendbdpkkjjkaaDoorHAdd
namespace Go.Proofs.YtoendbdpkkjjkaaDoor
open Go.RowKit Hm

theorem extract_list (s : ByteArray) (k : Nat) : (s.extract k s.size).data.toList = s.data.toList.drop k := by
  rw [ByteArray.data_extract, Array.toList_extract]
  show List.extract _ k _ = _
  rw [List.extract_eq_take_drop, List.take_of_length_le]
  rw [List.length_drop, show s.data.toList.length = s.size from Array.length_toList]
  exact Nat.le_refl _
theorem run_slice_text (s : ByteArray) (k : Nat) (hk : k ≤ s.size) (W : World) :
    (Instr.sliceAt 9 (.string s) (some (.int .i64 k)) none none).run Tryd.prog W = .ok (.string (s.extract k s.size)) W := by
  have hu : Tryd.prog.underlying 9 = some .string := Tryd.underlying9
  simp [Instr.sliceAt, Instr.slice, run_underlying hu, Instr.sliceBounds, run_sliceBound, (by omega : (k : Int) ≤ s.size)]

set_option maxRecDepth 100000 in
set_option maxHeartbeats 4000000 in
theorem addS_any (v : H8) (r m : List UInt8) (s : ByteArray) (w : World) (hst : StOf v r m) (hg : Glob w) (hlen : m.length + s.size ≤ 1099511627776) :
    Calls Tryd.prog 39 #[.agg (smc v r m.length).toArray, .string s] w fun e w' => ∃ v' r', StOf v' r' (m ++ s.data.toList) ∧ e = .returned (.agg (smc v' r' (m ++ s.data.toList).length).toArray) ∧ Below w.heap.size w w' := by
  have hg2 := hg.two
  have HB0 := Lib.hid ((Blk.new w 36 (smc v r m.length)).alloc (.cells zs.toArray 36))
  have HB1 := Lib.hid (Blk.new (w.alloc (.cells (smc v r m.length).toArray 36)) 36 zs)
  have hb2 : Below w.heap.size w ((w.alloc (.cells (smc v r m.length).toArray 36)).alloc (.cells zs.toArray 36)) := ((Below.refl _ _).alloc (Nat.le_refl _) _).alloc (by simp) _
  have HB2 := Lib.hid hb2
  have HG := Lib.hid hg
  have HS := Lib.hid hst
  obtain ⟨t, ht⟩ : ∃ t, s.data.toList = t := ⟨_, rfl⟩
  have hts : t.length = s.size := by rw [← ht]; exact Array.length_toList
  rw [← hts] at hlen
  rw [ht]
  have HT := Lib.hid ht
  have HLEN := Lib.hid hlen
  clear hst hg hlen hb2 ht hts
  go_enter Tryd.func39, Tryd.ntmps39
  go_wp2_with (first | (refine wpList_alloc_zero rfl 36 rfl zs sm_zero ?_))
  go_frame
  rw [size_alloc]
  go_loopw [1] (fun x wr => ∃ (p q : List UInt8) (s1 : ByteArray) (v1 : H8) (r1 : List UInt8), x = .string s1 ∧ Hid (s1.data.toList = q) ∧ Hid (p ++ q = t) ∧ Hid (StOf v1 r1 (m ++ p)) ∧
      Hid (Blk wr w.heap.size 36 (smc v1 r1 (m ++ p).length)) ∧ Hid (Blk wr (w.heap.size + 1) 36 zs) ∧ Hid (Below w.heap.size w wr))
    (fun x _ => sliceLen x)
  case atStart =>
    exact ⟨[], t, s, v, r, rfl, HT.out, rfl, (by show StOf _ _ _; rw [List.append_nil]; exact HS.out), (by show Blk _ _ _ _; rw [List.append_nil]; exact HB0.out), (by have h := HB1.out; rw [size_alloc] at h; exact h : Blk _ _ _ _), HB2.out⟩
  case round =>
    clear HB0 HB1 HB2 HS HT
    obtain ⟨p, q, s1, v1, r1, rfl, HSQ, HPQ, HS, H0, H1, HB⟩ := hrel
    have hsz : s1.size = q.length := by rw [← HSQ.out]; exact (Array.length_toList).symm
    rcases q with _ | ⟨b0, q0⟩
    · have hpt := HPQ.out
      have hs0 : s1.size = 0 := by simpa using hsz
      have hl0 : s1.data.toList = [] := HSQ.out
      clear hsz
      rw [List.append_nil] at hpt
      subst hpt
      go_wp2_with (first | (refine wpList_load_all rfl _ (.tmp 2) rfl w.heap.size _ (smc v1 r1 (m ++ p).length) _ rfl H0.out Tryd.underlying36 rfl (by rw [sm_size, smc_len _ _ _ HS.out.len]) ?_) | (refine wpList_store_all rfl _ (.tmp 4) (.tmp 35) rfl (w.heap.size + 1) _ zs (smc v1 r1 (m ++ p).length) rfl rfl H1.out (by rw [zs_len, smc_len _ _ _ HS.out.len]) (by rw [sm_size, smc_len _ _ _ HS.out.len]) (smc_one _ _ _) ?_; intro w3 HB3 ho3))
      exact bodyPost_ret (results_blk rfl _ _ (w.heap.size + 1) _ (smc v1 r1 (m ++ p).length) _ rfl HB3.out Tryd.underlying36 rfl (by rw [sm_size, smc_len _ _ _ HS.out.len])) rfl ⟨v1, r1, HS.out, rfl, HB.out.trans (ho3.below (by omega))⟩
    · obtain ⟨q, hq⟩ : ∃ q, b0 :: q0 = q := ⟨_, rfl⟩
      rw [hq] at HPQ HSQ hsz
      have hq0 : 0 < q.length := by rw [← hq]; simp
      obtain ⟨M, hM⟩ : ∃ M, m ++ p = M := ⟨_, rfl⟩
      have hML : M.length + q.length ≤ 1099511627776 := by
        have h1 := HLEN.out
        have h2 := congrArg List.length HPQ.out
        have h3 := congrArg List.length hM
        simp at h2 h3; omega
      rw [hM] at HS H0
      have HM := Lib.hid hM
      have HQ := Lib.hid hq
      obtain ⟨k, hk⟩ : ∃ k, M.length % 64 = k := ⟨_, rfl⟩
      have hk64 : k < 64 := by omega
      obtain ⟨j, hj⟩ : ∃ j, min q.length (64 - k) = j := ⟨_, rfl⟩
      obtain ⟨x, hx⟩ : ∃ x, q.take j = x := ⟨_, rfl⟩
      have hxl : x.length = j := by rw [← hx, List.length_take]; omega
      have hj0 : 0 < j := by omega
      have hjq : j ≤ q.length := by omega
      have hjk : k + j ≤ 64 := by omega
      subst hxl
      obtain ⟨s2, hs2⟩ : ∃ s2, s1.extract x.length s1.size = s2 := ⟨_, rfl⟩
      have hS2 : s2.data.toList = q.drop x.length := by rw [← hs2, extract_list, HSQ.out]
      have hsl2 := fun (W : World) => run_slice_text s1 x.length (by omega) W
      rw [hs2] at hsl2
      have hsl := fun (W : World) => run_slice_from 33 64 blk_under W w.heap.size 8 .u64 (k : Int) k rfl hk64
      have hrem : (M.length : Int) % 64 = (k : Int) := by omega
      have hn72 : wr.cell? ⟨w.heap.size, 72, none⟩ = some (.int .u64 M.length) := (H0.out.cell 72).trans (smc_at v1 r1 M.length HS.out.len)
      have hqi : (0 : Int) < (s1.size : Int) := by omega
      have HR1 : Hid (x = s1.data.toList.take x.length) := by show x = _; rw [HSQ.out]; exact hx.symm
      have HS2 := Lib.hid hS2
      obtain ⟨r2, hr2⟩ : ∃ r2, splice r1 k x = r2 := ⟨_, rfl⟩
      have hstep := st_step HS.out x (by omega) hj0
      rw [hk, hr2] at hstep
      have HST := Lib.hid hstep
      have HCP : Hid (splice (smc v1 r1 M.length) (8 + k) (bc x) = smc v1 r2 M.length) := by show _ = _; rw [← hr2]; exact smc_copy v1 r1 x M.length k HS.out.len hjk
      have HX := Lib.hid hx
      have HJ := Lib.hid hj
      have HJ0 := Lib.hid hj0
      have HK := Lib.hid hk
      have HJK := Lib.hid hjk
      have HSTV : Hid (stepV v1 r1 x M.length = if (M.length + x.length) % 64 = 0 then compress v1 r2 else v1) := by show stepV _ _ _ _ = _; unfold stepV; rw [hk, hr2]
      have HMIN : Hid (x.length = Nat.min s1.size (64 - k)) := by show _ = min _ _; omega
      have HSZ := Lib.hid hsz
      clear hx hj hk hM hq hstep hr2 hs2 hS2 hj0 hsz
      by_cases hz : (M.length + x.length) % 64 = 0
      · have hz1 : (((M.length : Int) + (x.length : Int)) % 64 == 0) = true := by rw [beq_iff_eq]; omega
        have hz2 : ((M.length : Int) + (x.length : Int)) % 64 = 0 := by omega
        have HV : Hid (stepV v1 r1 x M.length = compress v1 r2) := by rw [HSTV.out, if_pos hz]; rfl
        clear hz HSTV
        go_wp2_with (first | (refine wpList_copy_text rfl (.tmp 13) (.tmp 14) rfl w.heap.size (8 + k) (64 - k) (64 - k) s1 rfl rfl _ (smc v1 r1 M.length) x H0.out HMIN.out HR1.out (by rw [smc_len _ _ _ HS.out.len]; omega) ?_; intro w2 HB2 ho2; rw [HCP.out] at HB2; have hn2 : w2.cell? ⟨w.heap.size, 72, none⟩ = some (.int .u64 M.length) := (HB2.out.cell 72).trans (smc_at v1 r2 M.length HST.out.len); have hf2 : w2.frozen? ⟨w.heap.size, 72, none⟩ = false := HB2.out.frozen 72; have hs2 : w.heap.size < w2.heap.size := HB2.out.lt; have HB4 := Lib.hid (blk_count HB2.out HST.out.len x.length); have HBB := Lib.hid ((HB.out.trans (ho2.below (Nat.le_refl _))).setCell (p := ⟨w.heap.size, 72, none⟩) (Nat.le_refl w.heap.size) (.int .u64 ((M.length : Int) + (x.length : Int))))) | (refine wpList_load_part rfl _ (.tmp 29) rfl w.heap.size 0 _ (smc v1 r2 (M.length + x.length)) (wc v1.toL) _ rfl HB4.out (smc_take _ _ _) st_under rfl (by rw [st_size, wc_len, H8.toL_len]) ?_) | (refine wpList_load_part rfl _ (.tmp 31) rfl w.heap.size 8 _ (smc v1 r2 (M.length + x.length)) (bc r2) _ rfl HB4.out (smc_rest _ _ _) blk_under rfl (by rw [blk_size, bc_len, HST.out.len]) ?_))
        refine (compress_any v1 r2 _ HST.out.len (HG.out.next HBB.out)).mono ?_
        rintro e w5 ⟨rfl, hb5⟩
        have HB5 := Lib.hid (HB4.out.next hb5)
        have K1 := Lib.hid ((ho2.blk H1.out (by omega)).far (p := ⟨w.heap.size, 72, none⟩) (by show w.heap.size + 1 ≠ w.heap.size; omega) (.int .u64 ((M.length : Int) + (x.length : Int))))
        have K1' := Lib.hid (K1.out.next hb5)
        have KB := Lib.hid (HBB.out.trans (hb5.mono HBB.out.size))
        clear HB2 HB4 ho2 hn2 hf2 hs2 hb5 K1 HBB hsl hsl2
        go_wp2_with (first | (refine wpList_store_part rfl _ (.tmp 34) (.tmp 33) rfl w.heap.size 0 _ (smc v1 r2 (M.length + x.length)) (wc (compress v1 r2).toL) rfl rfl HB5.out (by rw [wc_len, H8.toL_len, smc_len _ _ _ HST.out.len]; omega) (by rw [st_size, wc_len, H8.toL_len]) (wc_one _) ?_; intro w6 HB6 ho6; rw [smc_value] at HB6))
        go_frame
        go_roundw
        case rel =>
          have e := List.take_append_drop x.length q
          rw [HX.out] at e
          have hst := HST.out
          rw [HV.out, ← HM.out, List.append_assoc] at hst
          have hb6 := HB6.out
          rw [show M.length + x.length = (m ++ (p ++ x)).length from by rw [← List.append_assoc, HM.out, List.length_append]] at hb6
          exact ⟨p ++ x, q.drop x.length, s2, compress v1 r2, r2, rfl, HS2.out, (by show _ = _; rw [List.append_assoc, e]; exact HPQ.out), hst,
            hb6, ho6.blk K1'.out (by omega), KB.out.trans (ho6.below (Nat.le_refl _))⟩
        case measure =>
          have h0 := HJ0.out
          have h1 := congrArg List.length HS2.out
          have h2 := HSZ.out
          have h3 : s2.data.toList.length = s2.size := Array.length_toList
          rw [List.length_drop] at h1
          simp only [sliceLen]; omega
      · have hz1 : (((M.length : Int) + (x.length : Int)) % 64 == 0) = false := by rw [beq_eq_false_iff_ne]; omega
        have hz2 : ¬ ((M.length : Int) + (x.length : Int)) % 64 = 0 := by omega
        have HV : Hid (stepV v1 r1 x M.length = v1) := by rw [HSTV.out, if_neg hz]; rfl
        clear hz HSTV
        go_wp2_with (first | (refine wpList_copy_text rfl (.tmp 13) (.tmp 14) rfl w.heap.size (8 + k) (64 - k) (64 - k) s1 rfl rfl _ (smc v1 r1 M.length) x H0.out HMIN.out HR1.out (by rw [smc_len _ _ _ HS.out.len]; omega) ?_; intro w2 HB2 ho2; rw [HCP.out] at HB2; have hn2 : w2.cell? ⟨w.heap.size, 72, none⟩ = some (.int .u64 M.length) := (HB2.out.cell 72).trans (smc_at v1 r2 M.length HST.out.len); have hf2 : w2.frozen? ⟨w.heap.size, 72, none⟩ = false := HB2.out.frozen 72; have hs2 : w.heap.size < w2.heap.size := HB2.out.lt; have HB4 := Lib.hid (blk_count HB2.out HST.out.len x.length); have HBB := Lib.hid ((HB.out.trans (ho2.below (Nat.le_refl _))).setCell (p := ⟨w.heap.size, 72, none⟩) (Nat.le_refl w.heap.size) (.int .u64 ((M.length : Int) + (x.length : Int))))))
        go_roundw
        case rel =>
          have e := List.take_append_drop x.length q
          rw [HX.out] at e
          have hst := HST.out
          rw [HV.out, ← HM.out, List.append_assoc] at hst
          have hb4 := HB4.out
          rw [show M.length + x.length = (m ++ (p ++ x)).length from by rw [← List.append_assoc, HM.out, List.length_append]] at hb4
          exact ⟨p ++ x, q.drop x.length, s2, v1, r2, rfl, HS2.out, (by show _ = _; rw [List.append_assoc, e]; exact HPQ.out), hst,
            hb4, (ho2.blk H1.out (by omega)).far (p := ⟨w.heap.size, 72, none⟩) (by show w.heap.size + 1 ≠ w.heap.size; omega) _, HBB.out⟩
        case measure =>
          have h0 := HJ0.out
          have h1 := congrArg List.length HS2.out
          have h2 := HSZ.out
          have h3 : s2.data.toList.length = s2.size := Array.length_toList
          rw [List.length_drop] at h1
          simp only [sliceLen]; omega
end Go.Proofs.YtoendbdpkkjjkaaDoor
