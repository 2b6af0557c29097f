/- Contract of add at a slice of bytes. -/
import Derived.Test.YtoendbdpkkjjkaaDoorHCopy
namespace Go.Proofs.YtoendbdpkkjjkaaDoor
open Go.RowKit Hm

theorem add_u64w (N j : Nat) (h : N + j < 18446744073709551616) : IntKind.u64.wrap ((N : Int) + (j : Int)) = ((N + j : Nat) : Int) := by rw [IntKind.wrap_u64]; omega

/-- What the parts of a stream are after more bytes. -/
def stepV (v : H8) (r c : List UInt8) (n : Nat) : H8 := if (n + c.length) % 64 = 0 then compress v (splice r (n % 64) c) else v
theorem st_step {v : H8} {r m : List UInt8} (h : StOf v r m) (c : List UInt8) (hc : m.length % 64 + c.length ≤ 64) (h0 : 0 < c.length) : StOf (stepV v r c m.length) (splice r (m.length % 64) c) (m ++ c) := by
  unfold stepV
  by_cases he : m.length % 64 + c.length = 64
  · rw [if_pos (by omega)]; exact h.fill c he
  · rw [if_neg (by omega)]; exact h.more c (by omega)

/-- How long a slice or a text is. -/
def sliceLen : Value → Nat
  | .slice _ n _ => n
  | .string s => s.size
  | _ => 0
theorem blk_count {w : World} {g : Nat} {t : TypeId} {v : H8} {r : List UInt8} {n : Nat} (h : Blk w g t (smc v r n)) (hr : r.length = 64) (k : Nat) :
    Blk (w.setCell ⟨g, 72, none⟩ (.int .u64 ((n : Int) + (k : Int)))) g t (smc v r (n + k)) := by
  have := h.set_ 72 (.int .u64 ((n + k : Nat) : Int))
  rw [smc_size v r n (n + k) hr] at this
  rw [show (n : Int) + (k : Int) = ((n + k : Nat) : Int) from by omega]
  exact this
theorem run_slice_bytes (A : Option Addr) (n c k : Nat) (hk : k ≤ n) (_hn : n ≤ c) (W : World) :
    (Instr.sliceAt 22 (.slice A n c) (some (.int .i64 k)) none none).run Tryd.prog W = .ok (.slice (if c = k then A else A.map (·.add k)) (n - k) (c - k)) W := by
  have hu : Tryd.prog.underlying 22 = some (.slice 5) := Tryd.underlying22
  simp [Instr.sliceAt, Instr.slice, run_underlying hu, Instr.sliceBounds, run_sliceBound, (by omega : (k : Int) ≤ n)]

set_option maxRecDepth 100000 in
set_option maxHeartbeats 4000000 in
theorem addB_any (v : H8) (r m : List UInt8) (A : Option Addr) (c : Nat) (t : List UInt8) (w : World) (hst : StOf v r m) (hg : Glob w) (hr : Rd w A (bc t)) (hc : t.length ≤ c) (hlen : m.length + t.length ≤ 1099511627776) :
    Calls Tryd.prog 35 #[.agg (smc v r m.length).toArray, .slice A t.length c] w fun e w' => ∃ v' r', StOf v' r' (m ++ t) ∧ e = .returned (.agg (smc v' r' (m ++ t).length).toArray) ∧ Below w.heap.size w w' := by
  have hg2 := hg.two
  have HB0 := Lib.hid ((Blk.new w 36 (smc v r m.length)).alloc (.cells zs.toArray 36))
  have HB1 := Lib.hid (Blk.new (w.alloc (.cells (smc v r m.length).toArray 36)) 36 zs)
  have hb2 : Below w.heap.size w ((w.alloc (.cells (smc v r m.length).toArray 36)).alloc (.cells zs.toArray 36)) := ((Below.refl _ _).alloc (Nat.le_refl _) _).alloc (by simp) _
  have HB2 := Lib.hid hb2
  have HG := Lib.hid hg
  have HS := Lib.hid hst
  have HR := Lib.hid hr
  have HC := Lib.hid hc
  have HLEN := Lib.hid hlen
  clear hst hg hr hc hlen hb2
  go_enter Tryd.func35, Tryd.ntmps35
  go_wp2_with (first | (refine wpList_alloc_zero rfl 36 rfl zs sm_zero ?_))
  go_frame
  rw [size_alloc]
  go_loopw [1] (fun x wr => ∃ (p q : List UInt8) (A1 : Option Addr) (c1 : Nat) (v1 : H8) (r1 : List UInt8), x = .slice A1 q.length c1 ∧ Hid (p ++ q = t) ∧ Hid (q.length ≤ c1) ∧ Hid (StOf v1 r1 (m ++ p)) ∧ Hid (Rd w A1 (bc q)) ∧
      Hid (Blk wr w.heap.size 36 (smc v1 r1 (m ++ p).length)) ∧ Hid (Blk wr (w.heap.size + 1) 36 zs) ∧ Hid (Below w.heap.size w wr))
    (fun x _ => sliceLen x)
  case atStart =>
    exact ⟨[], t, A, c, v, r, rfl, rfl, HC.out, (by show StOf _ _ _; rw [List.append_nil]; exact HS.out), HR.out, (by show Blk _ _ _ _; rw [List.append_nil]; exact HB0.out), (by have h := HB1.out; rw [size_alloc] at h; exact h : Blk _ _ _ _), HB2.out⟩
  case round =>
    clear HB0 HB1 HB2 HS HR HC
    obtain ⟨p, q, A1, c1, v1, r1, rfl, HPQ, HC, HS, HR, H0, H1, HB⟩ := hrel
    rcases q with _ | ⟨b0, q0⟩
    · have hpt := HPQ.out
      rw [List.append_nil] at hpt
      subst hpt
      go_wp2_with (first | (refine wpList_load_all rfl _ (.tmp 2) rfl w.heap.size _ (smc v1 r1 (m ++ p).length) _ rfl H0.out Tryd.underlying36 rfl (by rw [sm_size, smc_len _ _ _ HS.out.len]) ?_) | (refine wpList_store_all rfl _ (.tmp 4) (.tmp 35) rfl (w.heap.size + 1) _ zs (smc v1 r1 (m ++ p).length) rfl rfl H1.out (by rw [zs_len, smc_len _ _ _ HS.out.len]) (by rw [sm_size, smc_len _ _ _ HS.out.len]) (smc_one _ _ _) ?_; intro w3 HB3 ho3))
      exact bodyPost_ret (results_blk rfl _ _ (w.heap.size + 1) _ (smc v1 r1 (m ++ p).length) _ rfl HB3.out Tryd.underlying36 rfl (by rw [sm_size, smc_len _ _ _ HS.out.len])) rfl ⟨v1, r1, HS.out, rfl, HB.out.trans (ho3.below (by omega))⟩
    · obtain ⟨q, hq⟩ : ∃ q, b0 :: q0 = q := ⟨_, rfl⟩
      rw [hq] at HPQ HC HR ⊢
      have hq0 : 0 < q.length := by rw [← hq]; simp
      obtain ⟨M, hM⟩ : ∃ M, m ++ p = M := ⟨_, rfl⟩
      have hML : M.length + q.length ≤ 1099511627776 := by
        have h1 := HLEN.out
        have h2 := congrArg List.length HPQ.out
        have h3 := congrArg List.length hM
        simp at h2 h3; omega
      rw [hM] at HS H0
      have HM := Lib.hid hM
      have HQ := Lib.hid hq
      obtain ⟨k, hk⟩ : ∃ k, M.length % 64 = k := ⟨_, rfl⟩
      have hk64 : k < 64 := by omega
      obtain ⟨j, hj⟩ : ∃ j, min q.length (64 - k) = j := ⟨_, rfl⟩
      obtain ⟨x, hx⟩ : ∃ x, q.take j = x := ⟨_, rfl⟩
      have hxl : x.length = j := by rw [← hx, List.length_take]; omega
      have hj0 : 0 < j := by omega
      have hjq : j ≤ q.length := by omega
      have hjk : k + j ≤ 64 := by omega
      subst hxl
      have hcc := HC.out
      obtain ⟨A2, hA2⟩ : ∃ A2, (if c1 = x.length then A1 else A1.map (·.add x.length)) = A2 := ⟨_, rfl⟩
      have hR2 : Rd w A2 (bc (q.drop x.length)) := by
        rw [bc_drop, ← hA2]
        exact HR.out.cut (by rw [bc_len]; exact hcc)
      have hsl := fun (W : World) => run_slice_from 33 64 blk_under W w.heap.size 8 .u64 (k : Int) k rfl hk64
      have hsl2 := fun (W : World) => run_slice_bytes A1 q.length c1 x.length hjq hcc W
      rw [hA2] at hsl2
      have hrem : (M.length : Int) % 64 = (k : Int) := by omega
      have hn72 : wr.cell? ⟨w.heap.size, 72, none⟩ = some (.int .u64 M.length) := (H0.out.cell 72).trans (smc_at v1 r1 M.length HS.out.len)
      have hqi : (0 : Int) < (q.length : Int) := by omega
      have HR1 : Hid (Rd wr A1 (bc x)) := by rw [← hx, bc_take]; exact (HR.out.take _).below HB.out
      have HR2 := Lib.hid hR2
      obtain ⟨r2, hr2⟩ : ∃ r2, splice r1 k x = r2 := ⟨_, rfl⟩
      have hstep := st_step HS.out x (by omega) hj0
      rw [hk, hr2] at hstep
      have HST := Lib.hid hstep
      have HCP : Hid (splice (smc v1 r1 M.length) (8 + k) (bc x) = smc v1 r2 M.length) := by show _ = _; rw [← hr2]; exact smc_copy v1 r1 x M.length k HS.out.len hjk
      have HX := Lib.hid hx
      have HJ := Lib.hid hj
      have HJ0 := Lib.hid hj0
      have HK := Lib.hid hk
      have HJK := Lib.hid hjk
      have HA2 := Lib.hid hA2
      have HSTV : Hid (stepV v1 r1 x M.length = if (M.length + x.length) % 64 = 0 then compress v1 r2 else v1) := by show stepV _ _ _ _ = _; unfold stepV; rw [hk, hr2]
      have HXN : Hid (x ≠ []) := by intro e; rw [e] at hj0; simp at hj0
      have HMIN : Hid (x.length = Nat.min q.length (64 - k)) := by show _ = min _ _; omega
      clear hx hj hk hM hq hstep hr2 hA2 hR2 hj0 HR
      by_cases hz : (M.length + x.length) % 64 = 0
      · have hz1 : (((M.length : Int) + (x.length : Int)) % 64 == 0) = true := by rw [beq_iff_eq]; omega
        have hz2 : ((M.length : Int) + (x.length : Int)) % 64 = 0 := by omega
        have HV : Hid (stepV v1 r1 x M.length = compress v1 r2) := by rw [HSTV.out, if_pos hz]; rfl
        clear hz HSTV
        go_wp2_with (first | (refine wpList_copy_bytes rfl (.tmp 13) (.tmp 14) rfl w.heap.size (8 + k) (64 - k) (64 - k) A1 q.length c1 rfl rfl _ (smc v1 r1 M.length) x H0.out HMIN.out HXN.out HR1.out (by rw [smc_len _ _ _ HS.out.len]; omega) ?_; intro w2 HB2 ho2; rw [HCP.out] at HB2; have hn2 : w2.cell? ⟨w.heap.size, 72, none⟩ = some (.int .u64 M.length) := (HB2.out.cell 72).trans (smc_at v1 r2 M.length HST.out.len); have hf2 : w2.frozen? ⟨w.heap.size, 72, none⟩ = false := HB2.out.frozen 72; have hs2 : w.heap.size < w2.heap.size := HB2.out.lt; have HB4 := Lib.hid (blk_count HB2.out HST.out.len x.length); have HBB := Lib.hid ((HB.out.trans (ho2.below (Nat.le_refl _))).setCell (p := ⟨w.heap.size, 72, none⟩) (Nat.le_refl w.heap.size) (.int .u64 ((M.length : Int) + (x.length : Int))))) | (refine wpList_load_part rfl _ (.tmp 29) rfl w.heap.size 0 _ (smc v1 r2 (M.length + x.length)) (wc v1.toL) _ rfl HB4.out (smc_take _ _ _) st_under rfl (by rw [st_size, wc_len, H8.toL_len]) ?_) | (refine wpList_load_part rfl _ (.tmp 31) rfl w.heap.size 8 _ (smc v1 r2 (M.length + x.length)) (bc r2) _ rfl HB4.out (smc_rest _ _ _) blk_under rfl (by rw [blk_size, bc_len, HST.out.len]) ?_))
        refine (compress_any v1 r2 _ HST.out.len (HG.out.next HBB.out)).mono ?_
        rintro e w5 ⟨rfl, hb5⟩
        have HB5 := Lib.hid (HB4.out.next hb5)
        have K1 := Lib.hid ((ho2.blk H1.out (by omega)).far (p := ⟨w.heap.size, 72, none⟩) (by show w.heap.size + 1 ≠ w.heap.size; omega) (.int .u64 ((M.length : Int) + (x.length : Int))))
        have K1' := Lib.hid (K1.out.next hb5)
        have KB := Lib.hid (HBB.out.trans (hb5.mono HBB.out.size))
        clear HB2 HB4 ho2 hn2 hf2 hs2 hb5 K1 HBB hsl hsl2
        go_wp2_with (first | (refine wpList_store_part rfl _ (.tmp 34) (.tmp 33) rfl w.heap.size 0 _ (smc v1 r2 (M.length + x.length)) (wc (compress v1 r2).toL) rfl rfl HB5.out (by rw [wc_len, H8.toL_len, smc_len _ _ _ HST.out.len]; omega) (by rw [st_size, wc_len, H8.toL_len]) (wc_one _) ?_; intro w6 HB6 ho6; rw [smc_value] at HB6))
        go_frame
        go_roundw
        case rel =>
          have e := List.take_append_drop x.length q
          rw [HX.out] at e
          have hst := HST.out
          rw [HV.out, ← HM.out, List.append_assoc] at hst
          have hb6 := HB6.out
          rw [show M.length + x.length = (m ++ (p ++ x)).length from by rw [← List.append_assoc, HM.out, List.length_append]] at hb6
          exact ⟨p ++ x, q.drop x.length, A2, c1 - x.length, compress v1 r2, r2, by rw [List.length_drop], (by show _ = _; rw [List.append_assoc, e]; exact HPQ.out), (by show _ ≤ _; rw [List.length_drop]; have := HC.out; omega), hst,
            HR2.out, hb6, ho6.blk K1'.out (by omega), KB.out.trans (ho6.below (Nat.le_refl _))⟩
        case measure => have := HJ0.out; simp only [sliceLen]; omega
      · have hz1 : (((M.length : Int) + (x.length : Int)) % 64 == 0) = false := by rw [beq_eq_false_iff_ne]; omega
        have hz2 : ¬ ((M.length : Int) + (x.length : Int)) % 64 = 0 := by omega
        have HV : Hid (stepV v1 r1 x M.length = v1) := by rw [HSTV.out, if_neg hz]; rfl
        clear hz HSTV
        go_wp2_with (first | (refine wpList_copy_bytes rfl (.tmp 13) (.tmp 14) rfl w.heap.size (8 + k) (64 - k) (64 - k) A1 q.length c1 rfl rfl _ (smc v1 r1 M.length) x H0.out HMIN.out HXN.out HR1.out (by rw [smc_len _ _ _ HS.out.len]; omega) ?_; intro w2 HB2 ho2; rw [HCP.out] at HB2; have hn2 : w2.cell? ⟨w.heap.size, 72, none⟩ = some (.int .u64 M.length) := (HB2.out.cell 72).trans (smc_at v1 r2 M.length HST.out.len); have hf2 : w2.frozen? ⟨w.heap.size, 72, none⟩ = false := HB2.out.frozen 72; have hs2 : w.heap.size < w2.heap.size := HB2.out.lt; have HB4 := Lib.hid (blk_count HB2.out HST.out.len x.length); have HBB := Lib.hid ((HB.out.trans (ho2.below (Nat.le_refl _))).setCell (p := ⟨w.heap.size, 72, none⟩) (Nat.le_refl w.heap.size) (.int .u64 ((M.length : Int) + (x.length : Int))))))
        go_roundw
        case rel =>
          have e := List.take_append_drop x.length q
          rw [HX.out] at e
          have hst := HST.out
          rw [HV.out, ← HM.out, List.append_assoc] at hst
          have hb4 := HB4.out
          rw [show M.length + x.length = (m ++ (p ++ x)).length from by rw [← List.append_assoc, HM.out, List.length_append]] at hb4
          exact ⟨p ++ x, q.drop x.length, A2, c1 - x.length, v1, r2, by rw [List.length_drop], (by show _ = _; rw [List.append_assoc, e]; exact HPQ.out), (by show _ ≤ _; rw [List.length_drop]; have := HC.out; omega), hst,
            HR2.out, hb4, (ho2.blk H1.out (by omega)).far (p := ⟨w.heap.size, 72, none⟩) (by show w.heap.size + 1 ≠ w.heap.size; omega) _, HBB.out⟩
        case measure => have := HJ0.out; simp only [sliceLen]; omega
end Go.Proofs.YtoendbdpkkjjkaaDoor
