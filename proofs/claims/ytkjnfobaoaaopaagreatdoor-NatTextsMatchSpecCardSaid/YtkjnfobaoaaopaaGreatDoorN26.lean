/- leading. -/
import Derived.Test.YtkjnfobaoaaopaaGreatDoorN25
namespace Go.Proofs.YtkjnfobaoaaopaaGreatDoor
open Go.RowKit Hm Wm Wn

theorem lead_lt {x1 x0 s : Nat} (hs : s ≤ 63) (h0 : x0 < B) (hb : x1 * 2 ^ s < B) : x1 * 2 ^ s + x0 / 2 ^ (64 - s) < B := by
  have e := dn_two (s := s) (by omega)
  have hl := (dv_low hs h0).1
  have h3 : x1 < 2 ^ (64 - s) := by
    refine Nat.lt_of_mul_lt_mul_right (a := 2 ^ s) ?_
    rw [Nat.mul_comm (2 ^ (64 - s)), e]; exact hb
  have h4 : (x1 + 1) * 2 ^ s ≤ 2 ^ (64 - s) * 2 ^ s := Nat.mul_le_mul_right _ h3
  rw [Nat.mul_comm (2 ^ (64 - s)), e, Nat.succ_mul] at h4
  omega
theorem rd_at {W : World} {b off k v : Nat} {l : List Nat} (h : RdW W (some ⟨b, off, none⟩) l) (hv : l[k]? = some v) : W.cell? ⟨b, off + k, none⟩ = some (.int .u64 (v : Int)) := by
  have h1 : (ws l)[k]? = some (.int .u64 (v : Int)) := by unfold ws; rw [List.getElem?_map, hv]; rfl
  obtain ⟨b2, off2, e, hc⟩ := Rd.at_ h h1
  cases e
  exact hc
theorem int_size : (Tryz.prog.info? 3).map (·.size) = some 1 := by kernel_rfl
theorem int_zero : (Tryz.prog.info? 3).map (·.zero) = some (some (.int .i64 0)) := by kernel_rfl
theorem opV_alloc {P : Program} {Q : Exit → Act → World → Prop} {oi : Oper} {a : Act} {w : World} {K : Act → World → Prop} (d : Option Tmp) (hd : oi.dst = d) (t : TypeId) (ho : oi.op = .alloc t) (z : Value) (hz : (P.info? t).map (·.zero) = some (some z)) (hc : z.cells = #[z])
    (h : K (a.put d (.pointer (some ⟨w.heap.size, 0, none⟩))) (w.alloc (.cells [z].toArray t))) : oi.wp P a w K Q := by
  subst hd
  have hrun : (Instr.alloc t true (.tuple #[])).run P w = .ok (.pointer (some ⟨w.heap.size, 0, none⟩)) (w.alloc (.cells [z].toArray t)) := by
    cases hq : P.info? t with
    | none => simp [hq] at hz
    | some i =>
      have hzz : i.zero = some z := by simpa [hq] using hz
      have hzv : ∀ W, (zeroValue t).run P W = .ok z W := fun W => by simp [zeroValue, typeInfo, hq, hzz]
      simp only [Instr.alloc, Sem.run_bind, hzv, Result.andThen_ok]
      simp [newVar, newRow, hc]
  unfold Oper.wp execOp
  simp only [ho, Sem.run_bind, hrun, Result.andThen_ok]
  exact h
theorem run_orO (x y z : Nat) (w : World) (hx : x < B) (hy : y < B) (hz : x ||| y = z) : (binOp .or 53 (.int .u64 x) (.int .u64 y)).run Tryz.prog w = .ok (.int .u64 (z : Int)) w := by
  have h1 : bits .or .u64 (x : Int) (y : Int) = (z : Int) := by
    unfold B at hx hy
    rw [bits_or_u64_nat x y (by omega) (by omega), hz]
  simp [binOp, go_sem]
  exact h1
set_option maxRecDepth 100000 in
set_option maxHeartbeats 400000 in
theorem leading_any (A : Option Addr) (c N : Nat) (A2 : Option Addr) (c2 M : Nat) (w : World) (hr : RdW w A (digW N)) (hr2 : RdW w A2 (digW M)) (hn : 2 ≤ (digW N).length) (hl : (digW N).length ≤ 100000) (hm : (digW M).length ≤ (digW N).length) :
    Calls Tryz.prog 44 #[.slice A (digW N).length c, .slice A2 (digW M).length c2] w fun e w' => ∃ K, 0 < K ∧ N / K < B ∧ M / K < B ∧ e = .returned (.tuple #[.int .u64 (N / K : Nat), .int .u64 (M / K : Nat)]) ∧ Below w.heap.size w w' := by
  have hN0 : N ≠ 0 := fun h => by rw [h, digW_zero] at hn; simp at hn
  obtain ⟨x1, ht, ht0, htB⟩ := digW_top hN0
  have hNlt := digW_lt N
  have hMlt : M < B ^ (digW N).length := Nat.lt_of_lt_of_le (digW_lt M) (Nat.pow_le_pow_right B_pos hm)
  obtain ⟨n, hne⟩ : ∃ n, (digW N).length = n := ⟨_, rfl⟩
  rw [hne] at hn hl hm ht hNlt hMlt
  have hx1 : (digW N).getD (n - 1) 0 = x1 := by rw [List.getD_eq_getElem?_getD, ht]; rfl
  have hget : ∀ (Z k : Nat), (digW Z).getD k 0 < B := fun Z k => by rw [digW_getD]; exact Nat.mod_lt _ B_pos
  obtain ⟨y1, hy1⟩ : ∃ y, (digW M).getD (n - 1) 0 = y := ⟨_, rfl⟩
  have hy1B : y1 < B := by rw [← hy1]; exact hget _ _
  obtain ⟨q, hq⟩ : ∃ q, x1 ||| y1 = q := ⟨_, rfl⟩
  have hqB : q < B := by rw [← hq]; exact Nat.or_lt_two_pow (n := 64) htB hy1B
  have hxq : x1 ≤ q := by rw [← hq]; exact Nat.left_le_or
  have hyq : y1 ≤ q := by rw [← hq]; exact Nat.right_le_or
  obtain ⟨s, hs0, hs, hb1, hb2⟩ := lz_bounds (y := q) (by omega) hqB
  have hLZ := fun W => Tryz.bits_LeadingZeros64 (q : Int) W (by omega) (by unfold B at hqB; omega)
  rw [Int.toNat_natCast, hs0] at hLZ
  have hxs : x1 * 2 ^ s < B := Nat.lt_of_le_of_lt (Nat.mul_le_mul_right _ hxq) hb2
  have hys : y1 * 2 ^ s < B := Nat.lt_of_le_of_lt (Nat.mul_le_mul_right _ hyq) hb2
  have e1 := top_digits hn hs hNlt
  have e2 := top_digits hn hs hMlt
  have hK : 0 < B ^ (n - 2) * 2 ^ (64 - s) := Nat.mul_pos (Nat.pow_pos B_pos) (Nat.two_pow_pos _)
  have l1 := lead_lt hs (hget N (n - 2)) hxs
  have l2 := lead_lt hs (hget M (n - 2)) hys
  have HA1 := Lib.hid (fun gn gs W h h1 h2 => at_any A c (digW N) n s gn gs W h (dig_digW N) hn hl hs (by rw [hx1]; exact hxs) h1 h2)
  have HA2 := Lib.hid (fun gn gs W h h1 h2 => at_any A2 c2 (digW M) n s gn gs W h (dig_digW M) hn hl hs (by rw [hy1]; exact hys) h1 h2)
  rw [← e1, hne] at HA1
  rw [← e2] at HA2
  rw [← hx1, ← e1] at l1
  rw [← hy1, ← e2] at l2
  have HDG := Lib.hid (fun W h => digit_any A2 c2 (digW M) (n - 1) W h)
  rw [hy1] at HDG
  have HOR := Lib.hid (fun W => run_orO x1 y1 q W htB hy1B hq)
  have HLZ := Lib.hid hLZ
  obtain ⟨X, hX⟩ : ∃ X, N / (B ^ (n - 2) * 2 ^ (64 - s)) = X := ⟨_, rfl⟩
  obtain ⟨Y, hY⟩ : ∃ Y, M / (B ^ (n - 2) * 2 ^ (64 - s)) = Y := ⟨_, rfl⟩
  rw [hX] at HA1 l1
  rw [hY] at HA2 l2
  obtain ⟨b, off, rfl, -⟩ := hr.cell (k := n - 1) (by omega)
  have HR := Lib.hid hr
  have HR2 := Lib.hid hr2
  have HT := Lib.hid ht
  have HE := Lib.hid (show ∃ K, 0 < K ∧ N / K < B ∧ M / K < B ∧ N / K = X ∧ M / K = Y from ⟨_, hK, by rw [hX]; exact l1, by rw [hY]; exact l2, hX, hY⟩)
  clear hr hr2 hN0 ht ht0 htB hNlt hMlt hget hy1B hq hqB hxq hyq hs0 hb1 hb2 hLZ hxs hys e1 e2 hK l1 l2 hX hY hm hy1 hx1 hs
  obtain ⟨m, hme⟩ : ∃ m, (digW M).length = m := ⟨_, rfl⟩
  rw [hne, hme]
  rw [hme] at HA2 HDG
  have HME := Lib.hid hme
  have HNE := Lib.hid hne
  clear hme hne
  go_enter Tryz.func44, Tryz.ntmps44
  go_wp2
  have hG0 := Blk.new w 3 [.int .i64 n]
  have hR1 : RdW (w.alloc (.cells #[.int .i64 n] 3)) (some ⟨b, off, none⟩) (digW N) := HR.out.next ((Below.refl _ _).alloc (Nat.le_refl _) _)
  have hR2 : RdW (w.alloc (.cells #[.int .i64 n] 3)) A2 (digW M) := HR2.out.next ((Below.refl _ _).alloc (Nat.le_refl _) _)
  have hW1 : Below w.heap.size w (w.alloc (.cells #[.int .i64 n] 3)) := (Below.refl _ _).alloc (Nat.le_refl _) _
  have hlt0 := hG0.lt
  obtain ⟨g6, hg6⟩ : ∃ g, w.heap.size = g := ⟨_, rfl⟩
  rw [hg6] at hG0 hlt0 ⊢
  have HG6 := Lib.hid hg6
  clear hg6
  generalize w.alloc (.cells #[.int .i64 n] 3) = w1 at hG0 hR1 hR2 hW1 hlt0 ⊢
  refine late_begin (S := TillQ 12 (fun W => Blk W g6 3 [.int .i64 n] ∧ RdW W (some ⟨b, off, none⟩) (digW N) ∧ RdW W A2 (digW M) ∧ Below w.heap.size w W)) (by kernel_rfl) ?_
  have hS1 : Blk w1.drew g6 3 [.int .i64 n] ∧ RdW w1.drew (some ⟨b, off, none⟩) (digW N) ∧ RdW w1.drew A2 (digW M) ∧ Below w.heap.size w w1.drew := ⟨hG0, hR1, hR2, hW1.drew⟩
  have hlt1 : g6 < w1.drew.heap.size := hlt0
  clear hG0 hR1 hR2 hW1 hlt0
  generalize w1.drew = u0 at hS1 hlt1 ⊢
  have hS0 : ∀ {L}, TillQ 12 (fun W => Blk W g6 3 [.int .i64 n] ∧ RdW W (some ⟨b, off, none⟩) (digW N) ∧ RdW W A2 (digW M) ∧ Below w.heap.size w W) L u0 := fun _ => hS1
  refine late_take [12] (i := 0) (some 11) rfl rfl rfl (by kernel_rfl) (by kernel_rfl) (by kernel_rfl) (by kernel_rfl) (by kernel_rfl) (fun Ls W h => h.off (by decide)) (.slice (some ⟨b, off, none⟩) n c) (fun _ _ _ h => h) (fun Ls W hl0 hW => exec_move (.tmp 0) rfl _ rfl) hS0 hS0 ?_
  go_frame
  refine late_take [12] (i := 1) (some 12) rfl rfl rfl (by kernel_rfl) (by kernel_rfl) (by kernel_rfl) (by kernel_rfl) (by kernel_rfl) (fun Ls W h => h.off (by decide)) (.int .i64 n) (fun _ _ _ h => h) (fun Ls W hl0 hW => exec_loadI (.tmp 6) rfl _ rfl ((hW (hl0 12 (by simp))).1.cell 0)) hS0 hS0 ?_
  go_frame
  refine late_take [12] (i := 2) (some 13) rfl rfl rfl (by kernel_rfl) (by kernel_rfl) (by kernel_rfl) (by kernel_rfl) (by kernel_rfl) (fun Ls W h => h.off (by decide)) (.int .i64 ((n - 1 : Nat) : Int)) (fun _ _ _ h => h) (fun Ls W hl0 hW => exec_bin .sub 3 _ (.tmp 12) (.const (.int .i64 1)) rfl _ _ _ rfl rfl rfl (run_sub1I n (by omega) (by omega) W)) hS0 hS0 ?_
  go_frame
  refine late_take [12] (i := 3) (some 14) rfl rfl rfl (by kernel_rfl) (by kernel_rfl) (by kernel_rfl) (by kernel_rfl) (by kernel_rfl) (fun Ls W h => h.off (by decide)) (.pointer (some ⟨b, off + (n - 1), none⟩)) (fun _ _ _ h => h) (fun Ls W hl0 hW => exec_atW (.tmp 11) (.tmp 13) rfl b off n c (n - 1) (by omega) rfl rfl) hS0 hS0 ?_
  go_frame
  refine late_take [12] (i := 4) (some 15) rfl rfl rfl (by kernel_rfl) (by kernel_rfl) (by kernel_rfl) (by kernel_rfl) (by kernel_rfl) (fun Ls W h => h.off (by decide)) (.int .u64 (x1 : Int)) (fun _ _ _ h => h) (fun Ls W hl0 hW => exec_loadW (.tmp 14) rfl x1 rfl (rd_at (hW (hl0 12 (by simp))).2.1 HT.out)) hS0 hS0 ?_
  go_frame
  refine late_take [12] (i := 5) (some 16) rfl rfl rfl (by kernel_rfl) (by kernel_rfl) (by kernel_rfl) (by kernel_rfl) (by kernel_rfl) (fun Ls W h => h.off (by decide)) (.slice A2 m c2) (fun _ _ _ h => h) (fun Ls W hl0 hW => exec_move (.tmp 1) rfl _ rfl) hS0 hS0 ?_
  go_frame
  refine late_take [12] (i := 6) (some 17) rfl rfl rfl (by kernel_rfl) (by kernel_rfl) (by kernel_rfl) (by kernel_rfl) (by kernel_rfl) (fun Ls W h => h.off (by decide)) (.int .i64 n) (fun _ _ _ h => h) (fun Ls W hl0 hW => exec_loadI (.tmp 6) rfl _ rfl ((hW (hl0 12 (by simp))).1.cell 0)) hS0 hS0 ?_
  go_frame
  refine late_take [12] (i := 7) (some 18) rfl rfl rfl (by kernel_rfl) (by kernel_rfl) (by kernel_rfl) (by kernel_rfl) (by kernel_rfl) (fun Ls W h => h.off (by decide)) (.int .i64 ((n - 1 : Nat) : Int)) (fun _ _ _ h => h) (fun Ls W hl0 hW => exec_bin .sub 3 _ (.tmp 17) (.const (.int .i64 1)) rfl _ _ _ rfl rfl rfl (run_sub1I n (by omega) (by omega) W)) hS0 hS0 ?_
  go_frame
  refine late_two (i := 8) (j := 11) (by kernel_rfl) ?_ ?_
  · refine op_call (some 19) rfl rfl rfl rfl Tryz.func46 (by kernel_rfl) (by kernel_rfl) #[.slice A2 m c2, .int .i64 ((n - 1 : Nat) : Int)] rfl (HDG.out u0 hS1.2.2.1) ?_
    rintro e ux ⟨rfl, hw⟩
    obtain rfl : u0 = ux := hw.symm
    clear hw
    refine ⟨_, rfl, fun _ => hS1, ?_⟩
    go_frame
    refine late_take [12] (i := 9) (some 20) rfl rfl rfl (by kernel_rfl) (by kernel_rfl) (by kernel_rfl) (by kernel_rfl) (by kernel_rfl) (fun Ls W h => h.off (by decide)) (.int .u64 (q : Int)) (fun _ _ _ h => h) (fun Ls W hl0 hW => exec_bin .or 53 _ (.tmp 15) (.tmp 19) rfl _ _ _ rfl rfl rfl (HOR.out W)) hS0 hS0 ?_
    go_frame
    refine late_two (i := 10) (j := 11) (by kernel_rfl) ?_ ?_
    · refine op_call (some 21) rfl rfl rfl rfl Tryz.func57 (by kernel_rfl) (by kernel_rfl) #[.int .u64 (q : Int)] rfl (HLZ.out u0) ?_
      rintro e ux ⟨rfl, hw⟩
      obtain rfl : u0 = ux := hw.symm
      clear hw
      refine ⟨_, rfl, fun _ => hS1, ?_⟩
      go_frame
      refine late_one (i := 11) (by kernel_rfl) (op_wp rfl rfl (opV_alloc (some 7) rfl 3 rfl (.int .i64 0) int_zero rfl ⟨fun _ => ⟨hS1.1.alloc _, hS1.2.1.next ((Below.refl _ _).alloc (Nat.le_refl _) _), hS1.2.2.1.next ((Below.refl _ _).alloc (Nat.le_refl _) _), hS1.2.2.2.alloc hS1.2.2.2.size _⟩, ?_⟩))
      go_frame
      have hS2 : Blk (u0.alloc (.cells #[.int .i64 0] 3)) g6 3 [.int .i64 n] ∧ RdW (u0.alloc (.cells #[.int .i64 0] 3)) (some ⟨b, off, none⟩) (digW N) ∧ RdW (u0.alloc (.cells #[.int .i64 0] 3)) A2 (digW M) ∧ Below w.heap.size w (u0.alloc (.cells #[.int .i64 0] 3)) := ⟨hS1.1.alloc _, hS1.2.1.next ((Below.refl _ _).alloc (Nat.le_refl _) _), hS1.2.2.1.next ((Below.refl _ _).alloc (Nat.le_refl _) _), hS1.2.2.2.alloc hS1.2.2.2.size _⟩
      have hN7 := Blk.new u0 3 [.int .i64 0]
      obtain ⟨g7, hg7⟩ : ∃ g, u0.heap.size = g := ⟨_, rfl⟩
      rw [hg7] at hN7 hlt1 ⊢
      have hge : w.heap.size ≤ g7 := by rw [← hg7]; exact hS1.2.2.2.size
      clear hS0 hS1 hg7
      generalize u0.alloc (.cells [.int .i64 0].toArray 3) = u5 at hN7 hS2 ⊢
      have hS1 := hS2
      clear hS2
      have hS0 : ∀ {L}, TillQ 12 (fun W => Blk W g6 3 [.int .i64 n] ∧ RdW W (some ⟨b, off, none⟩) (digW N) ∧ RdW W A2 (digW M) ∧ Below w.heap.size w W) L u5 := fun _ => hS1
      refine late_one (i := 12) (by kernel_rfl) (op_wp rfl rfl (wp_store_var 3 (.tmp 7) (.tmp 21) rfl g7 _ (.int .i64 0) (.int .i64 s) rfl rfl hN7 int_size rfl rfl (fun w6 hk6 ho6 => ⟨fun h => absurd h (by decide), late_done (by kernel_rfl) ?_ _⟩)))
      go_frame
      have hc6 : w6.cell? ⟨g6, 0, none⟩ = some (.int .i64 (n : Int)) := (ho6.blk hS1.1 (by omega)).cell 0
      have hc7 : w6.cell? ⟨g7, 0, none⟩ = some (.int .i64 (s : Int)) := hk6.cell 0
      have hW6 := hS1.2.2.2.trans (ho6.below hge)
      have HR6 := Lib.hid (HR.out.next hW6)
      have HR7 := Lib.hid (HR2.out.next hW6)
      have HC6 := Lib.hid (And.intro (ho6.blk hS1.1 (by omega)) hk6)
      have HW6 := Lib.hid hW6
      clear hS0 hS1 hN7 hc6 hc7 hW6 hk6 ho6
      go_wp2_with (first
        | (refine wpList_dst 25 rfl ?_; refine wpList_call_val rfl (.tmp 23) rfl rfl Tryz.func68 (by kernel_rfl) (by kernel_rfl) #[.slice (some ⟨b, off, none⟩) n c, .pointer (some ⟨g6, 0, none⟩), .pointer (some ⟨g7, 0, none⟩)] rfl (HA1.out g6 g7 _ HR6.out (HC6.out.1.cell 0) (HC6.out.2.cell 0)) ?_; rintro e w7 ⟨rfl, hb7⟩; refine ⟨_, rfl, ?_⟩; have HB7 := Lib.hid hb7; clear hb7)
        | (refine wpList_dst 28 rfl ?_; refine wpList_call_val rfl (.tmp 26) rfl rfl Tryz.func68 (by kernel_rfl) (by kernel_rfl) #[.slice A2 m c2, .pointer (some ⟨g6, 0, none⟩), .pointer (some ⟨g7, 0, none⟩)] rfl (HA2.out g6 g7 _ (HR7.out.next HB7.out) ((HC6.out.1.next HB7.out).cell 0) ((HC6.out.2.next HB7.out).cell 0)) ?_; rintro e w8 ⟨rfl, hb8⟩; refine ⟨_, rfl, ?_⟩; have HB8 := Lib.hid hb8; clear hb8))
      go_ret2
      obtain ⟨K, k1, k2, k3, k4, k5⟩ := HE.out
      exact ⟨K, k1, k2, k3, by rw [k4, k5]; rfl, (HW6.out.trans (HB7.out.mono HW6.out.size)).trans (HB8.out.mono (Nat.le_trans HW6.out.size HB7.out.size))⟩
    · refine op_wp rfl rfl (opV_alloc (some 7) rfl 3 rfl (.int .i64 0) int_zero rfl ⟨fun _ => ⟨hS1.1.alloc _, hS1.2.1.next ((Below.refl _ _).alloc (Nat.le_refl _) _), hS1.2.2.1.next ((Below.refl _ _).alloc (Nat.le_refl _) _), hS1.2.2.2.alloc hS1.2.2.2.size _⟩, ?_⟩)
      go_frame
      have hS2 : Blk (u0.alloc (.cells #[.int .i64 0] 3)) g6 3 [.int .i64 n] ∧ RdW (u0.alloc (.cells #[.int .i64 0] 3)) (some ⟨b, off, none⟩) (digW N) ∧ RdW (u0.alloc (.cells #[.int .i64 0] 3)) A2 (digW M) ∧ Below w.heap.size w (u0.alloc (.cells #[.int .i64 0] 3)) := ⟨hS1.1.alloc _, hS1.2.1.next ((Below.refl _ _).alloc (Nat.le_refl _) _), hS1.2.2.1.next ((Below.refl _ _).alloc (Nat.le_refl _) _), hS1.2.2.2.alloc hS1.2.2.2.size _⟩
      have hN7 := Blk.new u0 3 [.int .i64 0]
      obtain ⟨g7, hg7⟩ : ∃ g, u0.heap.size = g := ⟨_, rfl⟩
      rw [hg7] at hN7 hlt1 ⊢
      have hge : w.heap.size ≤ g7 := by rw [← hg7]; exact hS1.2.2.2.size
      clear hS0 hS1 hg7
      generalize u0.alloc (.cells [.int .i64 0].toArray 3) = u5 at hN7 hS2 ⊢
      have hS1 := hS2
      clear hS2
      have hS0 : ∀ {L}, TillQ 12 (fun W => Blk W g6 3 [.int .i64 n] ∧ RdW W (some ⟨b, off, none⟩) (digW N) ∧ RdW W A2 (digW M) ∧ Below w.heap.size w W) L u5 := fun _ => hS1
      refine late_one (i := 10) (by kernel_rfl) (op_call (some 21) rfl rfl rfl rfl Tryz.func57 (by kernel_rfl) (by kernel_rfl) #[.int .u64 (q : Int)] rfl (HLZ.out u5) ?_)
      rintro e ux ⟨rfl, hw⟩
      obtain rfl : u5 = ux := hw.symm
      clear hw
      refine ⟨_, rfl, fun _ => hS1, ?_⟩
      go_frame
      refine late_one (i := 12) (by kernel_rfl) (op_wp rfl rfl (wp_store_var 3 (.tmp 7) (.tmp 21) rfl g7 _ (.int .i64 0) (.int .i64 s) rfl rfl hN7 int_size rfl rfl (fun w6 hk6 ho6 => ⟨fun h => absurd h (by decide), late_done (by kernel_rfl) ?_ _⟩)))
      go_frame
      have hc6 : w6.cell? ⟨g6, 0, none⟩ = some (.int .i64 (n : Int)) := (ho6.blk hS1.1 (by omega)).cell 0
      have hc7 : w6.cell? ⟨g7, 0, none⟩ = some (.int .i64 (s : Int)) := hk6.cell 0
      have hW6 := hS1.2.2.2.trans (ho6.below hge)
      have HR6 := Lib.hid (HR.out.next hW6)
      have HR7 := Lib.hid (HR2.out.next hW6)
      have HC6 := Lib.hid (And.intro (ho6.blk hS1.1 (by omega)) hk6)
      have HW6 := Lib.hid hW6
      clear hS0 hS1 hN7 hc6 hc7 hW6 hk6 ho6
      go_wp2_with (first
        | (refine wpList_dst 25 rfl ?_; refine wpList_call_val rfl (.tmp 23) rfl rfl Tryz.func68 (by kernel_rfl) (by kernel_rfl) #[.slice (some ⟨b, off, none⟩) n c, .pointer (some ⟨g6, 0, none⟩), .pointer (some ⟨g7, 0, none⟩)] rfl (HA1.out g6 g7 _ HR6.out (HC6.out.1.cell 0) (HC6.out.2.cell 0)) ?_; rintro e w7 ⟨rfl, hb7⟩; refine ⟨_, rfl, ?_⟩; have HB7 := Lib.hid hb7; clear hb7)
        | (refine wpList_dst 28 rfl ?_; refine wpList_call_val rfl (.tmp 26) rfl rfl Tryz.func68 (by kernel_rfl) (by kernel_rfl) #[.slice A2 m c2, .pointer (some ⟨g6, 0, none⟩), .pointer (some ⟨g7, 0, none⟩)] rfl (HA2.out g6 g7 _ (HR7.out.next HB7.out) ((HC6.out.1.next HB7.out).cell 0) ((HC6.out.2.next HB7.out).cell 0)) ?_; rintro e w8 ⟨rfl, hb8⟩; refine ⟨_, rfl, ?_⟩; have HB8 := Lib.hid hb8; clear hb8))
      go_ret2
      obtain ⟨K, k1, k2, k3, k4, k5⟩ := HE.out
      exact ⟨K, k1, k2, k3, by rw [k4, k5]; rfl, (HW6.out.trans (HB7.out.mono HW6.out.size)).trans (HB8.out.mono (Nat.le_trans HW6.out.size HB7.out.size))⟩
  · refine op_wp rfl rfl (opV_alloc (some 7) rfl 3 rfl (.int .i64 0) int_zero rfl ⟨fun _ => ⟨hS1.1.alloc _, hS1.2.1.next ((Below.refl _ _).alloc (Nat.le_refl _) _), hS1.2.2.1.next ((Below.refl _ _).alloc (Nat.le_refl _) _), hS1.2.2.2.alloc hS1.2.2.2.size _⟩, ?_⟩)
    go_frame
    have hS2 : Blk (u0.alloc (.cells #[.int .i64 0] 3)) g6 3 [.int .i64 n] ∧ RdW (u0.alloc (.cells #[.int .i64 0] 3)) (some ⟨b, off, none⟩) (digW N) ∧ RdW (u0.alloc (.cells #[.int .i64 0] 3)) A2 (digW M) ∧ Below w.heap.size w (u0.alloc (.cells #[.int .i64 0] 3)) := ⟨hS1.1.alloc _, hS1.2.1.next ((Below.refl _ _).alloc (Nat.le_refl _) _), hS1.2.2.1.next ((Below.refl _ _).alloc (Nat.le_refl _) _), hS1.2.2.2.alloc hS1.2.2.2.size _⟩
    have hN7 := Blk.new u0 3 [.int .i64 0]
    obtain ⟨g7, hg7⟩ : ∃ g, u0.heap.size = g := ⟨_, rfl⟩
    rw [hg7] at hN7 hlt1 ⊢
    have hge : w.heap.size ≤ g7 := by rw [← hg7]; exact hS1.2.2.2.size
    clear hS0 hS1 hg7
    generalize u0.alloc (.cells [.int .i64 0].toArray 3) = u5 at hN7 hS2 ⊢
    have hS1 := hS2
    clear hS2
    have hS0 : ∀ {L}, TillQ 12 (fun W => Blk W g6 3 [.int .i64 n] ∧ RdW W (some ⟨b, off, none⟩) (digW N) ∧ RdW W A2 (digW M) ∧ Below w.heap.size w W) L u5 := fun _ => hS1
    refine late_one (i := 8) (by kernel_rfl) (op_call (some 19) rfl rfl rfl rfl Tryz.func46 (by kernel_rfl) (by kernel_rfl) #[.slice A2 m c2, .int .i64 ((n - 1 : Nat) : Int)] rfl (HDG.out u5 hS1.2.2.1) ?_)
    rintro e ux ⟨rfl, hw⟩
    obtain rfl : u5 = ux := hw.symm
    clear hw
    refine ⟨_, rfl, fun _ => hS1, ?_⟩
    go_frame
    refine late_take [12] (i := 9) (some 20) rfl rfl rfl (by kernel_rfl) (by kernel_rfl) (by kernel_rfl) (by kernel_rfl) (by kernel_rfl) (fun Ls W h => h.off (by decide)) (.int .u64 (q : Int)) (fun _ _ _ h => h) (fun Ls W hl0 hW => exec_bin .or 53 _ (.tmp 15) (.tmp 19) rfl _ _ _ rfl rfl rfl (HOR.out W)) hS0 hS0 ?_
    go_frame
    refine late_one (i := 10) (by kernel_rfl) (op_call (some 21) rfl rfl rfl rfl Tryz.func57 (by kernel_rfl) (by kernel_rfl) #[.int .u64 (q : Int)] rfl (HLZ.out u5) ?_)
    rintro e ux ⟨rfl, hw⟩
    obtain rfl : u5 = ux := hw.symm
    clear hw
    refine ⟨_, rfl, fun _ => hS1, ?_⟩
    go_frame
    refine late_one (i := 12) (by kernel_rfl) (op_wp rfl rfl (wp_store_var 3 (.tmp 7) (.tmp 21) rfl g7 _ (.int .i64 0) (.int .i64 s) rfl rfl hN7 int_size rfl rfl (fun w6 hk6 ho6 => ⟨fun h => absurd h (by decide), late_done (by kernel_rfl) ?_ _⟩)))
    go_frame
    have hc6 : w6.cell? ⟨g6, 0, none⟩ = some (.int .i64 (n : Int)) := (ho6.blk hS1.1 (by omega)).cell 0
    have hc7 : w6.cell? ⟨g7, 0, none⟩ = some (.int .i64 (s : Int)) := hk6.cell 0
    have hW6 := hS1.2.2.2.trans (ho6.below hge)
    have HR6 := Lib.hid (HR.out.next hW6)
    have HR7 := Lib.hid (HR2.out.next hW6)
    have HC6 := Lib.hid (And.intro (ho6.blk hS1.1 (by omega)) hk6)
    have HW6 := Lib.hid hW6
    clear hS0 hS1 hN7 hc6 hc7 hW6 hk6 ho6
    go_wp2_with (first
      | (refine wpList_dst 25 rfl ?_; refine wpList_call_val rfl (.tmp 23) rfl rfl Tryz.func68 (by kernel_rfl) (by kernel_rfl) #[.slice (some ⟨b, off, none⟩) n c, .pointer (some ⟨g6, 0, none⟩), .pointer (some ⟨g7, 0, none⟩)] rfl (HA1.out g6 g7 _ HR6.out (HC6.out.1.cell 0) (HC6.out.2.cell 0)) ?_; rintro e w7 ⟨rfl, hb7⟩; refine ⟨_, rfl, ?_⟩; have HB7 := Lib.hid hb7; clear hb7)
      | (refine wpList_dst 28 rfl ?_; refine wpList_call_val rfl (.tmp 26) rfl rfl Tryz.func68 (by kernel_rfl) (by kernel_rfl) #[.slice A2 m c2, .pointer (some ⟨g6, 0, none⟩), .pointer (some ⟨g7, 0, none⟩)] rfl (HA2.out g6 g7 _ (HR7.out.next HB7.out) ((HC6.out.1.next HB7.out).cell 0) ((HC6.out.2.next HB7.out).cell 0)) ?_; rintro e w8 ⟨rfl, hb8⟩; refine ⟨_, rfl, ?_⟩; have HB8 := Lib.hid hb8; clear hb8))
    go_ret2
    obtain ⟨K, k1, k2, k3, k4, k5⟩ := HE.out
    exact ⟨K, k1, k2, k3, by rw [k4, k5]; rfl, (HW6.out.trans (HB7.out.mono HW6.out.size)).trans (HB8.out.mono (Nat.le_trans HW6.out.size HB7.out.size))⟩
end Go.Proofs.YtkjnfobaoaaopaaGreatDoor
