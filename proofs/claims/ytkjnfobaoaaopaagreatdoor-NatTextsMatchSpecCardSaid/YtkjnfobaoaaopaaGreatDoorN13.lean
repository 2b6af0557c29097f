/- Parse. -/
import Derived.Test.YtkjnfobaoaaopaaGreatDoorN12
namespace Go.Proofs.YtkjnfobaoaaopaaGreatDoor
open Go.RowKit Hm Wm Wn

theorem run_str_lo (w : World) (l : List UInt8) (n : Nat) (h : n ≤ l.length) : (Instr.sliceAt 9 (.string (sb l)) (some (.int .i64 n)) none none).run Tryz.prog w = .ok (.string (sb (l.drop n))) w := by
  have hs : (sb l).size = l.length := sb_size l
  have e : (sb l).extract n l.length = sb (l.drop n) := by
    apply ByteArray.ext
    rw [ByteArray.data_extract]
    simp [sb]
    exact List.take_of_length_le (by rw [List.length_drop]; exact Nat.le_refl _)
  simp [go_sem, run_sliceAt_string, Tryz.underlying9, hs]
  rw [if_pos h, e]
theorem exec_strHi {oi : Oper} {a : Act} {w : World} (x y : Operand) (ho : oi.op = .slice 9 x none (some y) none) (l : List UInt8) (n : Nat) (h : n ≤ l.length) (hx : a.eval x = .string (sb l)) (hy : a.eval y = .int .i64 n) : (execOp a.eval oi).run Tryz.prog w = .ok (.value (.string (sb (l.take n)))) w := by
  have hl := run_str_hi w l n h
  rw [← hx, ← hy] at hl
  simp [execOp, ho, hl]
theorem exec_strLo {oi : Oper} {a : Act} {w : World} (x y : Operand) (ho : oi.op = .slice 9 x (some y) none none) (l : List UInt8) (n : Nat) (h : n ≤ l.length) (hx : a.eval x = .string (sb l)) (hy : a.eval y = .int .i64 n) : (execOp a.eval oi).run Tryz.prog w = .ok (.value (.string (sb (l.drop n)))) w := by
  have hl := run_str_lo w l n h
  rw [← hx, ← hy] at hl
  simp [execOp, ho, hl]
theorem exec_word1 {oi : Oper} {a : Act} {w : World} (x : Operand) (ho : oi.op = .buildSlice 50 1 #[(0, x)]) (d : Nat) (hx : a.eval x = .int .u64 d) : (execOp a.eval oi).run Tryz.prog w = .ok (.value (.slice (some ⟨w.heap.size, 0, none⟩) 1 1)) (w.alloc (.cells (ws [d]).toArray 53)) := by
  unfold execOp
  simp only [ho, List.map_toArray, List.map_cons, List.map_nil, hx, Sem.run_bind, run_word1, Result.andThen_ok]
  rfl
theorem decF_acc (q : List UInt8) : ∀ a : Nat, q.foldl (fun n (b : UInt8) => 10 * n + (b.toNat - 48)) a = a * 10 ^ q.length + decN q := by
  induction q with
  | nil => intro a; simp [decN]
  | cons b q ih =>
    intro a
    unfold decN
    rw [List.foldl_cons, List.foldl_cons, ih, ih (10 * 0 + (b.toNat - 48)), List.length_cons, Nat.pow_succ, Nat.mul_zero, Nat.zero_add, Nat.add_mul]
    have : 10 * a * 10 ^ q.length = a * (10 ^ q.length * 10) := by rw [Nat.mul_comm 10 a, Nat.mul_assoc, Nat.mul_comm 10]
    omega
theorem decN_app (p q : List UInt8) : decN (p ++ q) = decN p * 10 ^ q.length + decN q := by
  show (p ++ q).foldl _ 0 = _
  rw [List.foldl_append]
  exact decF_acc q (decN p)
theorem exec_sHi {oi : Oper} {a : Act} {w : World} (x y : Operand) (ho : oi.op = .slice 9 x none (some y) none) (t c : ByteArray) (g : Nat) (hrun : ∀ W, (Instr.sliceAt 9 (.string t) none (some (.int .i64 g)) none).run Tryz.prog W = .ok (.string c) W) (hx : a.eval x = .string t) (hy : a.eval y = .int .i64 g) : (execOp a.eval oi).run Tryz.prog w = .ok (.value (.string c)) w := by
  have hl := hrun w
  rw [← hx, ← hy] at hl
  simp [execOp, ho, hl]
theorem exec_sLo {oi : Oper} {a : Act} {w : World} (x y : Operand) (ho : oi.op = .slice 9 x (some y) none none) (t c : ByteArray) (g : Nat) (hrun : ∀ W, (Instr.sliceAt 9 (.string t) (some (.int .i64 g)) none none).run Tryz.prog W = .ok (.string c) W) (hx : a.eval x = .string t) (hy : a.eval y = .int .i64 g) : (execOp a.eval oi).run Tryz.prog w = .ok (.value (.string c)) w := by
  have hl := hrun w
  rw [← hx, ← hy] at hl
  simp [execOp, ho, hl]
/-- The first group of a text. -/
def gl (n : Nat) : Nat := (n - 1) % 19 + 1
theorem gl_le {n : Nat} (h : 0 < n) : gl n ≤ n ∧ 0 < gl n ∧ gl n ≤ 19 ∧ (n - gl n) % 19 = 0 := by unfold gl; omega
theorem gl_full {n : Nat} (h : 0 < n) (h19 : n % 19 = 0) : gl n = 19 := by unfold gl; omega
theorem dec_len {l : List UInt8} {K : Nat} (h : l.all isDig = true) (hl : l.length ≤ K) : (digW (10000000000000000000 * decN l)).length ≤ K + 19 := by
  refine digW_256 ?_
  have h1 := decN_lt l h
  have h2 : (10 : Nat) ^ l.length ≤ 10 ^ K := Nat.pow_le_pow_right (by decide) hl
  have h3 : 10000000000000000000 * decN l < 10 ^ (K + 19) := by
    rw [Nat.pow_add, show (10 : Nat) ^ 19 = 10000000000000000000 from by decide]
    omega
  exact Nat.lt_of_lt_of_le h3 (Nat.pow_le_pow_left (by decide) _)
theorem dec_len2 {l : List UInt8} {K : Nat} (h : l.all isDig = true) (hl : l.length ≤ K) : (digW (decN l)).length ≤ K := by
  refine digW_256 ?_
  have h1 := decN_lt l h
  have h2 : (10 : Nat) ^ l.length ≤ 10 ^ K := Nat.pow_le_pow_right (by decide) hl
  exact Nat.lt_of_lt_of_le (Nat.lt_of_lt_of_le h1 h2) (Nat.pow_le_pow_left (by decide) _)
theorem all_take {l : List UInt8} (h : l.all isDig = true) (k : Nat) : (l.take k).all isDig = true := by
  rw [List.all_eq_true]; intro x hx; exact List.all_eq_true.1 h x (List.mem_of_mem_take hx)
theorem all_drop {l : List UInt8} (h : l.all isDig = true) (k : Nat) : (l.drop k).all isDig = true := by
  rw [List.all_eq_true]; intro x hx; exact List.all_eq_true.1 h x (List.mem_of_mem_drop hx)
theorem textL_all {l : List UInt8} (h : isTextL l = true) : l.all isDig = true := by
  unfold isTextL at h
  rcases l with _ | ⟨b, r⟩
  · cases h
  · simp only [Bool.and_eq_true] at h; exact h.2
set_option maxRecDepth 100000 in
set_option maxHeartbeats 400000 in
theorem parse_no (l : List UInt8) (w : World) (hl : l.length ≤ 20000) (h : isTextL l = false) : Calls Tryz.prog 24 #[.string (sb l)] w fun e w' => e = .returned (.tuple #[.string (cS 0), .int .i64 27]) ∧ w' = w := by
  have HI := isText_any l w (by omega)
  rw [h] at HI
  have HI := Lib.hid HI
  have HZ := Lib.hid (show cS 0 = ⟨#[]⟩ by unfold cS; rw [canS_zero]; rfl)
  obtain ⟨t, ht⟩ : ∃ t, sb l = t := ⟨_, rfl⟩
  rw [ht] at HI ⊢
  clear ht h
  go_enter Tryz.func24, Tryz.ntmps24
  go_wp2_with fail
  refine HI.out.mono ?_
  rintro e w1 ⟨rfl, hw⟩
  obtain rfl : w = w1 := hw.symm
  go_wp2
  go_ret2
  exact ⟨by rw [HZ.out]; rfl, rfl⟩
/-- What stands in the loop of Parse. -/
def PaR (w : World) (l : List UInt8) (sv xv : Value) (wr : World) : Prop :=
  ∃ k : Nat, sv = .string (sb (l.drop k)) ∧ k ≤ l.length ∧ Hid (k = 0 ∨ (l.length - k) % 19 = 0) ∧ Hid (NewW wr (decN (l.take k)) xv) ∧ Hid (Below w.heap.size w wr)
def strLen : Value → Nat | .string s => s.size | _ => 0
set_option maxRecDepth 100000 in
set_option maxHeartbeats 400000 in
theorem parse_yes (l : List UInt8) (w : World) (hl : l.length ≤ 20000) (h : isTextL l = true) : Calls Tryz.prog 24 #[.string (sb l)] w fun e w' => e = .returned (.tuple #[.string (cS (decN l)), .int .i64 0]) ∧ Below w.heap.size w w' := by
  have HI := isText_any l w (by omega)
  rw [h] at HI
  have HI := Lib.hid HI
  have HD := Lib.hid (textL_all h)
  clear h
  go_enter Tryz.func24, Tryz.ntmps24
  go_wp2_with fail
  refine HI.out.mono ?_
  rintro e w1 ⟨rfl, hw⟩
  obtain rfl : w = w1 := hw.symm
  go_wp2_with fail
  go_loopw [0, 4] (PaR w l) (fun sv _ _ => strLen sv)
  case atStart => exact ⟨0, rfl, Nat.zero_le _, Lib.hid (.inl rfl), Lib.hid ⟨none, 0, by rw [List.take_zero]; simp [decN, digW_zero], Rd.nil _ _ |> fun h => by rw [List.take_zero]; simpa [decN, digW_zero, RdW, ws] using h, by rw [List.take_zero]; simp [decN, digW_zero]⟩, Lib.hid (Below.refl _ _)⟩
  case round =>
    obtain ⟨k, rfl, hk, HK, HX, HB⟩ := hrel
    by_cases hlt : k < l.length
    · obtain ⟨R, hR⟩ : ∃ R, l.drop k = R := ⟨_, rfl⟩
      have hRl : R.length = l.length - k := by rw [← hR, List.length_drop]
      obtain ⟨n, hn⟩ : ∃ n, l.length - k = n := ⟨_, rfl⟩
      rw [hn] at hRl
      have hn0 : 0 < n := by omega
      have hn2 : n ≤ 20000 := by omega
      obtain ⟨g1, g2, g3, g4⟩ := gl_le hn0
      have hgf := gl_full (n := n) hn0
      have hgd : ((n : Int) - 1) % 19 + 1 = ((gl n : Nat) : Int) := by unfold gl; omega
      obtain ⟨g, hg⟩ : ∃ g, gl n = g := ⟨_, rfl⟩
      rw [hg] at g1 g2 g3 g4 hgf hgd
      have hRd : R.all isDig = true := by rw [← hR]; exact all_drop HD.out k
      have hne := fun W => run_neq_str W R []
      have hhi := fun W => run_str_hi W R g (by omega)
      have hlo := fun W => run_str_lo W R g (by omega)
      have hgr := fun W => group_any (R.take g) W (all_take hRd g) (by rw [List.length_take]; omega)
      rw [hR]
      obtain ⟨t, ht⟩ : ∃ t, sb R = t := ⟨_, rfl⟩
      obtain ⟨t1, ht1⟩ : ∃ t, sb (R.take g) = t := ⟨_, rfl⟩
      have hts : t.size = n := by rw [← ht, sb_size, hRl]
      rw [ht] at hne hhi hlo ⊢
      rw [ht1] at hhi hgr
      obtain ⟨A4, c4, rfl, hr4, -⟩ := HX.out
      have hall := all_take HD.out k
      have hNl := dec_len2 (K := 20000) hall (by rw [List.length_take]; omega)
      have hPl := dec_len (K := 20000) hall (by rw [List.length_take]; omega)
      have hD := decN_lt (R.take g) (all_take hRd g)
      have hgl : (R.take g).length = g := by rw [List.length_take]; omega
      have hsum : decN (l.take (k + g)) = 10000000000000000000 * decN (l.take k) + decN (R.take g) := by
        rw [List.take_add, hR, decN_app, hgl]
        rcases HK.out with hk0 | hk19
        · have h0 : decN (l.take k) = 0 := by rw [hk0]; rfl
          rw [h0]; omega
        · rw [hgf (by rw [← hn]; exact hk19), show (10 : Nat) ^ 19 = 10000000000000000000 from by decide]; omega
      have hdr : l.drop (k + g) = R.drop g := by rw [← hR, List.drop_drop]
      obtain ⟨N, hN⟩ : ∃ N, decN (l.take k) = N := ⟨_, rfl⟩
      rw [hN] at hr4 hNl hPl hsum ⊢
      obtain ⟨D, hDD⟩ : ∃ D, decN (R.take g) = D := ⟨_, rfl⟩
      rw [hDD] at hgr hD hsum
      have hDB : D < B := by
        rw [hgl] at hD
        have : (10 : Nat) ^ g ≤ 10 ^ 19 := Nat.pow_le_pow_right (by decide) g3
        have h19 : (10 : Nat) ^ 19 < B := by decide
        omega
      have HR4 := Lib.hid hr4
      have HSUM := Lib.hid hsum
      have HDR := Lib.hid hdr
      have HK2 := Lib.hid (show k + g = 0 ∨ (l.length - (k + g)) % 19 = 0 from .inr (by rw [show l.length - (k + g) = n - g by omega]; exact g4))
      have HDB := Lib.hid hDB
      have HG1 := Lib.hid (show k + g ≤ l.length by omega)
      have HG2 := Lib.hid (show (sb (R.drop g)).size < t.size by rw [sb_size, List.length_drop, hts, hRl]; omega)
      have HNL := Lib.hid hNl
      have HPL := Lib.hid hPl
      have HNE := Lib.hid (fun W => show (binOp .neq 9 (.string t) (.string ⟨#[]⟩)).run Tryz.prog W = .ok (.bool true) W by
        have h1 := hne W
        rw [show decide (R ≠ []) = true from decide_eq_true (by intro e; rw [e] at hRl; simp at hRl; omega)] at h1
        exact h1)
      have HHI := Lib.hid hhi
      have HLO := Lib.hid hlo
      have HGR := Lib.hid hgr
      have HGD := Lib.hid hgd
      clear hne hhi hlo hgr hgd hr4 hsum hdr hNl hPl hD hDB hgl hall hN hDD hRd hgf hg g1 g2 g3 g4 hn hR hRl ht ht1 HK HX hk
      go_wp2_with (refine wpList_run 10 rfl rfl _ (exec_bin .neq 9 _ (.tmp 9) (.const (.string ⟨#[]⟩)) rfl _ _ _ rfl rfl rfl (HNE.out _)) ?_)
      rw [HGD.out]
      refine wp_region_held_drew (S := fun W => Below wr.heap.size wr W) (by kernel_rfl) (Below.refl _ _).drew (fun hS => ?_)
      generalize wr.drew = u0 at hS ⊢
      refine reg_takeG (i := 1) (some 17) rfl rfl rfl (by kernel_rfl) (by kernel_rfl) (by kernel_rfl) (.slice A4 (digW N).length c4) (fun _ _ _ h => h) (fun W hW => exec_move (.tmp 4) rfl _ rfl) hS ?_
      go_frame
      refine reg_takeG (i := 3) (some 19) rfl rfl rfl (by kernel_rfl) (by kernel_rfl) (by kernel_rfl) (.string t) (fun _ _ _ h => h) (fun W hW => exec_move (.tmp 0) rfl _ rfl) hS ?_
      go_frame
      refine reg_takeG (i := 4) (some 20) rfl rfl rfl (by kernel_rfl) (by kernel_rfl) (by kernel_rfl) (.int .i64 g) (fun _ _ _ h => h) (fun W hW => exec_move (.tmp 5) rfl _ rfl) hS ?_
      go_frame
      refine reg_takeG (i := 5) (some 21) rfl rfl rfl (by kernel_rfl) (by kernel_rfl) (by kernel_rfl) (.string t1) (fun _ _ _ h => h) (fun W hW => exec_sHi (.tmp 19) (.tmp 20) rfl t t1 g HHI.out rfl rfl) hS ?_
      go_frame
      have hK0 := Blk.new u0 53 (ws [10000000000000000000])
      have hal := (Below.refl u0.heap.size u0).alloc (Nat.le_refl _) (.cells (ws [10000000000000000000]).toArray 53)
      have hS1 := hS.trans (hal.mono hS.size)
      refine reg_makeG (i := 0) (some 16) rfl rfl rfl (by kernel_rfl) (.slice (some ⟨u0.heap.size, 0, none⟩) 1 1) _ (exec_word1 (.const (.int .u64 10000000000000000000)) rfl 10000000000000000000 rfl) hS1 ?_
      go_frame
      clear hal
      generalize u0.alloc (.cells (ws [10000000000000000000]).toArray 53) = u1 at hK0 hS1 ⊢
      have hc := times_any (some ⟨u0.heap.size, 0, none⟩) 1 [10000000000000000000] A4 c4 (digW N) u1 (rdW_blk hK0) (HR4.out.next hS1) (by intro d hd; rw [List.mem_singleton.1 hd]; decide) (dig_digW N) (by decide) (Nat.le_trans HNL.out (by omega))
      rw [num_one, num_digW] at hc
      refine reg_callG (i := 2) (some 18) rfl rfl rfl (by kernel_rfl) rfl Tryz.func40 (by kernel_rfl) (by kernel_rfl) #[.slice (some ⟨u0.heap.size, 0, none⟩) 1 1, .slice A4 (digW N).length c4] rfl hc ?_
      rintro e u2 ⟨v18, rfl, ⟨A18, c18, rfl, hr18, -⟩, hb2⟩
      have hS2 := hS1.trans (hb2.mono hS1.size)
      refine ⟨_, rfl, hS2, ?_⟩
      go_frame
      clear hc hb2 hK0
      refine reg_callG (i := 6) (some 22) rfl rfl rfl (by kernel_rfl) rfl Tryz.func48 (by kernel_rfl) (by kernel_rfl) #[.string t1] rfl (HGR.out u2) ?_
      rintro e u3 ⟨rfl, hw⟩
      obtain rfl : u2 = u3 := hw.symm
      refine ⟨_, rfl, hS2, ?_⟩
      go_frame
      clear hw
      have hK3 := Blk.new u2 53 (ws [D])
      have hal := (Below.refl u2.heap.size u2).alloc (Nat.le_refl _) (.cells (ws [D]).toArray 53)
      have hS3 := hS2.trans (hal.mono hS2.size)
      have hr18' := hr18.next hal
      refine reg_makeG (i := 7) (some 23) rfl rfl rfl (by kernel_rfl) (.slice (some ⟨u2.heap.size, 0, none⟩) 1 1) _ (exec_word1 (.tmp 22) rfl D rfl) hS3 ?_
      go_frame
      clear hal hr18
      generalize u2.alloc (.cells (ws [D]).toArray 53) = u4 at hK3 hS3 hr18' ⊢
      have hc := plus_any A18 c18 (digW (10000000000000000000 * N)) (some ⟨u2.heap.size, 0, none⟩) 1 [D] u4 hr18' (rdW_blk hK3) (dig_digW _) (by intro d hd; rw [List.mem_singleton.1 hd]; exact HDB.out) (Nat.le_trans HPL.out (by omega)) (by simp)
      rw [num_one, num_digW, ← HSUM.out] at hc
      refine reg_callG (i := 8) (some 24) rfl rfl rfl (by kernel_rfl) rfl Tryz.func39 (by kernel_rfl) (by kernel_rfl) #[.slice A18 (digW (10000000000000000000 * N)).length c18, .slice (some ⟨u2.heap.size, 0, none⟩) 1 1] rfl hc ?_
      rintro e u5 ⟨v24, rfl, hn5, hb5⟩
      have hS5 := hS3.trans (hb5.mono hS3.size)
      refine ⟨_, rfl, hS5, ?_⟩
      go_frame
      refine reg_valueG (i := 9) (some 4) rfl rfl rfl (by kernel_rfl) v24 (exec_assign (.tmp 24) rfl _ rfl) hS5 ?_
      go_frame
      refine wpAnyH_done (by kernel_rfl) ?_ _
      have HX5 := Lib.hid hn5
      have HB5 := Lib.hid (HB.out.trans (hS5.mono HB.out.size))
      clear hc hb5 hK3 hr18' hS hS1 hS2 hS3 hS5 hn5 hts
      go_wp2_with (refine wpList_run 27 rfl rfl _ (exec_sLo (.tmp 25) (.tmp 26) rfl t (sb (R.drop g)) g HLO.out rfl rfl) ?_)
      go_roundw
      case rel => exact ⟨k + g, by rw [HDR.out], HG1.out, HK2, HX5, HB5⟩
      case measure => simp only [strLen]; exact HG2.out
    · obtain rfl : k = l.length := by omega
      have hx := HX.out
      rw [List.take_length] at hx
      obtain ⟨A, c, rfl, hr, -⟩ := hx
      have HT := Lib.hid (textN (decN l) A c wr hr (Nat.le_trans (dec_len2 HD.out (Nat.le_refl _)) (by omega)))
      have HNE := Lib.hid (fun W => show (binOp .neq 9 (.string (sb (l.drop l.length))) (.string ⟨#[]⟩)).run Tryz.prog W = .ok (.bool false) W by
        have := run_neq_str W (l.drop l.length) []
        rw [List.drop_length] at this ⊢
        exact this)
      clear hr HX HK
      go_wp2_with (refine wpList_run 10 rfl rfl _ (exec_bin .neq 9 _ (.tmp 9) (.const (.string ⟨#[]⟩)) rfl _ _ _ rfl rfl rfl (HNE.out _)) ?_)
      refine HT.out.mono ?_
      rintro e w2 ⟨rfl, hb⟩
      have HB2 := Lib.hid (HB.out.trans (hb.mono HB.out.size))
      clear hb HT
      go_wp2
      go_ret2
      exact ⟨rfl, HB2.out⟩
end Go.Proofs.YtkjnfobaoaaopaaGreatDoor
