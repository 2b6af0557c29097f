/- Clean, read and text. -/
import Derived.Test.YtkjnfobaoaaopaaGreatDoorN6
import Derived.Test.YtkjnfobaoaaopaaGreatDoorNT
namespace Go.Proofs.YtkjnfobaoaaopaaGreatDoor
open Go.RowKit Hm Wm Wn

theorem wp_store_w {w : World} {op : Oper} {a : Act} {K : Act → World → Prop} {Q : Exit → Act → World → Prop} (x y : Operand) (ho : op.op = .store 53 x y)
    (g o : Nat) (t : TypeId) (l : List Nat) (v : Nat) (hx : a.eval x = .pointer (some ⟨g, o, none⟩)) (hy : a.eval y = .int .u64 v) (hb : Blk w g t (ws l)) (hl : o < l.length)
    (h : ∀ w', Blk w' g t (ws (l.set o v)) → Only g w w' → K (a.put op.dst undef) w') : op.wp Tryz.prog a w K Q := by
  have hfit : o + 1 ≤ (ws l).length := by rw [ws_len]; omega
  have hs := run_storeCells_at Tryz.prog g o t [wu v] 0 (ws l).toArray w hb (by simpa using hfit) (by intro u hu; rw [List.mem_singleton.1 hu]; rfl)
  have hi : (Tryz.prog.info? 53).map (·.size) = some 1 := by kernel_rfl
  have hrun : (Instr.storeAt 53 (.pointer (some ⟨g, o, none⟩)) (wu v)).run Tryz.prog w = .ok () (w.setRow g (splice (ws l) o [wu v]).toArray) := by
    cases hq : Tryz.prog.info? 53 with
    | none => simp [hq] at hi
    | some i =>
      have hsz : i.size = 1 := by simpa [hq] using hi
      have e : (splice (ws l) o [wu v]).toArray = ((ws l).toArray.toList.take (o + 0) ++ [wu v] ++ (ws l).toArray.toList.drop (o + 0 + [wu v].length)).toArray := by simp [splice]
      rw [e, ← hs]
      simp [Instr.storeAt, Instr.sureAddr, storeVar, sizeOf, typeInfo, hq, Value.cells, hsz, wu]
  have hsp : splice (ws l) o [wu v] = ws (l.set o v) := by
    rw [← ws_set]
    unfold splice
    rw [List.set_eq_take_append_cons_drop, if_pos (by rw [ws_len]; exact hl)]
    simp
  rw [hsp] at hrun
  unfold Oper.wp execOp
  simp only [ho, hx, hy, Sem.run_bind]
  have e2 : (Value.int IntKind.u64 (v : Int)) = wu v := rfl
  rw [e2, hrun]
  exact h _ (setRow_heap w g _ _ t _ hb) (Only.setRow w g _)
theorem wd_flat (W : World) : (isAgg 53).run Tryz.prog W = .ok false W := by kernel_rfl
theorem wd_elem : Tryz.prog.elem 50 = 53 := by kernel_rfl
theorem wd_sizeOf (W : World) : (sizeOf 53).run Tryz.prog W = .ok 1 W := by kernel_rfl
theorem run_atW (b off n c k : Nat) (hk : k < n) (W : World) : (Instr.indexAt 50 (.slice (some ⟨b, off, none⟩) n c) (.int .i64 k)).run Tryz.prog W = .ok (.pointer (some ⟨b, off + k, none⟩)) W := by
  refine (run_indexAt_slice W 50 ⟨b, off, none⟩ n c .i64 k (by rw [wd_elem]; exact dg_under)).trans ?_
  rw [if_pos ⟨by omega, by omega⟩, wd_elem, wd_sizeOf, Result.andThen_ok, Int.toNat_natCast, Addr.add_mid, Nat.mul_one]
theorem exec_atW {oi : Oper} {a : Act} {w : World} (x y : Operand) (ho : oi.op = .indexAddr 50 x y) (b off n c k : Nat) (hk : k < n) (hx : a.eval x = .slice (some ⟨b, off, none⟩) n c) (hy : a.eval y = .int .i64 k) : (execOp a.eval oi).run Tryz.prog w = .ok (.value (.pointer (some ⟨b, off + k, none⟩))) w :=
  exec_indexAddr _ x y ho _ _ _ hx hy (run_atW b off n c k hk w)
theorem run_load_cell {W : World} {g o : Nat} {v : Value} {ty : TypeId} (hag : ∀ W, (isAgg ty).run Tryz.prog W = .ok false W) (h : W.cell? ⟨g, o, none⟩ = some v) : (Instr.loadAt ty (.pointer (some ⟨g, o, none⟩))).run Tryz.prog W = .ok v W := by
  simp [Instr.loadAt, Instr.sureAddr, loadVar, hag, run_load, h]
theorem exec_loadW {oi : Oper} {a : Act} {w : World} {g o : Nat} (x : Operand) (ho : oi.op = .load 53 x) (v : Nat) (hx : a.eval x = .pointer (some ⟨g, o, none⟩)) (h : w.cell? ⟨g, o, none⟩ = some (.int .u64 v)) : (execOp a.eval oi).run Tryz.prog w = .ok (.value (.int .u64 v)) w :=
  exec_load 53 x ho _ _ hx (run_load_cell wd_flat h)
theorem exec_lenS {P : Program} {oi : Oper} {a : Act} {w : World} (t : TypeId) (x : Operand) (ho : oi.op = .call { callee := .builtin .len, args := #[x], argTypes := #[t] }) (hu : P.underlying t = some .string) (s : ByteArray) (hx : a.eval x = .string s) : (execOp a.eval oi).run P w = .ok (.value (.int .i64 s.size)) w := by
  unfold execOp
  simp [ho, resolve, invoke, builtin, hx, Builtin.len_, run_underlying hu, goInt]
theorem exec_indexS {oi : Oper} {a : Act} {w : World} (x y : Operand) (ho : oi.op = .index 9 x y) (s : ByteArray) (k : Nat) (b : UInt8) (hb : s.data.toList[k]? = some b) (hx : a.eval x = .string s) (hy : a.eval y = .int .i64 k) : (execOp a.eval oi).run Tryz.prog w = .ok (.value (.int .u8 b.toNat)) w := by
  refine exec_index 9 x y ho _ _ _ hx hy ?_
  rw [run_index_string w 9 s .i64 k Tryz.underlying9]
  obtain ⟨h1, h2⟩ := List.getElem?_eq_some_iff.1 hb
  have h3 : k < s.size := by simpa using h1
  rw [dif_pos ⟨by omega, by omega⟩]
  simp only [Int.toNat_natCast]
  simp only [Array.getElem_toList] at h2
  rw [← h2]
  rfl
theorem run_quo8 (i : Nat) (h : i ≤ 1000000) (w : World) : (binOp .quo 3 (.int .i64 i) (.int .i64 8)).run Tryz.prog w = .ok (.int .i64 ((i / 8 : Nat) : Int)) w := by
  simp [binOp, go_sem]
  simp [IntKind.wrap, IntKind.bits, IntKind.signed]; omega
theorem run_rem8 (i : Nat) (h : i ≤ 1000000) (w : World) : (binOp .rem 3 (.int .i64 i) (.int .i64 8)).run Tryz.prog w = .ok (.int .i64 ((i % 8 : Nat) : Int)) w := by
  simp [binOp, go_sem]
  rw [Int.tmod_eq_emod_of_nonneg (by omega)]
theorem run_mul8 (i : Nat) (h : i ≤ 1000000) (w : World) : (binOp .mul 3 (.int .i64 8) (.int .i64 i)).run Tryz.prog w = .ok (.int .i64 ((8 * i : Nat) : Int)) w := by
  simp [binOp, go_sem]
  simp [IntKind.wrap, IntKind.bits, IntKind.signed]; omega
theorem pow_256 (r : Nat) : (2 : Nat) ^ (8 * r) = 256 ^ r := by rw [Nat.pow_mul]
theorem run_shlB (b r : Nat) (h : b * 256 ^ r < B) (hr : r < 8) (w : World) : (binOp .shl 53 (.int .u64 b) (.int .i64 ((8 * r : Nat) : Int))).run Tryz.prog w = .ok (.int .u64 ((b * 256 ^ r : Nat) : Int)) w := by
  rw [binOp_shl, shift_shl .u64 .i64 (b : Int) ((8 * r : Nat) : Int) (by omega) (by show _ ≤ ((64 : Nat) : Int); omega), Sem.run_pure]
  have e : ((b : Int) * 2 ^ ((8 * r : Nat) : Int).toNat) = ((b * 256 ^ r : Nat) : Int) := by rw [Int.toNat_natCast, ← pow_256]; push_cast; rfl
  rw [e, IntKind.wrap_u64]
  unfold B at h
  congr 2
  omega
theorem run_orB (x b r : Nat) (h : b * 256 ^ r + x < B) (hx : x < 256 ^ r) (w : World) : (binOp .or 53 (.int .u64 x) (.int .u64 ((b * 256 ^ r : Nat) : Int))).run Tryz.prog w = .ok (.int .u64 ((b * 256 ^ r + x : Nat) : Int)) w := by
  have h1 : bits .or .u64 (x : Int) ((b * 256 ^ r : Nat) : Int) = ((b * 256 ^ r + x : Nat) : Int) := by
    unfold B at h
    rw [bits_or_u64_nat x _ (by omega) (by omega), Nat.or_comm]
    congr 1
    rw [← pow_256] at hx ⊢
    rw [← Nat.shiftLeft_eq, Nat.shiftLeft_add_eq_or_of_lt hx]
  simp [binOp, go_sem]
  exact h1
theorem run_conv8 (b : UInt8) (w : World) : (convert 5 53 (.int .u8 b.toNat)).run Tryz.prog w = .ok (.int .u64 (b.toNat : Int)) w := by
  have := b.toNat_lt
  simp [convert, go_sem]
  rw [IntKind.wrap_u64]; omega
theorem clean_any (s : ByteArray) (w : World) : Calls Tryz.prog 12 #[.string s] w fun e w' => e = .returned (.string (sb (canS (numB s.data.toList)))) ∧ w' = w := by
  have h := Tryz.strings_TrimLeft_one s 0 (by decide) w
  have e : Lib.trimLeftB s.data.toList 0 = canS (numB s.data.toList) := clean_eq s.data.toList
  rw [e] at h
  have HT := Lib.hid h
  clear h e
  go_enter Tryz.func12, Tryz.ntmps12
  go_wp2_with fail
  refine HT.out.mono ?_
  rintro e w' ⟨rfl, rfl⟩
  go_wp2
  go_ret
  exact ⟨rfl, rfl⟩
/-- What stands in the loop of read. -/
def ReR (w : World) (L : Nat) (cs : List UInt8) (iv : Value) (wr : World) : Prop :=
  ∃ (i : Nat) (x : List Nat), iv = .int .i64 i ∧ i ≤ cs.length ∧ Hid (x.length = L) ∧ Hid (Dig x) ∧ Hid (num x = numB (cs.drop (cs.length - i))) ∧ Hid (Blk wr w.heap.size 53 (ws x)) ∧ Hid (Below w.heap.size w wr)
set_option maxRecDepth 100000 in
set_option maxHeartbeats 400000 in
theorem read_any (s : ByteArray) (w : World) (hs : (canS (numB s.data.toList)).length ≤ 100000) : Calls Tryz.prog 31 #[.string s] w fun e w' => ∃ v, e = .returned v ∧ NewW w' (numB s.data.toList) v ∧ Below w.heap.size w w' := by
  have hc := clean_any s w
  have hcb := canB_canS (numB s.data.toList)
  have hcn := numB_canS (numB s.data.toList)
  obtain ⟨N, hN⟩ : ∃ N, numB s.data.toList = N := ⟨_, rfl⟩
  rw [hN] at hc hcb hcn hs ⊢
  obtain ⟨cs, hcs⟩ : ∃ cs, canS N = cs := ⟨_, rfl⟩
  rw [hcs] at hc hcb hcn hs
  obtain ⟨t, ht⟩ : ∃ t, sb cs = t := ⟨_, rfl⟩
  have htl : t.data.toList = cs := by rw [← ht, sb_list]
  have hts : t.size = cs.length := by rw [← ht, sb_size]
  rw [ht] at hc
  obtain ⟨L, hL⟩ : ∃ L, (cs.length + 7) / 8 = L := ⟨_, rfl⟩
  have HC := Lib.hid hc
  have HCB := Lib.hid hcb
  have HCN := Lib.hid hcn
  have HTL := Lib.hid htl
  have HLL := Lib.hid hL
  have HTS := Lib.hid hts
  have HLE := Lib.hid (show ((cs.length : Int) + 8 - 1) / 8 = (L : Int) by omega)
  have hL1 : L ≤ 100000 := by omega
  have hL8 : cs.length ≤ 8 * L := by omega
  clear hc hcb hcn hcs ht htl hN
  go_enter Tryz.func31, Tryz.ntmps31
  go_wp2_with fail
  refine HC.out.mono ?_
  rintro e w1 ⟨rfl, hw⟩
  obtain rfl : w = w1 := hw.symm
  go_wp2_with (refine wpList_makeW rfl (.tmp 11) (.tmp 11) rfl L (congrArg (Value.int .i64) HLE.out) (congrArg (Value.int .i64) HLE.out) (by omega) ?_; intro w1 HK1 HB1)
  clear hts
  go_loopw [15] (ReR w L cs) (fun iv _ => cs.length - (intOf iv).toNat)
  case atStart => exact ⟨0, zd L, rfl, Nat.zero_le _, Lib.hid (zd_len _), Lib.hid (dig_zeros _), Lib.hid (by unfold zd; rw [num_zeros, Nat.sub_zero, List.drop_length]; rfl), HK1, HB1⟩
  case round =>
    obtain ⟨i, x, rfl, hi, HXL, HXD, HXN, HK, HB⟩ := hrel
    by_cases hlt : i < cs.length
    · have d1 : decide ((i : Int) < (cs.length : Int)) = true := decide_eq_true (by omega)
      have d1' : decide (i < cs.length) = true := decide_eq_true hlt
      have hq : i / 8 < L := by omega
      have hqx : i / 8 < x.length := by rw [HXL.out]; exact hq
      have hjl : cs.length - 1 - i < cs.length := by omega
      have hdr : cs.drop (cs.length - (i + 1)) = cs[cs.length - 1 - i] :: cs.drop (cs.length - i) := by
        rw [show cs.length - (i + 1) = cs.length - 1 - i by omega, List.drop_eq_getElem_cons hjl, show cs.length - 1 - i + 1 = cs.length - i by omega]
      have hby : t.data.toList[t.size - 1 - i]? = some cs[cs.length - 1 - i] := by rw [HTL.out, HTS.out]; exact List.getElem?_eq_getElem hjl
      obtain ⟨b, hb⟩ : ∃ b, cs[cs.length - 1 - i] = b := ⟨_, rfl⟩
      rw [hb] at hdr hby
      have hlen : (cs.drop (cs.length - i)).length = i := by rw [List.length_drop]; omega
      have hnl := numB_lt (cs.drop (cs.length - i))
      rw [hlen, ← HXN.out] at hnl
      obtain ⟨r1, r2, r3, r4⟩ := read_step (b := b.toNat) HXD.out hqx hnl b.toNat_lt
      have hcell : wr.cell? ⟨w.heap.size, i / 8, none⟩ = some (.int .u64 (x[i / 8] : Int)) := by rw [HK.out.cell (i / 8)]; exact ws_at hqx
      obtain ⟨y, hy⟩ : ∃ y, x[i / 8] = y := ⟨_, rfl⟩
      rw [hy] at r1 r2 r3 r4 hcell
      obtain ⟨x2, hx2⟩ : ∃ x2, x.set (i / 8) (b.toNat * 256 ^ (i % 8) + y) = x2 := ⟨_, rfl⟩
      rw [hx2] at r3 r4
      have HX2 := Lib.hid hx2
      have HN2 := Lib.hid (show num x2 = numB (cs.drop (cs.length - (i + 1))) by rw [r3, hdr, numB_cons, hlen, HXN.out]; omega)
      have HD2 := Lib.hid r4
      have HL2 := Lib.hid (show x2.length = L by rw [← hx2, List.length_set]; exact HXL.out)
      have HYL := Lib.hid r1
      have HOR := Lib.hid r2
      have HSH := Lib.hid (show b.toNat * 256 ^ (i % 8) < B by omega)
      have HBY := Lib.hid hby
      have HCE := Lib.hid hcell
      have HZ1 := Lib.hid (show IntKind.i64.wrap ((t.size : Int) - 1) = ((t.size - 1 : Nat) : Int) by have := HTS.out; rw [IntWalk.i64_in _ (by omega)]; omega)
      have HZ2 := Lib.hid (show IntKind.i64.wrap (((t.size - 1 : Nat) : Int) - (i : Int)) = ((t.size - 1 - i : Nat) : Int) by have := HTS.out; rw [IntWalk.i64_in _ (by omega)]; omega)
      clear hdr hby hb hlen hnl r1 r2 r3 r4 hcell hy hx2 hqx hjl HXN HXD
      go_wp2_with fail
      refine late_begin (S := TillQ 19 (fun W => W.cell? ⟨w.heap.size, i / 8, none⟩ = some (.int .u64 (y : Int)))) (by kernel_rfl) ?_
      have hS1 : wr.drew.cell? ⟨w.heap.size, i / 8, none⟩ = some (.int .u64 (y : Int)) := HCE.out
      have hK1 : Blk wr.drew w.heap.size 53 (ws x) := HK.out
      have hB1 := (Below.refl wr.heap.size wr).drew
      generalize wr.drew = u1 at hS1 hK1 hB1 ⊢
      have hS0 : ∀ {L}, TillQ 19 (fun W => W.cell? ⟨w.heap.size, i / 8, none⟩ = some (.int .u64 (y : Int))) L u1 := fun _ => hS1
      refine late_take [19] (i := 0) (some 18) rfl rfl rfl (by kernel_rfl) (by kernel_rfl) (by kernel_rfl) (by kernel_rfl) (by kernel_rfl) (fun Ls W h => h.off (by decide)) (.slice (some ⟨w.heap.size, 0, none⟩) L L) (fun _ _ _ h => h) (fun Ls W hl hW => exec_move (.tmp 3) rfl _ rfl) hS0 hS0 ?_
      go_frame
      refine late_take [19] (i := 1) (some 19) rfl rfl rfl (by kernel_rfl) (by kernel_rfl) (by kernel_rfl) (by kernel_rfl) (by kernel_rfl) (fun Ls W h => h.off (by decide)) (.int .i64 i) (fun _ _ _ h => h) (fun Ls W hl hW => exec_move (.tmp 4) rfl _ rfl) hS0 hS0 ?_
      go_frame
      refine late_take [19] (i := 2) (some 20) rfl rfl rfl (by kernel_rfl) (by kernel_rfl) (by kernel_rfl) (by kernel_rfl) (by kernel_rfl) (fun Ls W h => h.off (by decide)) (.int .i64 ((i / 8 : Nat) : Int)) (fun _ _ _ h => h) (fun Ls W hl hW => exec_bin .quo 3 _ (.tmp 19) (.const (.int .i64 8)) rfl _ _ _ rfl rfl rfl (run_quo8 i (by omega) W)) hS0 hS0 ?_
      go_frame
      refine late_take [19] (i := 3) (some 21) rfl rfl rfl (by kernel_rfl) (by kernel_rfl) (by kernel_rfl) (by kernel_rfl) (by kernel_rfl) (fun Ls W h => h.off (by decide)) (.pointer (some ⟨w.heap.size, 0 + i / 8, none⟩)) (fun _ _ _ h => h) (fun Ls W hl hW => exec_atW (.tmp 18) (.tmp 20) rfl w.heap.size 0 L L (i / 8) (by omega) rfl rfl) hS0 hS0 ?_
      go_frame
      refine late_take [19] (i := 4) (some 22) rfl rfl rfl (by kernel_rfl) (by kernel_rfl) (by kernel_rfl) (by kernel_rfl) (by kernel_rfl) (fun Ls W h => h.off (by decide)) (.int .u64 (y : Int)) (fun _ _ _ h => h) (fun Ls W hl hW => exec_loadW (.tmp 21) rfl y rfl (by rw [Nat.zero_add]; exact hW (hl 19 (by simp)))) hS0 hS0 ?_
      go_frame
      refine late_take [19] (i := 5) (some 23) rfl rfl rfl (by kernel_rfl) (by kernel_rfl) (by kernel_rfl) (by kernel_rfl) (by kernel_rfl) (fun Ls W h => h.off (by decide)) (.string t) (fun _ _ _ h => h) (fun Ls W hl hW => exec_move (.tmp 0) rfl _ rfl) hS0 hS0 ?_
      go_frame
      refine late_take [19] (i := 6) (some 24) rfl rfl rfl (by kernel_rfl) (by kernel_rfl) (by kernel_rfl) (by kernel_rfl) (by kernel_rfl) (fun Ls W h => h.off (by decide)) (.string t) (fun _ _ _ h => h) (fun Ls W hl hW => exec_move (.tmp 0) rfl _ rfl) hS0 hS0 ?_
      go_frame
      refine late_take [19] (i := 7) (some 25) rfl rfl rfl (by kernel_rfl) (by kernel_rfl) (by kernel_rfl) (by kernel_rfl) (by kernel_rfl) (fun Ls W h => h.off (by decide)) (.int .i64 (t.size : Int)) (fun _ _ _ h => h) (fun Ls W hl hW => exec_lenS _ (.tmp 24) rfl Tryz.underlying9 t rfl) hS0 hS0 ?_
      go_frame
      refine late_take [19] (i := 8) (some 26) rfl rfl rfl (by kernel_rfl) (by kernel_rfl) (by kernel_rfl) (by kernel_rfl) (by kernel_rfl) (fun Ls W h => h.off (by decide)) (.int .i64 ((t.size - 1 : Nat) : Int)) (fun _ _ _ h => h) (fun Ls W hl hW => exec_subI _ (.tmp 25) (.const (.int .i64 1)) _ rfl _ _ _ rfl rfl HZ1.out) hS0 hS0 ?_
      go_frame
      refine late_take [19] (i := 9) (some 27) rfl rfl rfl (by kernel_rfl) (by kernel_rfl) (by kernel_rfl) (by kernel_rfl) (by kernel_rfl) (fun Ls W h => h.off (by decide)) (.int .i64 i) (fun _ _ _ h => h) (fun Ls W hl hW => exec_move (.tmp 4) rfl _ rfl) hS0 hS0 ?_
      go_frame
      refine late_take [19] (i := 10) (some 28) rfl rfl rfl (by kernel_rfl) (by kernel_rfl) (by kernel_rfl) (by kernel_rfl) (by kernel_rfl) (fun Ls W h => h.off (by decide)) (.int .i64 ((t.size - 1 - i : Nat) : Int)) (fun _ _ _ h => h) (fun Ls W hl hW => exec_subI _ (.tmp 26) (.tmp 27) _ rfl _ _ _ rfl rfl HZ2.out) hS0 hS0 ?_
      go_frame
      refine late_take [19] (i := 11) (some 29) rfl rfl rfl (by kernel_rfl) (by kernel_rfl) (by kernel_rfl) (by kernel_rfl) (by kernel_rfl) (fun Ls W h => h.off (by decide)) (.int .u8 b.toNat) (fun _ _ _ h => h) (fun Ls W hl hW => exec_indexS (.tmp 23) (.tmp 28) rfl t (t.size - 1 - i) b HBY.out rfl rfl) hS0 hS0 ?_
      go_frame
      refine late_take [19] (i := 12) (some 30) rfl rfl rfl (by kernel_rfl) (by kernel_rfl) (by kernel_rfl) (by kernel_rfl) (by kernel_rfl) (fun Ls W h => h.off (by decide)) (.int .u64 (b.toNat : Int)) (fun _ _ _ h => h) (fun Ls W hl hW => exec_convert 5 53 (.tmp 29) rfl _ _ rfl (run_conv8 b W)) hS0 hS0 ?_
      go_frame
      refine late_take [19] (i := 13) (some 31) rfl rfl rfl (by kernel_rfl) (by kernel_rfl) (by kernel_rfl) (by kernel_rfl) (by kernel_rfl) (fun Ls W h => h.off (by decide)) (.int .i64 i) (fun _ _ _ h => h) (fun Ls W hl hW => exec_move (.tmp 4) rfl _ rfl) hS0 hS0 ?_
      go_frame
      refine late_take [19] (i := 14) (some 32) rfl rfl rfl (by kernel_rfl) (by kernel_rfl) (by kernel_rfl) (by kernel_rfl) (by kernel_rfl) (fun Ls W h => h.off (by decide)) (.int .i64 ((i % 8 : Nat) : Int)) (fun _ _ _ h => h) (fun Ls W hl hW => exec_bin .rem 3 _ (.tmp 31) (.const (.int .i64 8)) rfl _ _ _ rfl rfl rfl (run_rem8 i (by omega) W)) hS0 hS0 ?_
      go_frame
      refine late_take [19] (i := 15) (some 33) rfl rfl rfl (by kernel_rfl) (by kernel_rfl) (by kernel_rfl) (by kernel_rfl) (by kernel_rfl) (fun Ls W h => h.off (by decide)) (.int .i64 ((8 * (i % 8) : Nat) : Int)) (fun _ _ _ h => h) (fun Ls W hl hW => exec_bin .mul 3 _ (.const (.int .i64 8)) (.tmp 32) rfl _ _ _ rfl rfl rfl (run_mul8 (i % 8) (by omega) W)) hS0 hS0 ?_
      go_frame
      refine late_take [19] (i := 16) (some 34) rfl rfl rfl (by kernel_rfl) (by kernel_rfl) (by kernel_rfl) (by kernel_rfl) (by kernel_rfl) (fun Ls W h => h.off (by decide)) (.int .u64 ((b.toNat * 256 ^ (i % 8) : Nat) : Int)) (fun _ _ _ h => h) (fun Ls W hl hW => exec_bin .shl 53 _ (.tmp 30) (.tmp 33) rfl _ _ _ rfl rfl rfl (run_shlB b.toNat (i % 8) HSH.out (by omega) W)) hS0 hS0 ?_
      go_frame
      refine late_take [19] (i := 17) (some 35) rfl rfl rfl (by kernel_rfl) (by kernel_rfl) (by kernel_rfl) (by kernel_rfl) (by kernel_rfl) (fun Ls W h => h.off (by decide)) (.int .u64 ((b.toNat * 256 ^ (i % 8) + y : Nat) : Int)) (fun _ _ _ h => h) (fun Ls W hl hW => exec_bin .or 53 _ (.tmp 22) (.tmp 34) rfl _ _ _ rfl rfl rfl (run_orB y b.toNat (i % 8) HOR.out HYL.out W)) hS0 hS0 ?_
      go_frame
      refine late_take [19] (i := 18) (some 36) rfl rfl rfl (by kernel_rfl) (by kernel_rfl) (by kernel_rfl) (by kernel_rfl) (by kernel_rfl) (fun Ls W h => h.off (by decide)) (.pointer (some ⟨w.heap.size, 0 + i / 8, none⟩)) (fun _ _ _ h => h) (fun Ls W hl hW => exec_atW (.tmp 18) (.tmp 20) rfl w.heap.size 0 L L (i / 8) (by omega) rfl rfl) hS0 hS0 ?_
      go_frame
      refine late_one (i := 19) (by kernel_rfl) (op_wp rfl rfl (wp_store_w (.tmp 36) (.tmp 35) rfl w.heap.size (0 + i / 8) 53 x (b.toNat * 256 ^ (i % 8) + y) rfl rfl hK1 (by rw [Nat.zero_add, HXL.out]; exact hq) (fun w5 hk5 ho5 => ⟨fun h => absurd h (by decide), late_done (by kernel_rfl) ?_ _⟩)))
      go_frame
      rw [Nat.zero_add, HX2.out] at hk5
      have HK5 := Lib.hid hk5
      have HB5 := Lib.hid ((HB.out.trans (hB1.mono HB.out.size)).trans (ho5.below (Nat.le_refl _)))
      clear hk5 ho5 hS1 hK1 hB1 hS0 HCE
      go_wp2
      go_roundw
      case rel => exact ⟨i + 1, x2, by go_num, by omega, HL2, HD2, HN2, HK5, HB5⟩
      case measure => simp [intOf]; omega
    · obtain rfl : i = cs.length := by omega
      have d1 : decide ((cs.length : Int) < (cs.length : Int)) = false := decide_eq_false (by omega)
      have hx := read_done HXD.out HCB.out (by rw [HXL.out, HLL.out]) (by have := HXN.out; rwa [Nat.sub_self, List.drop_zero] at this)
      rw [HCN.out] at hx
      subst hx
      have HV := Lib.hid (show NewW wr N (.slice (some ⟨w.heap.size, 0, none⟩) L L) from ⟨_, _, by rw [HXL.out], rdW_blk HK.out, by rw [HXL.out]; exact Nat.le_refl _⟩)
      go_wp2
      go_ret
      exact ⟨_, rfl, HV.out, HB.out⟩
end Go.Proofs.YtkjnfobaoaaopaaGreatDoor
