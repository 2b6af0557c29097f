/- Clean, read and text. -/
import Derived.Test.YtpmlihhofmblpaaGreatDoorMa
namespace Go.Proofs.YtpmlihhofmblpaaGreatDoor
open Go.RowKit Hm Wm Wn

theorem wp_store_w {w : World} {op : Oper} {a : Act} {K : Act → World → Prop} {Q : Exit → Act → World → Prop} (x y : Operand) (ho : op.op = .store 89 x y)
    (g o : Nat) (t : TypeId) (l : List Nat) (v : Nat) (hx : a.eval x = .pointer (some ⟨g, o, none⟩)) (hy : a.eval y = .int .u64 v) (hb : Blk w g t (ws l)) (hl : o < l.length)
    (h : ∀ w', Blk w' g t (ws (l.set o v)) → Only g w w' → K (a.put op.dst undef) w') : op.wp Tryz.prog a w K Q := by
  have hfit : o + 1 ≤ (ws l).length := by rw [ws_len]; omega
  have hs := run_storeCells_at Tryz.prog g o t [wu v] 0 (ws l).toArray w hb (by simpa using hfit) (by intro u hu; rw [List.mem_singleton.1 hu]; rfl)
  have hi : (Tryz.prog.info? 89).map (·.size) = some 1 := by kernel_rfl
  have hrun : (Instr.storeAt 89 (.pointer (some ⟨g, o, none⟩)) (wu v)).run Tryz.prog w = .ok () (w.setRow g (splice (ws l) o [wu v]).toArray) := by
    cases hq : Tryz.prog.info? 89 with
    | none => simp [hq] at hi
    | some i =>
      have hsz : i.size = 1 := by simpa [hq] using hi
      have e : (splice (ws l) o [wu v]).toArray = ((ws l).toArray.toList.take (o + 0) ++ [wu v] ++ (ws l).toArray.toList.drop (o + 0 + [wu v].length)).toArray := by simp [splice]
      rw [e, ← hs]
      simp [Instr.storeAt, Instr.sureAddr, storeVar, sizeOf, typeInfo, hq, Value.cells, hsz, wu]
  have hsp : splice (ws l) o [wu v] = ws (l.set o v) := by
    rw [← ws_set]
    unfold splice
    rw [List.set_eq_take_append_cons_drop, if_pos (by rw [ws_len]; exact hl)]
    simp
  rw [hsp] at hrun
  unfold Oper.wp execOp
  simp only [ho, hx, hy, Sem.run_bind]
  have e2 : (Value.int IntKind.u64 (v : Int)) = wu v := rfl
  rw [e2, hrun]
  exact h _ (setRow_heap w g _ _ t _ hb) (Only.setRow w g _)
theorem wd_flat (W : World) : (isAgg 89).run Tryz.prog W = .ok false W := by kernel_rfl
theorem wd_elem : Tryz.prog.elem 86 = 89 := by kernel_rfl
theorem wd_sizeOf (W : World) : (sizeOf 89).run Tryz.prog W = .ok 1 W := by kernel_rfl
theorem run_atW (b off n c k : Nat) (hk : k < n) (W : World) : (Instr.indexAt 86 (.slice (some ⟨b, off, none⟩) n c) (.int .i64 k)).run Tryz.prog W = .ok (.pointer (some ⟨b, off + k, none⟩)) W := by
  refine (run_indexAt_slice W 86 ⟨b, off, none⟩ n c .i64 k (by rw [wd_elem]; exact dg_under)).trans ?_
  rw [if_pos ⟨by omega, by omega⟩, wd_elem, wd_sizeOf, Result.andThen_ok, Int.toNat_natCast, Addr.add_mid, Nat.mul_one]
theorem exec_atW {oi : Oper} {a : Act} {w : World} (x y : Operand) (ho : oi.op = .indexAddr 86 x y) (b off n c k : Nat) (hk : k < n) (hx : a.eval x = .slice (some ⟨b, off, none⟩) n c) (hy : a.eval y = .int .i64 k) : (execOp a.eval oi).run Tryz.prog w = .ok (.value (.pointer (some ⟨b, off + k, none⟩))) w :=
  exec_indexAddr _ x y ho _ _ _ hx hy (run_atW b off n c k hk w)
theorem run_load_cell {W : World} {g o : Nat} {v : Value} {ty : TypeId} (hag : ∀ W, (isAgg ty).run Tryz.prog W = .ok false W) (h : W.cell? ⟨g, o, none⟩ = some v) : (Instr.loadAt ty (.pointer (some ⟨g, o, none⟩))).run Tryz.prog W = .ok v W := by
  simp [Instr.loadAt, Instr.sureAddr, loadVar, hag, run_load, h]
theorem exec_loadW {oi : Oper} {a : Act} {w : World} {g o : Nat} (x : Operand) (ho : oi.op = .load 89 x) (v : Nat) (hx : a.eval x = .pointer (some ⟨g, o, none⟩)) (h : w.cell? ⟨g, o, none⟩ = some (.int .u64 v)) : (execOp a.eval oi).run Tryz.prog w = .ok (.value (.int .u64 v)) w :=
  exec_load 89 x ho _ _ hx (run_load_cell wd_flat h)
theorem exec_lenS {P : Program} {oi : Oper} {a : Act} {w : World} (t : TypeId) (x : Operand) (ho : oi.op = .call { callee := .builtin .len, args := #[x], argTypes := #[t] }) (hu : P.underlying t = some .string) (s : ByteArray) (hx : a.eval x = .string s) : (execOp a.eval oi).run P w = .ok (.value (.int .i64 s.size)) w := by
  unfold execOp
  simp [ho, resolve, invoke, builtin, hx, Builtin.len_, run_underlying hu, goInt]
theorem exec_indexS {oi : Oper} {a : Act} {w : World} (x y : Operand) (ho : oi.op = .index 9 x y) (s : ByteArray) (k : Nat) (b : UInt8) (hb : s.data.toList[k]? = some b) (hx : a.eval x = .string s) (hy : a.eval y = .int .i64 k) : (execOp a.eval oi).run Tryz.prog w = .ok (.value (.int .u8 b.toNat)) w := by
  refine exec_index 9 x y ho _ _ _ hx hy ?_
  rw [run_index_string w 9 s .i64 k Tryz.underlying9]
  obtain ⟨h1, h2⟩ := List.getElem?_eq_some_iff.1 hb
  have h3 : k < s.size := by simpa using h1
  rw [dif_pos ⟨by omega, by omega⟩]
  simp only [Int.toNat_natCast]
  simp only [Array.getElem_toList] at h2
  rw [← h2]
  rfl
theorem run_quo8 (i : Nat) (h : i ≤ 1000000) (w : World) : (binOp .quo 3 (.int .i64 i) (.int .i64 8)).run Tryz.prog w = .ok (.int .i64 ((i / 8 : Nat) : Int)) w := by
  simp [binOp, go_sem]
  simp [IntKind.wrap, IntKind.bits, IntKind.signed]; omega
theorem run_rem8 (i : Nat) (h : i ≤ 1000000) (w : World) : (binOp .rem 3 (.int .i64 i) (.int .i64 8)).run Tryz.prog w = .ok (.int .i64 ((i % 8 : Nat) : Int)) w := by
  simp [binOp, go_sem]
  rw [Int.tmod_eq_emod_of_nonneg (by omega)]
theorem run_mul8 (i : Nat) (h : i ≤ 1000000) (w : World) : (binOp .mul 3 (.int .i64 8) (.int .i64 i)).run Tryz.prog w = .ok (.int .i64 ((8 * i : Nat) : Int)) w := by
  simp [binOp, go_sem]
  simp [IntKind.wrap, IntKind.bits, IntKind.signed]; omega
theorem pow_256 (r : Nat) : (2 : Nat) ^ (8 * r) = 256 ^ r := by rw [Nat.pow_mul]
theorem run_shlB (b r : Nat) (h : b * 256 ^ r < B) (hr : r < 8) (w : World) : (binOp .shl 89 (.int .u64 b) (.int .i64 ((8 * r : Nat) : Int))).run Tryz.prog w = .ok (.int .u64 ((b * 256 ^ r : Nat) : Int)) w := by
  rw [binOp_shl, shift_shl .u64 .i64 (b : Int) ((8 * r : Nat) : Int) (by omega) (by show _ ≤ ((64 : Nat) : Int); omega), Sem.run_pure]
  have e : ((b : Int) * 2 ^ ((8 * r : Nat) : Int).toNat) = ((b * 256 ^ r : Nat) : Int) := by rw [Int.toNat_natCast, ← pow_256]; push_cast; rfl
  rw [e, IntKind.wrap_u64]
  unfold B at h
  congr 2
  omega
theorem run_orB (x b r : Nat) (h : b * 256 ^ r + x < B) (hx : x < 256 ^ r) (w : World) : (binOp .or 89 (.int .u64 x) (.int .u64 ((b * 256 ^ r : Nat) : Int))).run Tryz.prog w = .ok (.int .u64 ((b * 256 ^ r + x : Nat) : Int)) w := by
  have h1 : bits .or .u64 (x : Int) ((b * 256 ^ r : Nat) : Int) = ((b * 256 ^ r + x : Nat) : Int) := by
    unfold B at h
    rw [bits_or_u64_nat x _ (by omega) (by omega), Nat.or_comm]
    congr 1
    rw [← pow_256] at hx ⊢
    rw [← Nat.shiftLeft_eq, Nat.shiftLeft_add_eq_or_of_lt hx]
  simp [binOp, go_sem]
  exact h1
theorem run_conv8 (b : UInt8) (w : World) : (convert 5 89 (.int .u8 b.toNat)).run Tryz.prog w = .ok (.int .u64 (b.toNat : Int)) w := by
  have := b.toNat_lt
  simp [convert, go_sem]
  rw [IntKind.wrap_u64]; omega
theorem clean_any (s : ByteArray) (w : World) : Calls Tryz.prog 85 #[.string s] w fun e w' => e = .returned (.string (sb (canS (numB s.data.toList)))) ∧ w' = w := by
  have h := Tryz.strings_TrimLeft_one s 0 (by decide) w
  have e : Lib.trimLeftB s.data.toList 0 = canS (numB s.data.toList) := clean_eq s.data.toList
  rw [e] at h
  have HT := Lib.hid h
  clear h e
  go_enter Tryz.func85, Tryz.ntmps85
  go_wp2_with fail
  refine HT.out.mono ?_
  rintro e w' ⟨rfl, rfl⟩
  go_wp2
  go_ret
  exact ⟨rfl, rfl⟩
/-- What stands in the loop of read. -/
def ReR (w : World) (L : Nat) (cs : List UInt8) (iv : Value) (wr : World) : Prop :=
  ∃ (i : Nat) (x : List Nat), iv = .int .i64 i ∧ i ≤ cs.length ∧ Hid (x.length = L) ∧ Hid (Dig x) ∧ Hid (num x = numB (cs.drop (cs.length - i))) ∧ Hid (Blk wr w.heap.size 89 (ws x)) ∧ Hid (Below w.heap.size w wr)
set_option maxRecDepth 100000 in
set_option maxHeartbeats 400000 in
theorem read_any (s : ByteArray) (w : World) (hs : (canS (numB s.data.toList)).length ≤ 100000) : Calls Tryz.prog 55 #[.string s] w fun e w' => ∃ v, e = .returned v ∧ NewW w' (numB s.data.toList) v ∧ Below w.heap.size w w' := by
  have hc := clean_any s w
  have hcb := canB_canS (numB s.data.toList)
  have hcn := numB_canS (numB s.data.toList)
  obtain ⟨N, hN⟩ : ∃ N, numB s.data.toList = N := ⟨_, rfl⟩
  rw [hN] at hc hcb hcn hs ⊢
  obtain ⟨cs, hcs⟩ : ∃ cs, canS N = cs := ⟨_, rfl⟩
  rw [hcs] at hc hcb hcn hs
  obtain ⟨t, ht⟩ : ∃ t, sb cs = t := ⟨_, rfl⟩
  have htl : t.data.toList = cs := by rw [← ht, sb_list]
  have hts : t.size = cs.length := by rw [← ht, sb_size]
  rw [ht] at hc
  obtain ⟨L, hL⟩ : ∃ L, (cs.length + 7) / 8 = L := ⟨_, rfl⟩
  have HC := Lib.hid hc
  have HCB := Lib.hid hcb
  have HCN := Lib.hid hcn
  have HTL := Lib.hid htl
  have HLL := Lib.hid hL
  have HTS := Lib.hid hts
  have HLE := Lib.hid (show ((cs.length : Int) + 8 - 1) / 8 = (L : Int) by omega)
  have hL1 : L ≤ 100000 := by omega
  have hL8 : cs.length ≤ 8 * L := by omega
  clear hc hcb hcn hcs ht htl hN
  go_enter Tryz.func55, Tryz.ntmps55
  go_wp2_with fail
  refine HC.out.mono ?_
  rintro e w1 ⟨rfl, hw⟩
  obtain rfl : w = w1 := hw.symm
  go_wp2_with (refine wpList_makeW rfl (.tmp 11) (.tmp 11) rfl L (congrArg (Value.int .i64) HLE.out) (congrArg (Value.int .i64) HLE.out) (by omega) ?_; intro w1 HK1 HB1)
  clear hts
  go_loopw [15] (ReR w L cs) (fun iv _ => cs.length - (intOf iv).toNat)
  case atStart => exact ⟨0, zd L, rfl, Nat.zero_le _, Lib.hid (zd_len _), Lib.hid (dig_zeros _), Lib.hid (by unfold zd; rw [num_zeros, Nat.sub_zero, List.drop_length]; rfl), HK1, HB1⟩
  case round =>
    obtain ⟨i, x, rfl, hi, HXL, HXD, HXN, HK, HB⟩ := hrel
    by_cases hlt : i < cs.length
    · have d1 : decide ((i : Int) < (cs.length : Int)) = true := decide_eq_true (by omega)
      have d1' : decide (i < cs.length) = true := decide_eq_true hlt
      have hq : i / 8 < L := by omega
      have hqx : i / 8 < x.length := by rw [HXL.out]; exact hq
      have hjl : cs.length - 1 - i < cs.length := by omega
      have hdr : cs.drop (cs.length - (i + 1)) = cs[cs.length - 1 - i] :: cs.drop (cs.length - i) := by
        rw [show cs.length - (i + 1) = cs.length - 1 - i by omega, List.drop_eq_getElem_cons hjl, show cs.length - 1 - i + 1 = cs.length - i by omega]
      have hby : t.data.toList[t.size - 1 - i]? = some cs[cs.length - 1 - i] := by rw [HTL.out, HTS.out]; exact List.getElem?_eq_getElem hjl
      obtain ⟨b, hb⟩ : ∃ b, cs[cs.length - 1 - i] = b := ⟨_, rfl⟩
      rw [hb] at hdr hby
      have hlen : (cs.drop (cs.length - i)).length = i := by rw [List.length_drop]; omega
      have hnl := numB_lt (cs.drop (cs.length - i))
      rw [hlen, ← HXN.out] at hnl
      obtain ⟨r1, r2, r3, r4⟩ := read_step (b := b.toNat) HXD.out hqx hnl b.toNat_lt
      have hcell : wr.cell? ⟨w.heap.size, i / 8, none⟩ = some (.int .u64 (x[i / 8] : Int)) := by rw [HK.out.cell (i / 8)]; exact ws_at hqx
      obtain ⟨y, hy⟩ : ∃ y, x[i / 8] = y := ⟨_, rfl⟩
      rw [hy] at r1 r2 r3 r4 hcell
      obtain ⟨x2, hx2⟩ : ∃ x2, x.set (i / 8) (b.toNat * 256 ^ (i % 8) + y) = x2 := ⟨_, rfl⟩
      rw [hx2] at r3 r4
      have HX2 := Lib.hid hx2
      have HN2 := Lib.hid (show num x2 = numB (cs.drop (cs.length - (i + 1))) by rw [r3, hdr, numB_cons, hlen, HXN.out]; omega)
      have HD2 := Lib.hid r4
      have HL2 := Lib.hid (show x2.length = L by rw [← hx2, List.length_set]; exact HXL.out)
      have HYL := Lib.hid r1
      have HOR := Lib.hid r2
      have HSH := Lib.hid (show b.toNat * 256 ^ (i % 8) < B by omega)
      have HBY := Lib.hid hby
      have HCE := Lib.hid hcell
      have HZ1 := Lib.hid (show IntKind.i64.wrap ((t.size : Int) - 1) = ((t.size - 1 : Nat) : Int) by have := HTS.out; rw [IntWalk.i64_in _ (by omega)]; omega)
      have HZ2 := Lib.hid (show IntKind.i64.wrap (((t.size - 1 : Nat) : Int) - (i : Int)) = ((t.size - 1 - i : Nat) : Int) by have := HTS.out; rw [IntWalk.i64_in _ (by omega)]; omega)
      clear hdr hby hb hlen hnl r1 r2 r3 r4 hcell hy hx2 hqx hjl HXN HXD
      go_wp2_with fail
      refine late_begin (S := TillQ 19 (fun W => W.cell? ⟨w.heap.size, i / 8, none⟩ = some (.int .u64 (y : Int)))) (by kernel_rfl) ?_
      have hS1 : wr.drew.cell? ⟨w.heap.size, i / 8, none⟩ = some (.int .u64 (y : Int)) := HCE.out
      have hK1 : Blk wr.drew w.heap.size 89 (ws x) := HK.out
      have hB1 := (Below.refl wr.heap.size wr).drew
      generalize wr.drew = u1 at hS1 hK1 hB1 ⊢
      have hS0 : ∀ {L}, TillQ 19 (fun W => W.cell? ⟨w.heap.size, i / 8, none⟩ = some (.int .u64 (y : Int))) L u1 := fun _ => hS1
      refine late_take [19] (i := 0) (some 18) rfl rfl rfl (by kernel_rfl) (by kernel_rfl) (by kernel_rfl) (by kernel_rfl) (by kernel_rfl) (fun Ls W h => h.off (by decide)) (.slice (some ⟨w.heap.size, 0, none⟩) L L) (fun _ _ _ h => h) (fun Ls W hl hW => exec_move (.tmp 3) rfl _ rfl) hS0 hS0 ?_
      go_frame
      refine late_take [19] (i := 1) (some 19) rfl rfl rfl (by kernel_rfl) (by kernel_rfl) (by kernel_rfl) (by kernel_rfl) (by kernel_rfl) (fun Ls W h => h.off (by decide)) (.int .i64 i) (fun _ _ _ h => h) (fun Ls W hl hW => exec_move (.tmp 4) rfl _ rfl) hS0 hS0 ?_
      go_frame
      refine late_take [19] (i := 2) (some 20) rfl rfl rfl (by kernel_rfl) (by kernel_rfl) (by kernel_rfl) (by kernel_rfl) (by kernel_rfl) (fun Ls W h => h.off (by decide)) (.int .i64 ((i / 8 : Nat) : Int)) (fun _ _ _ h => h) (fun Ls W hl hW => exec_bin .quo 3 _ (.tmp 19) (.const (.int .i64 8)) rfl _ _ _ rfl rfl rfl (run_quo8 i (by omega) W)) hS0 hS0 ?_
      go_frame
      refine late_take [19] (i := 3) (some 21) rfl rfl rfl (by kernel_rfl) (by kernel_rfl) (by kernel_rfl) (by kernel_rfl) (by kernel_rfl) (fun Ls W h => h.off (by decide)) (.pointer (some ⟨w.heap.size, 0 + i / 8, none⟩)) (fun _ _ _ h => h) (fun Ls W hl hW => exec_atW (.tmp 18) (.tmp 20) rfl w.heap.size 0 L L (i / 8) (by omega) rfl rfl) hS0 hS0 ?_
      go_frame
      refine late_take [19] (i := 4) (some 22) rfl rfl rfl (by kernel_rfl) (by kernel_rfl) (by kernel_rfl) (by kernel_rfl) (by kernel_rfl) (fun Ls W h => h.off (by decide)) (.int .u64 (y : Int)) (fun _ _ _ h => h) (fun Ls W hl hW => exec_loadW (.tmp 21) rfl y rfl (by rw [Nat.zero_add]; exact hW (hl 19 (by simp)))) hS0 hS0 ?_
      go_frame
      refine late_take [19] (i := 5) (some 23) rfl rfl rfl (by kernel_rfl) (by kernel_rfl) (by kernel_rfl) (by kernel_rfl) (by kernel_rfl) (fun Ls W h => h.off (by decide)) (.string t) (fun _ _ _ h => h) (fun Ls W hl hW => exec_move (.tmp 0) rfl _ rfl) hS0 hS0 ?_
      go_frame
      refine late_take [19] (i := 6) (some 24) rfl rfl rfl (by kernel_rfl) (by kernel_rfl) (by kernel_rfl) (by kernel_rfl) (by kernel_rfl) (fun Ls W h => h.off (by decide)) (.string t) (fun _ _ _ h => h) (fun Ls W hl hW => exec_move (.tmp 0) rfl _ rfl) hS0 hS0 ?_
      go_frame
      refine late_take [19] (i := 7) (some 25) rfl rfl rfl (by kernel_rfl) (by kernel_rfl) (by kernel_rfl) (by kernel_rfl) (by kernel_rfl) (fun Ls W h => h.off (by decide)) (.int .i64 (t.size : Int)) (fun _ _ _ h => h) (fun Ls W hl hW => exec_lenS _ (.tmp 24) rfl Tryz.underlying9 t rfl) hS0 hS0 ?_
      go_frame
      refine late_take [19] (i := 8) (some 26) rfl rfl rfl (by kernel_rfl) (by kernel_rfl) (by kernel_rfl) (by kernel_rfl) (by kernel_rfl) (fun Ls W h => h.off (by decide)) (.int .i64 ((t.size - 1 : Nat) : Int)) (fun _ _ _ h => h) (fun Ls W hl hW => exec_subI _ (.tmp 25) (.const (.int .i64 1)) _ rfl _ _ _ rfl rfl HZ1.out) hS0 hS0 ?_
      go_frame
      refine late_take [19] (i := 9) (some 27) rfl rfl rfl (by kernel_rfl) (by kernel_rfl) (by kernel_rfl) (by kernel_rfl) (by kernel_rfl) (fun Ls W h => h.off (by decide)) (.int .i64 i) (fun _ _ _ h => h) (fun Ls W hl hW => exec_move (.tmp 4) rfl _ rfl) hS0 hS0 ?_
      go_frame
      refine late_take [19] (i := 10) (some 28) rfl rfl rfl (by kernel_rfl) (by kernel_rfl) (by kernel_rfl) (by kernel_rfl) (by kernel_rfl) (fun Ls W h => h.off (by decide)) (.int .i64 ((t.size - 1 - i : Nat) : Int)) (fun _ _ _ h => h) (fun Ls W hl hW => exec_subI _ (.tmp 26) (.tmp 27) _ rfl _ _ _ rfl rfl HZ2.out) hS0 hS0 ?_
      go_frame
      refine late_take [19] (i := 11) (some 29) rfl rfl rfl (by kernel_rfl) (by kernel_rfl) (by kernel_rfl) (by kernel_rfl) (by kernel_rfl) (fun Ls W h => h.off (by decide)) (.int .u8 b.toNat) (fun _ _ _ h => h) (fun Ls W hl hW => exec_indexS (.tmp 23) (.tmp 28) rfl t (t.size - 1 - i) b HBY.out rfl rfl) hS0 hS0 ?_
      go_frame
      refine late_take [19] (i := 12) (some 30) rfl rfl rfl (by kernel_rfl) (by kernel_rfl) (by kernel_rfl) (by kernel_rfl) (by kernel_rfl) (fun Ls W h => h.off (by decide)) (.int .u64 (b.toNat : Int)) (fun _ _ _ h => h) (fun Ls W hl hW => exec_convert 5 89 (.tmp 29) rfl _ _ rfl (run_conv8 b W)) hS0 hS0 ?_
      go_frame
      refine late_take [19] (i := 13) (some 31) rfl rfl rfl (by kernel_rfl) (by kernel_rfl) (by kernel_rfl) (by kernel_rfl) (by kernel_rfl) (fun Ls W h => h.off (by decide)) (.int .i64 i) (fun _ _ _ h => h) (fun Ls W hl hW => exec_move (.tmp 4) rfl _ rfl) hS0 hS0 ?_
      go_frame
      refine late_take [19] (i := 14) (some 32) rfl rfl rfl (by kernel_rfl) (by kernel_rfl) (by kernel_rfl) (by kernel_rfl) (by kernel_rfl) (fun Ls W h => h.off (by decide)) (.int .i64 ((i % 8 : Nat) : Int)) (fun _ _ _ h => h) (fun Ls W hl hW => exec_bin .rem 3 _ (.tmp 31) (.const (.int .i64 8)) rfl _ _ _ rfl rfl rfl (run_rem8 i (by omega) W)) hS0 hS0 ?_
      go_frame
      refine late_take [19] (i := 15) (some 33) rfl rfl rfl (by kernel_rfl) (by kernel_rfl) (by kernel_rfl) (by kernel_rfl) (by kernel_rfl) (fun Ls W h => h.off (by decide)) (.int .i64 ((8 * (i % 8) : Nat) : Int)) (fun _ _ _ h => h) (fun Ls W hl hW => exec_bin .mul 3 _ (.const (.int .i64 8)) (.tmp 32) rfl _ _ _ rfl rfl rfl (run_mul8 (i % 8) (by omega) W)) hS0 hS0 ?_
      go_frame
      refine late_take [19] (i := 16) (some 34) rfl rfl rfl (by kernel_rfl) (by kernel_rfl) (by kernel_rfl) (by kernel_rfl) (by kernel_rfl) (fun Ls W h => h.off (by decide)) (.int .u64 ((b.toNat * 256 ^ (i % 8) : Nat) : Int)) (fun _ _ _ h => h) (fun Ls W hl hW => exec_bin .shl 89 _ (.tmp 30) (.tmp 33) rfl _ _ _ rfl rfl rfl (run_shlB b.toNat (i % 8) HSH.out (by omega) W)) hS0 hS0 ?_
      go_frame
      refine late_take [19] (i := 17) (some 35) rfl rfl rfl (by kernel_rfl) (by kernel_rfl) (by kernel_rfl) (by kernel_rfl) (by kernel_rfl) (fun Ls W h => h.off (by decide)) (.int .u64 ((b.toNat * 256 ^ (i % 8) + y : Nat) : Int)) (fun _ _ _ h => h) (fun Ls W hl hW => exec_bin .or 89 _ (.tmp 22) (.tmp 34) rfl _ _ _ rfl rfl rfl (run_orB y b.toNat (i % 8) HOR.out HYL.out W)) hS0 hS0 ?_
      go_frame
      refine late_take [19] (i := 18) (some 36) rfl rfl rfl (by kernel_rfl) (by kernel_rfl) (by kernel_rfl) (by kernel_rfl) (by kernel_rfl) (fun Ls W h => h.off (by decide)) (.pointer (some ⟨w.heap.size, 0 + i / 8, none⟩)) (fun _ _ _ h => h) (fun Ls W hl hW => exec_atW (.tmp 18) (.tmp 20) rfl w.heap.size 0 L L (i / 8) (by omega) rfl rfl) hS0 hS0 ?_
      go_frame
      refine late_one (i := 19) (by kernel_rfl) (op_wp rfl rfl (wp_store_w (.tmp 36) (.tmp 35) rfl w.heap.size (0 + i / 8) 89 x (b.toNat * 256 ^ (i % 8) + y) rfl rfl hK1 (by rw [Nat.zero_add, HXL.out]; exact hq) (fun w5 hk5 ho5 => ⟨fun h => absurd h (by decide), late_done (by kernel_rfl) ?_ _⟩)))
      go_frame
      rw [Nat.zero_add, HX2.out] at hk5
      have HK5 := Lib.hid hk5
      have HB5 := Lib.hid ((HB.out.trans (hB1.mono HB.out.size)).trans (ho5.below (Nat.le_refl _)))
      clear hk5 ho5 hS1 hK1 hB1 hS0 HCE
      go_wp2
      go_roundw
      case rel => exact ⟨i + 1, x2, by go_num, by omega, HL2, HD2, HN2, HK5, HB5⟩
      case measure => simp [intOf]; omega
    · obtain rfl : i = cs.length := by omega
      have d1 : decide ((cs.length : Int) < (cs.length : Int)) = false := decide_eq_false (by omega)
      have hx := read_done HXD.out HCB.out (by rw [HXL.out, HLL.out]) (by have := HXN.out; rwa [Nat.sub_self, List.drop_zero] at this)
      rw [HCN.out] at hx
      subst hx
      have HV := Lib.hid (show NewW wr N (.slice (some ⟨w.heap.size, 0, none⟩) L L) from ⟨_, _, by rw [HXL.out], rdW_blk HK.out, by rw [HXL.out]; exact Nat.le_refl _⟩)
      go_wp2
      go_ret
      exact ⟨_, rfl, HV.out, HB.out⟩
end Go.Proofs.YtpmlihhofmblpaaGreatDoor

/- text: the canonical string of a row of words. -/
namespace Go.Proofs.YtpmlihhofmblpaaGreatDoor
open Go.RowKit Hm Wm Wn

section
variable {w : World} {ops : Array Oper} {rest : List Oper} {op : Oper} {a : Act} {Q : Exit → Act → World → Prop}
theorem wpList_store_b (hgd : op.guard = none) (x y : Operand) (ho : op.op = .store 5 x y)
    (g o : Nat) (t : TypeId) (l : List UInt8) (v : UInt8) (hx : a.eval x = .pointer (some ⟨g, o, none⟩)) (hy : a.eval y = .int .u8 v.toNat) (hb : Blk w g t (bc l)) (hl : o < l.length)
    (h : ∀ w', Hid (Blk w' g t (bc (l.set o v))) → Only g w w' → wpList Tryz.prog ops Q rest (a.put op.dst undef) w') : wpList Tryz.prog ops Q (op :: rest) a w := by
  have hfit : o + 1 ≤ (bc l).length := by rw [bc_len]; omega
  have hs := run_storeCells_at Tryz.prog g o t [.int .u8 v.toNat] 0 (bc l).toArray w hb (by simpa using hfit) (by intro u hu; rw [List.mem_singleton.1 hu]; rfl)
  have hi : (Tryz.prog.info? 5).map (·.size) = some 1 := by kernel_rfl
  have hrun : (Instr.storeAt 5 (.pointer (some ⟨g, o, none⟩)) (.int .u8 v.toNat)).run Tryz.prog w = .ok () (w.setRow g (splice (bc l) o [Value.int .u8 v.toNat]).toArray) := by
    cases hq : Tryz.prog.info? 5 with
    | none => simp [hq] at hi
    | some i =>
      have hsz : i.size = 1 := by simpa [hq] using hi
      have e : (splice (bc l) o [Value.int .u8 v.toNat]).toArray = ((bc l).toArray.toList.take (o + 0) ++ [Value.int .u8 v.toNat] ++ (bc l).toArray.toList.drop (o + 0 + [Value.int .u8 v.toNat].length)).toArray := by simp [splice]
      rw [e, ← hs]
      simp [Instr.storeAt, Instr.sureAddr, storeVar, sizeOf, typeInfo, hq, Value.cells, hsz]
  have hsp : splice (bc l) o [Value.int .u8 v.toNat] = bc (l.set o v) := by
    unfold splice bc
    rw [List.map_set, List.set_eq_take_append_cons_drop, if_pos (by rw [List.length_map]; exact hl)]
    simp
  rw [hsp] at hrun
  refine wpList_plain hgd fun K hK => ?_
  unfold Oper.wp execOp
  simp only [ho, hx, hy, Sem.run_bind, hrun]
  exact hK _ _ (h _ (Lib.hid (setRow_heap w g _ _ t _ hb)) (Only.setRow w g _))
theorem wpList_makeB (hgd : op.guard = none) (x y : Operand) (ho : op.op = .makeSlice 50 x y) (n : Nat) (hx : a.eval x = .int .i64 n) (hy : a.eval y = .int .i64 n) (hn : n ≤ 1000000)
    (h : ∀ w', Hid (Blk w' w.heap.size 5 (bc (List.replicate n 0))) → Hid (Below w.heap.size w w') → wpList Tryz.prog ops Q rest (a.put op.dst (.slice (some ⟨w.heap.size, 0, none⟩) n n)) w') : wpList Tryz.prog ops Q (op :: rest) a w := by
  refine wpList_plain hgd fun K hK => ?_
  unfold Oper.wp
  rw [exec_makeSlice 50 x y ho _ _ _ hx hy (run_zeros w n hn)]
  exact hK _ _ (h _ (Lib.hid (Blk.new w 5 (bc (List.replicate n 0)))) (Lib.hid ((Below.refl _ _).alloc (Nat.le_refl _) _)))
end
theorem by_elem : Tryz.prog.elem 50 = 5 := by kernel_rfl
theorem by_sizeOf (W : World) : (sizeOf 5).run Tryz.prog W = .ok 1 W := by kernel_rfl
theorem run_atB (b off n c k : Nat) (hk : k < n) (W : World) : (Instr.indexAt 50 (.slice (some ⟨b, off, none⟩) n c) (.int .i64 k)).run Tryz.prog W = .ok (.pointer (some ⟨b, off + k, none⟩)) W := by
  refine (run_indexAt_slice W 50 ⟨b, off, none⟩ n c .i64 k (by rw [by_elem]; exact Tryz.underlying50)).trans ?_
  rw [if_pos ⟨by omega, by omega⟩, by_elem, by_sizeOf, Result.andThen_ok, Int.toNat_natCast, Addr.add_mid, Nat.mul_one]
theorem exec_atB {oi : Oper} {a : Act} {w : World} (x y : Operand) (ho : oi.op = .indexAddr 50 x y) (b off n c k : Nat) (hk : k < n) (hx : a.eval x = .slice (some ⟨b, off, none⟩) n c) (hy : a.eval y = .int .i64 k) : (execOp a.eval oi).run Tryz.prog w = .ok (.value (.pointer (some ⟨b, off + k, none⟩))) w :=
  exec_indexAddr _ x y ho _ _ _ hx hy (run_atB b off n c k hk w)
theorem run_shrB (y r : Nat) (hr : r < 8) (w : World) : (binOp .shr 89 (.int .u64 y) (.int .i64 ((8 * r : Nat) : Int))).run Tryz.prog w = .ok (.int .u64 ((y / 256 ^ r : Nat) : Int)) w := by
  have e : binOp .shr 89 (.int .u64 (y : Int)) (.int .i64 ((8 * r : Nat) : Int)) = Op.shift .shr .u64 (y : Int) .i64 ((8 * r : Nat) : Int) := rfl
  rw [e, shift_shr .u64 .i64 (y : Int) ((8 * r : Nat) : Int) (by omega) (by show _ ≤ ((64 : Nat) : Int); omega), Sem.run_pure]
  have e : ((y : Int) / 2 ^ ((8 * r : Nat) : Int).toNat) = ((y / 256 ^ r : Nat) : Int) := by rw [Int.toNat_natCast, ← pow_256]; push_cast; rfl
  rw [e]
theorem run_convB (z : Nat) (w : World) : (convert 89 5 (.int .u64 z)).run Tryz.prog w = .ok (.int .u8 ((UInt8.ofNat (z % 256)).toNat : Int)) w := by
  have hm : (UInt8.ofNat (z % 256)).toNat = z % 256 := by simp [UInt8.toNat_ofNat']
  rw [hm]
  simp [convert, go_sem]
  simp [IntKind.wrap, IntKind.bits, IntKind.signed]

/-- The byte at a place of a number. -/
theorem byte_at {X : List Nat} {i : Nat} (hd : Dig X) (hq : i / 8 < X.length) : num X / 256 ^ i % 256 = X[i / 8] / 256 ^ (i % 8) % 256 := by
  have e : num X = num (X.take (i / 8)) + B ^ (i / 8) * (X[i / 8] + B * num (X.drop (i / 8 + 1))) := by
    conv => lhs; rw [← List.take_append_drop (i / 8) X, num_append, List.length_take, Nat.min_eq_left (by omega), List.drop_eq_getElem_cons hq, num]
  have h1 := num_lt (hd.take (i / 8))
  rw [List.length_take, Nat.min_eq_left (by omega)] at h1
  have e2 : 256 ^ i = B ^ (i / 8) * 256 ^ (i % 8) := by rw [pow_B256, Nat.div_add_mod]
  have e3 : num X / B ^ (i / 8) = X[i / 8] + B * num (X.drop (i / 8 + 1)) := by
    rw [e, Nat.add_mul_div_left _ _ (Nat.pow_pos B_pos), Nat.div_eq_of_lt h1, Nat.zero_add]
  have e4 : B = 256 ^ (i % 8) * (256 * 256 ^ (7 - i % 8)) := by
    rw [B_256, ← Nat.pow_succ', ← Nat.pow_add]
    congr 1
    omega
  rw [e2, ← Nat.div_div_eq_div_mul, e3]
  conv => lhs; rw [e4]
  rw [Nat.mul_assoc, Nat.add_mul_div_left _ _ (Nat.pow_pos (by decide)), Nat.mul_assoc, Nat.add_mul_mod_self_left]
theorem byte_step (N i : Nat) : N % 256 ^ (i + 1) = N % 256 ^ i + 256 ^ i * (N / 256 ^ i % 256) := by
  rw [Nat.pow_succ, Nat.mod_mul]
theorem rdB_blk {w : World} {g : Nat} {t : TypeId} {l : List UInt8} (h : Blk w g t (bc l)) : Rd w (some ⟨g, 0, none⟩) (bc l) := fun _ => ⟨g, 0, rfl, fun k u hu => by rw [Nat.zero_add, h.cell k]; exact hu⟩
/-- What stands in the loop of text. -/
def TxR (w : World) (X : List Nat) (n : Nat) (iv : Value) (wr : World) : Prop :=
  ∃ (i : Nat) (bl : List UInt8), iv = .int .i64 i ∧ i ≤ n ∧ Hid (bl.length = n) ∧ Hid (numB (bl.drop (n - i)) = num X % 256 ^ i) ∧ Hid (Blk wr w.heap.size 5 (bc bl)) ∧ Hid (Below w.heap.size w wr)
set_option maxRecDepth 100000 in
set_option maxHeartbeats 400000 in
theorem text_any (A : Option Addr) (c : Nat) (X : List Nat) (w : World) (hr : RdW w A X) (hd : Dig X) (hl : X.length ≤ 100000) : Calls Tryz.prog 68 #[.slice A X.length c] w fun e w' => e = .returned (.string (sb (canS (num X)))) ∧ Below w.heap.size w w' := by
  obtain ⟨n, hn⟩ : ∃ n, 8 * X.length = n := ⟨_, rfl⟩
  have HN := Lib.hid (show 8 * (X.length : Int) = (n : Int) by omega)
  have HNN := Lib.hid hn
  have hn1 : n ≤ 1000000 := by omega
  have HR := Lib.hid hr
  have HD := Lib.hid hd
  clear hr hd
  go_enter Tryz.func68, Tryz.ntmps68
  go_wp2_with (refine wpList_makeB rfl (.tmp 7) (.tmp 7) rfl n (congrArg (Value.int .i64) HN.out) (congrArg (Value.int .i64) HN.out) hn1 ?_; intro w1 HK1 HB1)
  go_loopw [11] (TxR w X n) (fun iv _ => n - (intOf iv).toNat)
  case atStart => exact ⟨0, List.replicate n 0, rfl, Nat.zero_le _, Lib.hid List.length_replicate, Lib.hid (by rw [Nat.sub_zero, List.drop_of_length_le (by rw [List.length_replicate]; exact Nat.le_refl _), Nat.pow_zero, Nat.mod_one]; rfl), HK1, HB1⟩
  case round =>
    obtain ⟨i, bl, rfl, hi, HBL, HBN, HK, HB⟩ := hrel
    by_cases hlt : i < n
    · have d1 : decide ((i : Int) < (n : Int)) = true := decide_eq_true (by omega)
      have d1' : decide (i < n) = true := decide_eq_true hlt
      have hq : i / 8 < X.length := by omega
      obtain ⟨b, off, rfl, hcell⟩ := (HR.out.next HB.out).cell hq
      have hba := byte_at HD.out hq
      obtain ⟨y, hy⟩ : ∃ y, X[i / 8] = y := ⟨_, rfl⟩
      rw [hy] at hcell hba
      obtain ⟨r, hrr⟩ : ∃ r, i % 8 = r := ⟨_, rfl⟩
      have hr8 : r < 8 := by omega
      obtain ⟨z, hz⟩ : ∃ z, y / 256 ^ r = z := ⟨_, rfl⟩
      obtain ⟨v, hv⟩ : ∃ v, UInt8.ofNat (z % 256) = v := ⟨_, rfl⟩
      have hvn : v.toNat = z % 256 := by rw [← hv]; simp [UInt8.toNat_ofNat']
      have HSH := Lib.hid (fun W => show (binOp .shr 89 (.int .u64 y) (.int .i64 (8 * ((i : Int) % 8)))).run Tryz.prog W = .ok (.int .u64 (z : Int)) W by rw [show 8 * ((i : Int) % 8) = ((8 * r : Nat) : Int) by omega, ← hz]; exact run_shrB y r hr8 W)
      have HCV := Lib.hid (fun W => show (convert 89 5 (.int .u64 z)).run Tryz.prog W = .ok (.int .u8 (v.toNat : Int)) W by rw [← hv]; exact run_convB z W)
      have hjl : n - 1 - i < bl.length := by rw [HBL.out]; omega
      obtain ⟨bl2, hbl2⟩ : ∃ bl2, bl.set (n - 1 - i) v = bl2 := ⟨_, rfl⟩
      have hd2 : bl2.drop (n - (i + 1)) = v :: bl.drop (n - i) := by
        rw [← hbl2, show n - (i + 1) = n - 1 - i by omega, List.drop_set, if_neg (Nat.lt_irrefl _), Nat.sub_self, List.drop_eq_getElem_cons hjl, List.set_cons_zero, show n - 1 - i + 1 = n - i by omega]
      have hdl : (bl.drop (n - i)).length = i := by rw [List.length_drop, HBL.out]; omega
      have HB2 := Lib.hid (show numB (bl2.drop (n - (i + 1))) = num X % 256 ^ (i + 1) by
        rw [hd2, numB_cons, hdl, HBN.out, byte_step, hba, hrr, hz, hvn, Nat.mul_comm]; omega)
      have HL2 := Lib.hid (show bl2.length = n by rw [← hbl2, List.length_set]; exact HBL.out)
      have HX2 := Lib.hid hbl2
      have HJ := Lib.hid hjl
      clear hba hy hrr hz hv hvn hd2 hdl hjl hbl2 HBL HBN hr8
      go_wp2_with (first | (refine wpList_run 28 rfl rfl _ (exec_bin .shr 89 _ (.tmp 24) (.tmp 27) rfl _ _ _ rfl rfl rfl (HSH.out _)) ?_) | (refine wpList_run 29 rfl rfl _ (exec_convert 89 5 (.tmp 28) rfl _ _ rfl (HCV.out _)) ?_) | (refine wpList_run 30 rfl rfl _ (exec_atB (.tmp 14) (.tmp 19) rfl w.heap.size 0 n n (n - 1 - i) (by omega) rfl (by go_num)) ?_) | (refine wpList_store_b rfl (.tmp 30) (.tmp 29) rfl w.heap.size (n - 1 - i) _ bl v rfl rfl HK.out HJ.out ?_; intro w5 HK5 ho5; have HB5 := Lib.hid (HB.out.trans (ho5.below (Nat.le_refl _))); clear ho5))
      go_roundw
      case rel => exact ⟨i + 1, bl2, by go_num, by omega, HL2, HB2, Lib.hid (by rw [← HX2.out]; exact HK5.out), HB5⟩
      case measure => simp [intOf]; omega
    · obtain rfl : i = n := by omega
      have d1 : decide ((i : Int) < (i : Int)) = false := decide_eq_false (by omega)
      have hnb : numB bl = num X := by
        have := HBN.out
        rw [Nat.sub_self, List.drop_zero] at this
        rw [this, Nat.mod_eq_of_lt]
        have h1 := num_lt HD.out
        rwa [B_256, ← Nat.pow_mul, HNN.out] at h1
      have hrs := run_str (w := wr) (rdB_blk HK.out) i
      rw [HBL.out] at hrs
      have hcl := clean_any (sb bl) wr
      rw [sb_list, hnb] at hcl
      have HRS := Lib.hid hrs
      have HCL := Lib.hid hcl
      clear hnb hrs hcl HBN HBL
      go_wp2_with (refine wpList_run 33 rfl rfl _ (exec_convert 50 9 (.tmp 32) rfl _ _ rfl HRS.out) ?_)
      refine HCL.out.mono ?_
      rintro e w9 ⟨rfl, hw⟩
      obtain rfl : wr = w9 := hw.symm
      go_wp2
      go_ret
      exact ⟨rfl, HB.out⟩
end Go.Proofs.YtpmlihhofmblpaaGreatDoor

/- Cmp, Add, Mul, Sub, Valid, Int and Value. -/
namespace Go.Proofs.YtpmlihhofmblpaaGreatDoor
open Go.RowKit Hm Wm Wn

/-- The number of a string; the canonical string of a number. -/
def nB (s : ByteArray) : Nat := numB s.data.toList
def cS (n : Nat) : ByteArray := sb (canS n)
theorem nB_cS (n : Nat) : nB (cS n) = n := by unfold nB cS; rw [sb_list, numB_canS]
theorem cS_inj {m n : Nat} (h : cS m = cS n) : m = n := by rw [← nB_cS m, h, nB_cS]
theorem nB_lt (s : ByteArray) : nB s < 256 ^ s.size := by have := numB_lt s.data.toList; rwa [show s.data.toList.length = s.size from Array.length_toList] at this
theorem canS_nB (s : ByteArray) : (canS (nB s)).length ≤ s.size := canS_len_le (nB_lt s)
theorem digW_256 {n k : Nat} (h : n < 256 ^ k) : (digW n).length ≤ k := by
  refine digW_len (Nat.lt_of_lt_of_le h ?_)
  rw [B_256, ← Nat.pow_mul]
  exact Nat.pow_le_pow_right (by decide) (by omega)
theorem digW_nB (s : ByteArray) : (digW (nB s)).length ≤ s.size := digW_256 (nB_lt s)
theorem readN (s : ByteArray) (w : World) (hs : s.size ≤ 100000) : Calls Tryz.prog 55 #[.string s] w fun e w' => ∃ v, e = .returned v ∧ NewW w' (nB s) v ∧ Below w.heap.size w w' :=
  read_any s w (Nat.le_trans (canS_nB s) hs)
theorem textN (n : Nat) (A : Option Addr) (c : Nat) (w : World) (hr : RdW w A (digW n)) (hl : (digW n).length ≤ 100000) : Calls Tryz.prog 68 #[.slice A (digW n).length c] w fun e w' => e = .returned (.string (cS n)) ∧ Below w.heap.size w w' := by
  have h := text_any A c (digW n) w hr (dig_digW n) hl
  rwa [num_digW] at h
theorem plusN (m n : Nat) (A : Option Addr) (c : Nat) (A2 : Option Addr) (c2 : Nat) (w : World) (hr : RdW w A (digW m)) (hr2 : RdW w A2 (digW n)) (hl : (digW m).length ≤ 100000) (hl2 : (digW n).length ≤ 100000) :
    Calls Tryz.prog 66 #[.slice A (digW m).length c, .slice A2 (digW n).length c2] w fun e w' => ∃ v, e = .returned v ∧ NewW w' (m + n) v ∧ Below w.heap.size w w' := by
  have h := plus_any A c (digW m) A2 c2 (digW n) w hr hr2 (dig_digW m) (dig_digW n) hl hl2
  rwa [num_digW, num_digW] at h
theorem timesN (m n : Nat) (A : Option Addr) (c : Nat) (A2 : Option Addr) (c2 : Nat) (w : World) (hr : RdW w A (digW m)) (hr2 : RdW w A2 (digW n)) (hl : (digW m).length ≤ 100000) (hl2 : (digW n).length ≤ 100000) :
    Calls Tryz.prog 65 #[.slice A (digW m).length c, .slice A2 (digW n).length c2] w fun e w' => ∃ v, e = .returned v ∧ NewW w' (m * n) v ∧ Below w.heap.size w w' := by
  have h := times_any A c (digW m) A2 c2 (digW n) w hr hr2 (dig_digW m) (dig_digW n) hl hl2
  rwa [num_digW, num_digW] at h
theorem lessN (m f n g : Nat) (A : Option Addr) (c : Nat) (A2 : Option Addr) (c2 : Nat) (w : World) (hr : RdW w A (digW m)) (hr2 : RdW w A2 (digW n)) (hf : f < B) (hg : g < B) (hl : (digW m).length ≤ 100000) (hl2 : (digW n).length ≤ 100000) (hle : g * n ≤ f * m) :
    Calls Tryz.prog 132 #[.slice A (digW m).length c, .int .u64 f, .slice A2 (digW n).length c2, .int .u64 g] w fun e w' => ∃ v, e = .returned v ∧ NewW w' (f * m - g * n) v ∧ Below w.heap.size w w' := by
  have h := less_any A c (digW m) f A2 c2 (digW n) g w hr hr2 (dig_digW m) (dig_digW n) hf hg hl hl2 (by rw [num_digW, num_digW]; exact hle)
  rwa [num_digW, num_digW] at h
theorem sum_lenK {s t : ByteArray} {K : Nat} (hs : s.size ≤ K) (ht : t.size ≤ K) : (digW (nB s + nB t)).length ≤ K + 1 := by
  have h1 : nB s < 256 ^ K := Nat.lt_of_lt_of_le (nB_lt s) (Nat.pow_le_pow_right (by decide) hs)
  have h2 : nB t < 256 ^ K := Nat.lt_of_lt_of_le (nB_lt t) (Nat.pow_le_pow_right (by decide) ht)
  have h3 : nB s + nB t < 256 ^ (K + 1) := by rw [Nat.pow_succ]; omega
  exact digW_256 h3
theorem prod_lenK {s t : ByteArray} {K : Nat} (hs : s.size ≤ K) (ht : t.size ≤ K) : (digW (nB s * nB t)).length ≤ K + K := by
  have h1 : nB s < 256 ^ K := Nat.lt_of_lt_of_le (nB_lt s) (Nat.pow_le_pow_right (by decide) hs)
  have h2 : nB t < 256 ^ K := Nat.lt_of_lt_of_le (nB_lt t) (Nat.pow_le_pow_right (by decide) ht)
  have h3 : nB s * nB t < 256 ^ (K + K) := by
    rw [Nat.pow_add]
    exact Nat.mul_lt_mul_of_lt_of_le h1 (Nat.le_of_lt h2) (Nat.pow_pos (by decide))
  exact digW_256 h3
theorem sum_len {s t : ByteArray} (hs : s.size ≤ 40000) (ht : t.size ≤ 40000) : (digW (nB s + nB t)).length ≤ 100000 := Nat.le_trans (sum_lenK hs ht) (by omega)
theorem prod_len {s t : ByteArray} (hs : s.size ≤ 40000) (ht : t.size ≤ 40000) : (digW (nB s * nB t)).length ≤ 100000 := Nat.le_trans (prod_lenK hs ht) (by omega)
theorem dif_len {s : ByteArray} (k : Nat) (hs : s.size ≤ 40000) : (digW (nB s - k)).length ≤ 100000 :=
  Nat.le_trans (digW_256 (Nat.lt_of_le_of_lt (Nat.sub_le _ _) (nB_lt s))) (by omega)
/-- The order of two numbers. -/
def cmpN (a b : Nat) : Int := if a < b then -1 else if b < a then 1 else 0
theorem cmpB_num : ∀ {s t : List UInt8}, s.length = t.length → Lib.compareBytes s t = cmpN (numB s) (numB t) := by
  intro s
  induction s with
  | nil => intro t h; obtain rfl : t = [] := List.eq_nil_of_length_eq_zero h.symm; rfl
  | cons b s ih =>
    intro t h
    rcases t with _ | ⟨c, t⟩
    · simp at h
    · simp only [List.length_cons, Nat.add_right_cancel_iff] at h
      have h1 := numB_lt s
      have h2 := numB_lt t
      rw [← h] at h2
      unfold Lib.compareBytes
      rw [numB_cons, numB_cons, ← h]
      generalize 256 ^ s.length = p at *
      by_cases hbc : b < c
      · rw [if_pos hbc]
        have h3 : b.toNat < c.toNat := UInt8.lt_iff_toNat_lt.1 hbc
        have h4 : (b.toNat + 1) * p ≤ c.toNat * p := Nat.mul_le_mul_right _ h3
        rw [Nat.add_mul, Nat.one_mul] at h4
        unfold cmpN
        rw [if_pos (by omega)]
      · rw [if_neg hbc]
        by_cases hcb : c < b
        · rw [if_pos hcb]
          have h3 : c.toNat < b.toNat := UInt8.lt_iff_toNat_lt.1 hcb
          have h4 : (c.toNat + 1) * p ≤ b.toNat * p := Nat.mul_le_mul_right _ h3
          rw [Nat.add_mul, Nat.one_mul] at h4
          unfold cmpN
          rw [if_neg (by omega), if_pos (by omega)]
        · rw [if_neg hcb]
          have h3 : b.toNat = c.toNat := by
            have e1 : ¬ b.toNat < c.toNat := fun h => hbc (UInt8.lt_iff_toNat_lt.2 h)
            have e2 : ¬ c.toNat < b.toNat := fun h => hcb (UInt8.lt_iff_toNat_lt.2 h)
            omega
          rw [ih h, h3]
          unfold cmpN
          congr 1
          · exact propext (by omega)
          · congr 1
            exact propext (by omega)
theorem cmp_less {a b : Nat} (h : (canS a).length < (canS b).length) : a < b := by
  have h1 := canS_len_lt a
  have hb : b ≠ 0 := by rintro rfl; rw [canS_zero] at h; simp at h
  have h2 := canS_len_ge hb
  have h3 : 256 ^ (canS a).length ≤ 256 ^ ((canS b).length - 1) := Nat.pow_le_pow_right (by decide) (by omega)
  omega
theorem cS_size (n : Nat) : (cS n).size = (canS n).length := sb_size _
set_option maxRecDepth 100000 in
set_option maxHeartbeats 400000 in
theorem cmp_any (s t : ByteArray) (w : World) : Calls Tryz.prog 82 #[.string s, .string t] w fun e w' => e = .returned (.int .i64 (cmpN (nB s) (nB t))) ∧ w' = w := by
  have HC1 := Lib.hid (fun W => clean_any s W)
  have HC2 := Lib.hid (fun W => clean_any t W)
  have hcm := fun W => Tryz.cmp_Compare_int ((cS (nB s)).size : Int) ((cS (nB t)).size : Int) W
  have hcs := fun W => Tryz.strings_Compare (cS (nB s)) (cS (nB t)) W
  have e1 : (cS (nB s)).data.toList = canS (nB s) := sb_list _
  have e2 : (cS (nB t)).data.toList = canS (nB t) := sb_list _
  rw [e1, e2] at hcs
  change Hid (∀ W, Calls Tryz.prog 85 #[.string s] W fun e w' => e = .returned (.string (cS (nB s))) ∧ w' = W) at HC1
  change Hid (∀ W, Calls Tryz.prog 85 #[.string t] W fun e w' => e = .returned (.string (cS (nB t))) ∧ w' = W) at HC2
  have hlo := cmp_less (a := nB s) (b := nB t)
  have hhi := cmp_less (a := nB t) (b := nB s)
  have heq := fun h => cmpB_num (s := canS (nB s)) (t := canS (nB t)) h
  rw [numB_canS, numB_canS] at heq
  have z1 := cS_size (nB s)
  have z2 := cS_size (nB t)
  rw [← z1, ← z2] at hlo heq
  rw [← z1, ← z2] at hhi
  generalize canS (nB s) = l1 at *
  generalize canS (nB t) = l2 at *
  clear e1 e2 z1 z2
  obtain ⟨a, ha⟩ : ∃ a, cS (nB s) = a := ⟨_, rfl⟩
  obtain ⟨b, hb⟩ : ∃ b, cS (nB t) = b := ⟨_, rfl⟩
  rw [ha] at hcm hcs hlo hhi heq HC1
  rw [hb] at hcm hcs hlo hhi heq HC2
  generalize nB s = m at *
  generalize nB t = n at *
  have HCM := Lib.hid hcm
  have HCS := Lib.hid hcs
  have HLO := Lib.hid hlo
  have HHI := Lib.hid hhi
  have HEQ := Lib.hid heq
  clear hcm hcs hlo hhi heq ha hb
  go_enter Tryz.func82, Tryz.ntmps82
  go_wp2_with fail
  refine (HC1.out _).mono ?_
  rintro e w1 ⟨rfl, hw⟩
  obtain rfl : w = w1 := hw.symm
  go_wp2_with fail
  refine (HC2.out _).mono ?_
  rintro e w1 ⟨rfl, hw⟩
  obtain rfl : w = w1 := hw.symm
  go_wp2_with fail
  refine (HCM.out _).mono ?_
  rintro e w1 ⟨rfl, hw⟩
  obtain rfl : w = w1 := hw.symm
  rcases Nat.lt_trichotomy a.size b.size with hab | hab | hab
  · have e1 : Lib.compareInt (a.size : Int) (b.size : Int) = -1 := by unfold Lib.compareInt; rw [if_pos (by omega)]
    have e2 : cmpN m n = -1 := by unfold cmpN; rw [if_pos (HLO.out hab)]
    rw [e1]
    have HE := Lib.hid e2
    clear e1 e2
    go_wp2
    go_ret
    exact ⟨by rw [HE.out]; rfl, rfl⟩
  · have e1 : Lib.compareInt (a.size : Int) (b.size : Int) = 0 := by unfold Lib.compareInt; rw [if_neg (by omega), if_neg (by omega)]
    rw [e1]
    have HE := Lib.hid (HEQ.out hab)
    clear e1
    go_wp2_with fail
    refine (HCS.out _).mono ?_
    rintro e w1 ⟨rfl, hw⟩
    obtain rfl : w = w1 := hw.symm
    go_wp2
    go_ret
    exact ⟨by rw [← HE.out]; rfl, rfl⟩
  · have e1 : Lib.compareInt (a.size : Int) (b.size : Int) = 1 := by unfold Lib.compareInt; rw [if_neg (by omega), if_pos (by omega)]
    have e2 : cmpN m n = 1 := by have := HHI.out hab; unfold cmpN; rw [if_neg (by omega), if_pos this]
    rw [e1]
    have HE := Lib.hid e2
    clear e1 e2
    go_wp2
    go_ret
    exact ⟨by rw [HE.out]; rfl, rfl⟩
set_option maxRecDepth 100000 in
set_option maxHeartbeats 400000 in
theorem add_any (s t : ByteArray) (w : World) (hs : s.size ≤ 40000) (ht : t.size ≤ 40000) : Calls Tryz.prog 80 #[.string s, .string t] w fun e w' => e = .returned (.string (cS (nB s + nB t))) ∧ Below w.heap.size w w' := by
  have hd1 := digW_nB s
  have hd2 := digW_nB t
  go_enter Tryz.func80, Tryz.ntmps80
  go_wp2_with fail
  refine (readN s w (by omega)).mono ?_
  rintro e w1 ⟨v1, rfl, ⟨A1, c1, rfl, h1, -⟩, hb1⟩
  have HR1 := Lib.hid h1
  have HB1 := Lib.hid hb1
  clear h1 hb1
  go_wp2_with fail
  refine (readN t w1 (by omega)).mono ?_
  rintro e w2 ⟨v2, rfl, ⟨A2, c2, rfl, h2, -⟩, hb2⟩
  replace HR1 := Lib.hid (HR1.out.next hb2)
  have HR2 := Lib.hid h2
  have HB2 := Lib.hid (HB1.out.trans (hb2.mono HB1.out.size))
  clear h2 hb2
  go_wp2_with fail
  refine (plusN (nB s) (nB t) A1 c1 A2 c2 w2 HR1.out HR2.out (by omega) (by omega)).mono ?_
  rintro e w3 ⟨v3, rfl, ⟨A3, c3, rfl, h3, -⟩, hb3⟩
  have HR3 := Lib.hid h3
  have HB3 := Lib.hid (HB2.out.trans (hb3.mono HB2.out.size))
  clear h3 hb3
  go_wp2_with fail
  refine (textN (nB s + nB t) A3 c3 w3 HR3.out (sum_len hs ht)).mono ?_
  rintro e w4 ⟨rfl, hb4⟩
  have HB4 := Lib.hid (HB3.out.trans (hb4.mono HB3.out.size))
  clear hb4
  go_wp2
  go_ret
  exact ⟨rfl, HB4.out⟩
set_option maxRecDepth 100000 in
set_option maxHeartbeats 400000 in
theorem mul_any (s t : ByteArray) (w : World) (hs : s.size ≤ 40000) (ht : t.size ≤ 40000) : Calls Tryz.prog 100 #[.string s, .string t] w fun e w' => e = .returned (.string (cS (nB s * nB t))) ∧ Below w.heap.size w w' := by
  have hd1 := digW_nB s
  have hd2 := digW_nB t
  go_enter Tryz.func100, Tryz.ntmps100
  go_wp2_with fail
  refine (readN s w (by omega)).mono ?_
  rintro e w1 ⟨v1, rfl, ⟨A1, c1, rfl, h1, -⟩, hb1⟩
  have HR1 := Lib.hid h1
  have HB1 := Lib.hid hb1
  clear h1 hb1
  go_wp2_with fail
  refine (readN t w1 (by omega)).mono ?_
  rintro e w2 ⟨v2, rfl, ⟨A2, c2, rfl, h2, -⟩, hb2⟩
  replace HR1 := Lib.hid (HR1.out.next hb2)
  have HR2 := Lib.hid h2
  have HB2 := Lib.hid (HB1.out.trans (hb2.mono HB1.out.size))
  clear h2 hb2
  go_wp2_with fail
  refine (timesN (nB s) (nB t) A1 c1 A2 c2 w2 HR1.out HR2.out (by omega) (by omega)).mono ?_
  rintro e w3 ⟨v3, rfl, ⟨A3, c3, rfl, h3, -⟩, hb3⟩
  have HR3 := Lib.hid h3
  have HB3 := Lib.hid (HB2.out.trans (hb3.mono HB2.out.size))
  clear h3 hb3
  go_wp2_with fail
  refine (textN (nB s * nB t) A3 c3 w3 HR3.out (prod_len hs ht)).mono ?_
  rintro e w4 ⟨rfl, hb4⟩
  have HB4 := Lib.hid (HB3.out.trans (hb4.mono HB3.out.size))
  clear hb4
  go_wp2
  go_ret
  exact ⟨rfl, HB4.out⟩
set_option maxRecDepth 100000 in
set_option maxHeartbeats 400000 in
theorem sub_any (s t : ByteArray) (w : World) (hs : s.size ≤ 40000) (ht : t.size ≤ 40000) (hle : nB t ≤ nB s) : Calls Tryz.prog 127 #[.string s, .string t] w fun e w' => e = .returned (.tuple #[.string (cS (nB s - nB t)), .int .i64 0]) ∧ Below w.heap.size w w' := by
  have hd1 := digW_nB s
  have hd2 := digW_nB t
  have HC := Lib.hid (cmp_any s t w)
  have HE := Lib.hid (show 1 * nB s - 1 * nB t = nB s - nB t by omega)
  have d0 : decide (cmpN (nB s) (nB t) < 0) = false := by
    refine decide_eq_false ?_
    unfold cmpN
    rw [if_neg (by omega)]
    split <;> omega
  go_enter Tryz.func127, Tryz.ntmps127
  go_wp2_with fail
  refine HC.out.mono ?_
  rintro e w1 ⟨rfl, hw⟩
  obtain rfl : w = w1 := hw.symm
  go_wp2_with fail
  refine (readN s w (by omega)).mono ?_
  rintro e w1 ⟨v1, rfl, ⟨A1, c1, rfl, h1, -⟩, hb1⟩
  have HR1 := Lib.hid h1
  have HB1 := Lib.hid hb1
  clear h1 hb1
  go_wp2_with fail
  refine (readN t w1 (by omega)).mono ?_
  rintro e w2 ⟨v2, rfl, ⟨A2, c2, rfl, h2, -⟩, hb2⟩
  replace HR1 := Lib.hid (HR1.out.next hb2)
  have HR2 := Lib.hid h2
  have HB2 := Lib.hid (HB1.out.trans (hb2.mono HB1.out.size))
  clear h2 hb2
  go_wp2_with fail
  refine (lessN (nB s) 1 (nB t) 1 A1 c1 A2 c2 w2 HR1.out HR2.out (by decide) (by decide) (by omega) (by omega) (by omega)).mono ?_
  rw [HE.out]
  rintro e w3 ⟨v3, rfl, ⟨A3, c3, rfl, h3, -⟩, hb3⟩
  have HR3 := Lib.hid h3
  have HB3 := Lib.hid (HB2.out.trans (hb3.mono HB2.out.size))
  clear h3 hb3
  go_wp2_with fail
  refine (textN (nB s - nB t) A3 c3 w3 HR3.out (dif_len _ hs)).mono ?_
  rintro e w4 ⟨rfl, hb4⟩
  have HB4 := Lib.hid (HB3.out.trans (hb4.mono HB3.out.size))
  clear hb4
  go_wp2
  go_ret2
  exact ⟨rfl, HB4.out⟩
set_option maxRecDepth 100000 in
set_option maxHeartbeats 400000 in
theorem sub_low (s t : ByteArray) (w : World) (hlt : nB s < nB t) : Calls Tryz.prog 127 #[.string s, .string t] w fun e w' => e = .returned (.tuple #[.string (cS 0), .int .i64 3]) ∧ w' = w := by
  have HC := Lib.hid (cmp_any s t w)
  have HZ := Lib.hid (show cS 0 = ⟨#[]⟩ by unfold cS; rw [canS_zero]; rfl)
  have d0 : decide (cmpN (nB s) (nB t) < 0) = true := by
    refine decide_eq_true ?_
    unfold cmpN
    rw [if_pos hlt]; omega
  go_enter Tryz.func127, Tryz.ntmps127
  go_wp2_with fail
  refine HC.out.mono ?_
  rintro e w1 ⟨rfl, hw⟩
  obtain rfl : w = w1 := hw.symm
  go_wp2
  go_ret2
  exact ⟨by rw [HZ.out]; rfl, rfl⟩
end Go.Proofs.YtpmlihhofmblpaaGreatDoor

/- Valid, Int and Value. -/
namespace Go.Proofs.YtpmlihhofmblpaaGreatDoor
open Go.RowKit Hm Wm Wn

def validB (s : ByteArray) : Bool := match s.data.toList with | [] => true | b :: _ => b != 0
theorem u8_ne0 (b : UInt8) : ((b.toNat : Int) != 0) = (b != 0) := by
  have hz : (0 : UInt8).toNat = 0 := rfl
  rw [Bool.eq_iff_iff, bne_iff_ne, bne_iff_ne]
  constructor
  · rintro h rfl; exact h rfl
  · intro h e; exact h (UInt8.toNat_inj.1 (by rw [hz]; omega))
set_option maxRecDepth 100000 in
set_option maxHeartbeats 400000 in
theorem valid_any (s : ByteArray) (w : World) : Calls Tryz.prog 51 #[.string s] w fun e w' => e = .returned (.bool (validB s)) ∧ w' = w := by
  obtain ⟨l, rfl⟩ : ∃ l, s = sb l := ⟨s.data.toList, (sb_of s).symm⟩
  have hq := fun W => run_eql_str W l []
  rcases l with _ | ⟨b, r⟩
  · have HV := Lib.hid (show validB (sb []) = true from rfl)
    have HQ := Lib.hid (fun W => show (binOp .eql 9 (.string (sb [])) (.string ⟨#[]⟩)).run Tryz.prog W = .ok (.bool true) W from hq W)
    obtain ⟨t, ht⟩ : ∃ t, sb [] = t := ⟨_, rfl⟩
    rw [ht] at HV HQ ⊢
    clear hq ht
    go_enter Tryz.func51, Tryz.ntmps51
    go_wp2_with (refine wpList_run 4 rfl rfl _ (exec_bin .eql 9 _ (.tmp 3) (.const (.string ⟨#[]⟩)) rfl _ _ _ rfl rfl rfl (HQ.out _)) ?_)
    go_ret
    exact ⟨by rw [HV.out]; rfl, rfl⟩
  · have HV := Lib.hid (show validB (sb (b :: r)) = (b != 0) by unfold validB; rw [sb_list])
    have HI := Lib.hid (show (sb (b :: r)).data.toList[0]? = some b by rw [sb_list]; rfl)
    have HQ := Lib.hid (fun W => show (binOp .eql 9 (.string (sb (b :: r))) (.string ⟨#[]⟩)).run Tryz.prog W = .ok (.bool false) W from hq W)
    have HB := Lib.hid (u8_ne0 b)
    obtain ⟨t, ht⟩ : ∃ t, sb (b :: r) = t := ⟨_, rfl⟩
    rw [ht] at HV HQ HI ⊢
    obtain ⟨hsz', hb0'⟩ := List.getElem?_eq_some_iff.1 HI.out
    have hsz : 0 < t.size := by simpa using hsz'
    have HB0 : Hid (t[0]'hsz = b) := Lib.hid (by rw [← hb0']; rfl)
    clear hq ht hb0' hsz'
    go_enter Tryz.func51, Tryz.ntmps51
    go_wp2_with (first | (refine wpList_run 4 rfl rfl _ (exec_bin .eql 9 _ (.tmp 3) (.const (.string ⟨#[]⟩)) rfl _ _ _ rfl rfl rfl (HQ.out _)) ?_) | fail)
    go_ret
    exact ⟨by rw [HV.out, ← HB.out, ← HB0.out]; rfl, rfl⟩
theorem validB_cS (n : Nat) : validB (cS n) = true := by
  have h := canB_canS n
  unfold validB cS
  rw [sb_list]
  unfold CanB at h
  generalize canS n = l at h ⊢
  rcases l with _ | ⟨b, r⟩
  · rfl
  · simp only [bne_iff_ne]
    intro e
    apply h
    rw [e]; rfl
theorem run_word1 (w : World) (d : Nat) : (Instr.buildSlice 86 1 #[(0, .int .u64 d)]).run Tryz.prog w = .ok (.slice (some ⟨w.heap.size, 0, none⟩) 1 1) (w.alloc (.cells #[.int .u64 d] 89)) := by
  obtain ⟨i0, hi, hz0, hz1, hz2⟩ := info_parts wd_info
  refine run_buildSlice w _ _ 1 _ _ i0 _ dg_under hi hz0 (by rw [hz1]; omega) (by rw [hz1]; omega) ?_
  rw [hz1]
  rw [show (Array.map (fun x => (Value.int .u64 0).cells[x % (Value.int .u64 0).cells.size]!) (Array.range (1 * 1))) = #[.int .u64 0] from by kernel_rfl]
  rfl
theorem wpList_word1 {w : World} {ops : Array Oper} {rest : List Oper} {o : Oper} {a : Act} {Q : Exit → Act → World → Prop} (hw : Region.wanted o (yielded ops a.tmps) = true) (x : Operand) (ho : o.op = .buildSlice 86 1 #[(0, x)]) (d : Nat) (hx : a.eval x = .int .u64 d)
    (h : ∀ w', Hid (Blk w' w.heap.size 89 (ws [d])) → Hid (Below w.heap.size w w') → wpList Tryz.prog ops Q rest (a.put o.dst (.slice (some ⟨w.heap.size, 0, none⟩) 1 1)) w') : wpList Tryz.prog ops Q (o :: rest) a w := by
  refine wpList_want hw fun K hK => ?_
  unfold Oper.wp execOp
  simp only [ho, List.map_toArray, List.map_cons, List.map_nil, hx, Sem.run_bind, run_word1, Result.andThen_ok]
  exact hK _ _ (h _ (Lib.hid (Blk.new w 89 (ws [d]))) (Lib.hid ((Below.refl _ _).alloc (Nat.le_refl _) _)))
theorem num_one (d : Nat) : num [d] = d := by simp [num]
set_option maxRecDepth 100000 in
set_option maxHeartbeats 400000 in
theorem int_any (n : Nat) (w : World) (h : n ≤ 9223372036854775807) : Calls Tryz.prog 53 #[.int .i64 n] w fun e w' => e = .returned (.tuple #[.string (cS n), .int .i64 0]) ∧ Below w.heap.size w w' := by
  have d0 : decide ((n : Int) < 0) = false := decide_eq_false (by omega)
  have hd : Dig [n] := by intro d hd; rw [List.mem_singleton.1 hd]; unfold B; omega
  have hn : n < 18446744073709551616 := by omega
  have HD := Lib.hid hd
  clear hd
  go_enter Tryz.func53, Tryz.ntmps53
  go_wp2_with (refine wpList_word1 rfl (.tmp 7) rfl n (by go_num) ?_; intro w1 HK1 HB1)
  have ht := text_any (some ⟨w.heap.size, 0, none⟩) 1 [n] w1 (rdW_blk HK1.out) HD.out (by simp)
  rw [num_one] at ht
  refine ht.mono ?_
  rintro e w2 ⟨rfl, hb⟩
  have HB2 := Lib.hid (HB1.out.trans (hb.mono HB1.out.size))
  clear ht hb
  go_wp2
  go_ret2
  exact ⟨rfl, HB2.out⟩
set_option maxRecDepth 100000 in
set_option maxHeartbeats 400000 in
theorem int_neg (n : Int) (w : World) (h : n < 0) : Calls Tryz.prog 53 #[.int .i64 n] w fun e w' => e = .returned (.tuple #[.string (cS 0), .int .i64 3]) ∧ w' = w := by
  have d0 : decide (n < 0) = true := decide_eq_true h
  have HZ := Lib.hid (show cS 0 = ⟨#[]⟩ by unfold cS; rw [canS_zero]; rfl)
  clear h
  go_enter Tryz.func53, Tryz.ntmps53
  go_wp2
  go_ret2
  exact ⟨by rw [HZ.out]; rfl, rfl⟩
theorem digW_get0 (n : Nat) : (digW n).getD 0 0 = n % B := by
  by_cases h : n = 0
  · subst h; rw [digW_zero]; rfl
  · rw [digW_pos h]; rfl
theorem digW_short {n : Nat} : (digW n).length ≤ 1 ↔ n < B := by
  constructor
  · intro h
    have := digW_lt n
    exact Nat.lt_of_lt_of_le this (by have := Nat.pow_le_pow_right B_pos h; rwa [Nat.pow_one] at this)
  · intro h; exact digW_len (by rwa [Nat.pow_one])
set_option maxRecDepth 100000 in
set_option maxHeartbeats 400000 in
theorem value_any (s : ByteArray) (w : World) (hs : s.size ≤ 40000) (h : nB s ≤ 9223372036854775807) : Calls Tryz.prog 81 #[.string s] w fun e w' => e = .returned (.tuple #[.int .i64 (nB s), .int .i64 0]) ∧ Below w.heap.size w w' := by
  have hB : nB s < B := by unfold B; omega
  have hl := digW_short.2 hB
  have hg := digW_get0 (nB s)
  rw [Nat.mod_eq_of_lt hB] at hg
  go_enter Tryz.func81, Tryz.ntmps81
  go_wp2_with fail
  refine (readN s w (by omega)).mono ?_
  rintro e w1 ⟨v1, rfl, ⟨A1, c1, rfl, h1, -⟩, hb1⟩
  have hdg := fun W (hr : RdW W A1 (digW (nB s))) => digit_any A1 c1 (digW (nB s)) 0 W hr
  rw [hg] at hdg
  obtain ⟨n, hn⟩ : ∃ n, nB s = n := ⟨_, rfl⟩
  rw [hn] at hdg h1 hl h ⊢
  have HDG := Lib.hid (hdg w1 h1)
  have HB1 := Lib.hid hb1
  have e1 : decide ((1 : Int) < ((digW n).length : Int)) = false := decide_eq_false (by omega)
  have e1' : decide (1 < (digW n).length) = false := decide_eq_false (by omega)
  have e2 : decide ((9223372036854775807 : Int) < (n : Int)) = false := decide_eq_false (by omega)
  clear hdg h1 hb1 hl hg hB hs
  go_wp2_with fail
  refine HDG.out.mono ?_
  rintro e w2 ⟨rfl, hw⟩
  obtain rfl : w1 = w2 := hw.symm
  go_wp2_with fail
  refine HDG.out.mono ?_
  rintro e w2 ⟨rfl, hw⟩
  obtain rfl : w1 = w2 := hw.symm
  go_wp2
  go_ret2
  exact ⟨by rw [hn]; rfl, HB1.out⟩
set_option maxRecDepth 100000 in
set_option maxHeartbeats 400000 in
theorem value_big (s : ByteArray) (w : World) (hs : s.size ≤ 40000) (h : 9223372036854775807 < nB s) : Calls Tryz.prog 81 #[.string s] w fun e w' => e = .returned (.tuple #[.int .i64 0, .int .i64 3]) ∧ Below w.heap.size w w' := by
  have hg := digW_get0 (nB s)
  by_cases hB : nB s < B
  · rw [Nat.mod_eq_of_lt hB] at hg
    have hl := digW_short.2 hB
    go_enter Tryz.func81, Tryz.ntmps81
    go_wp2_with fail
    refine (readN s w (by omega)).mono ?_
    rintro e w1 ⟨v1, rfl, ⟨A1, c1, rfl, h1, -⟩, hb1⟩
    have hdg := fun W (hr : RdW W A1 (digW (nB s))) => digit_any A1 c1 (digW (nB s)) 0 W hr
    rw [hg] at hdg
    obtain ⟨n, hn⟩ : ∃ n, nB s = n := ⟨_, rfl⟩
    rw [hn] at hdg h1 hl h ⊢
    have HDG := Lib.hid (hdg w1 h1)
    have HB1 := Lib.hid hb1
    have e1 : decide ((1 : Int) < ((digW n).length : Int)) = false := decide_eq_false (by omega)
    have e1' : decide (1 < (digW n).length) = false := decide_eq_false (by omega)
    have e2 : decide ((9223372036854775807 : Int) < (n : Int)) = true := decide_eq_true (by omega)
    clear hdg h1 hb1 hl hg hB hs
    go_wp2_with fail
    refine HDG.out.mono ?_
    rintro e w2 ⟨rfl, hw⟩
    obtain rfl : w1 = w2 := hw.symm
    go_wp2
    go_ret2
    exact ⟨rfl, HB1.out⟩
  · have hl : 1 < (digW (nB s)).length := by have := mt digW_short.1 hB; omega
    go_enter Tryz.func81, Tryz.ntmps81
    go_wp2_with fail
    refine (readN s w (by omega)).mono ?_
    rintro e w1 ⟨v1, rfl, ⟨A1, c1, rfl, h1, -⟩, hb1⟩
    have e1 : decide ((1 : Int) < ((digW (nB s)).length : Int)) = true := decide_eq_true (by omega)
    have e1' : decide (1 < (digW (nB s)).length) = true := decide_eq_true (by omega)
    have HB1 := Lib.hid hb1
    clear h1 hb1 hg hB hl
    go_wp2
    go_ret2
    exact ⟨rfl, HB1.out⟩
end Go.Proofs.YtpmlihhofmblpaaGreatDoor

/- commonOfWords, isText and group. -/
namespace Go.Proofs.YtpmlihhofmblpaaGreatDoor
open Go.RowKit Hm Wm Wn

theorem run_remW (x y : Nat) (hy : y ≠ 0) (w : World) : (binOp .rem 89 (.int .u64 x) (.int .u64 y)).run Tryz.prog w = .ok (.int .u64 ((x % y : Nat) : Int)) w := by
  simp [binOp, go_sem]
  rw [Int.tmod_eq_emod_of_nonneg (by omega), if_neg hy]
def GcR (N : Nat) (a b : Value) : Prop := ∃ x y : Nat, a = .int .u64 x ∧ b = .int .u64 y ∧ Hid (x < B) ∧ Hid (y < B) ∧ Hid (Nat.gcd x y = N)
set_option maxRecDepth 100000 in
set_option maxHeartbeats 400000 in
theorem words_any (x y : Nat) (w : World) (hx : x < B) (hy : y < B) : Calls Tryz.prog 104 #[.int .u64 x, .int .u64 y] w fun e w' => e = .returned (.int .u64 (Nat.gcd x y)) ∧ Below w.heap.size w w' := by
  obtain ⟨N, hN⟩ : ∃ N, Nat.gcd x y = N := ⟨_, rfl⟩
  rw [hN]
  have HN := Lib.hid hN
  have HX := Lib.hid hx
  have HY := Lib.hid hy
  clear hN hx hy
  go_enter Tryz.func104, Tryz.ntmps104
  go_wp2
  go_loopw [0, 1] (fun a b wr => GcR N a b ∧ Hid (Below w.heap.size w wr)) (fun _ b _ => (intOf b).toNat)
  case atStart => exact ⟨⟨x, y, rfl, rfl, HX, HY, HN⟩, Lib.hid (Below.refl _ _)⟩
  case round =>
    obtain ⟨⟨p, q, rfl, rfl, HP, HQ, HG⟩, HB⟩ := hrel
    by_cases hq : q = 0
    · have HE := Lib.hid (show p = N by have := HG.out; rwa [hq, Nat.gcd_zero_right] at this)
      have d0 : decide ((0 : Int) < (q : Int)) = false := decide_eq_false (by omega)
      have d0' : decide (0 < q) = false := decide_eq_false (by omega)
      clear hq HG
      go_wp2
      go_ret
      exact ⟨by rw [← HE.out]; rfl, HB.out⟩
    · have d0 : decide ((0 : Int) < (q : Int)) = true := decide_eq_true (by omega)
      have d0' : decide (0 < q) = true := decide_eq_true (by omega)
      have hrm := fun W => run_remW p q hq W
      have hml := Nat.mod_lt p (Nat.pos_of_ne_zero hq)
      have hg2 : Nat.gcd q (p % q) = N := by rw [← HG.out, Nat.gcd_comm p q, Nat.gcd_rec q p, Nat.gcd_comm]
      obtain ⟨m, hm⟩ : ∃ m, p % q = m := ⟨_, rfl⟩
      rw [hm] at hrm hml hg2
      have HRM := Lib.hid hrm
      have HML := Lib.hid hml
      have HG2 := Lib.hid hg2
      have HMB := Lib.hid (Nat.lt_trans hml HQ.out)
      clear hrm hml hg2 hm hq HG
      go_wp2_with fail
      refine wp_region_held_drew (S := fun W => Below w.heap.size w W) (by kernel_rfl) HB.out.drew (fun hS => ?_)
      generalize wr.drew = u0 at hS ⊢
      refine reg_takeG (i := 0) (some 7) rfl rfl rfl (by kernel_rfl) (by kernel_rfl) (by kernel_rfl) (.int .u64 q) (fun _ _ _ h => h) (fun W hW => exec_move (.tmp 1) rfl _ rfl) hS ?_
      go_frame
      refine reg_takeG (i := 1) (some 8) rfl rfl rfl (by kernel_rfl) (by kernel_rfl) (by kernel_rfl) (.int .u64 p) (fun _ _ _ h => h) (fun W hW => exec_move (.tmp 0) rfl _ rfl) hS ?_
      go_frame
      refine reg_takeG (i := 2) (some 9) rfl rfl rfl (by kernel_rfl) (by kernel_rfl) (by kernel_rfl) (.int .u64 q) (fun _ _ _ h => h) (fun W hW => exec_move (.tmp 1) rfl _ rfl) hS ?_
      go_frame
      refine reg_takeG (i := 3) (some 10) rfl rfl rfl (by kernel_rfl) (by kernel_rfl) (by kernel_rfl) (.int .u64 m) (fun _ _ _ h => h) (fun W hW => exec_bin .rem 89 _ (.tmp 8) (.tmp 9) rfl _ _ _ rfl rfl rfl (HRM.out W)) hS ?_
      go_frame
      refine reg_takeG (i := 4) (some 0) rfl rfl rfl (by kernel_rfl) (by kernel_rfl) (by kernel_rfl) (.int .u64 q) (fun _ _ _ h => h) (fun W hW => exec_assign (.tmp 7) rfl _ rfl) hS ?_
      go_frame
      refine reg_takeG (i := 5) (some 1) rfl rfl rfl (by kernel_rfl) (by kernel_rfl) (by kernel_rfl) (.int .u64 m) (fun _ _ _ h => h) (fun W hW => exec_assign (.tmp 10) rfl _ rfl) hS ?_
      go_frame
      refine wpAnyH_done (by kernel_rfl) ?_ _
      have HS := Lib.hid hS
      clear hS
      go_wp2
      go_roundw
      case rel => exact ⟨⟨q, m, rfl, rfl, HQ, HMB, HG2⟩, HS⟩
      case measure => have := HML.out; simp [intOf]; omega
/-- The number of decimal digits. -/
def decN (l : List UInt8) : Nat := l.foldl (fun n b => 10 * n + (b.toNat - 48)) 0
theorem decN_snoc (l : List UInt8) (b : UInt8) : decN (l ++ [b]) = 10 * decN l + (b.toNat - 48) := by unfold decN; rw [List.foldl_append]; rfl
def isDig (b : UInt8) : Bool := decide (48 ≤ b.toNat) && decide (b.toNat ≤ 57)
theorem decF_lt : ∀ (l : List UInt8) (a : Nat), l.all isDig = true → l.foldl (fun n (b : UInt8) => 10 * n + (b.toNat - 48)) a < (a + 1) * 10 ^ l.length := by
  intro l
  induction l with
  | nil => intro a _; simp
  | cons b l ih =>
    intro a h
    rw [List.all_cons, Bool.and_eq_true] at h
    have h2 := h.1
    simp only [isDig, Bool.and_eq_true, decide_eq_true_eq] at h2
    have h1 := ih (10 * a + (b.toNat - 48)) h.2
    have h3 : (10 * a + (b.toNat - 48) + 1) * 10 ^ l.length ≤ (10 * (a + 1)) * 10 ^ l.length := Nat.mul_le_mul_right _ (by omega)
    rw [List.foldl_cons, List.length_cons, Nat.pow_succ, Nat.mul_comm (10 ^ l.length) 10, ← Nat.mul_assoc, Nat.mul_comm (a + 1) 10]
    omega
theorem decN_lt (l : List UInt8) (h : l.all isDig = true) : decN l < 10 ^ l.length := by have := decF_lt l 0 h; simpa [decN] using this
theorem decN_take (l : List UInt8) (k : Nat) (h : k < l.length) : decN (l.take (k + 1)) = 10 * decN (l.take k) + (l[k].toNat - 48) := by rw [List.take_succ_eq_append_getElem h, decN_snoc]
/-- What stands in the loop of group. -/
def GrR (l : List UInt8) (nv iv : Value) : Prop := ∃ i n : Nat, iv = .int .i64 i ∧ nv = .int .u64 n ∧ i ≤ l.length ∧ Hid (decN (l.take i) = n)
set_option maxRecDepth 100000 in
set_option maxHeartbeats 400000 in
theorem group_any (l : List UInt8) (w : World) (hd : l.all isDig = true) (hl : l.length ≤ 19) : Calls Tryz.prog 67 #[.string (sb l)] w fun e w' => e = .returned (.int .u64 (decN l)) ∧ w' = w := by
  obtain ⟨t, ht⟩ : ∃ t, sb l = t := ⟨_, rfl⟩
  have htl : t.data.toList = l := by rw [← ht, sb_list]
  have hts : t.size = l.length := by rw [← ht, sb_size]
  rw [ht]
  have HTL := Lib.hid htl
  have HDD := Lib.hid hd
  clear ht htl hd
  go_enter Tryz.func67, Tryz.ntmps67
  go_wp2_with fail
  go_loop [3, 7] (GrR l) (fun _ iv => l.length - (intOf iv).toNat)
  case atStart => exact ⟨0, 0, rfl, rfl, Nat.zero_le _, rfl⟩
  case round =>
    obtain ⟨i, n, rfl, rfl, hi, HN⟩ := hrel
    by_cases hlt : i < l.length
    · have d1 : decide ((i : Int) < (l.length : Int)) = true := decide_eq_true (by omega)
      have d1' : decide (i < l.length) = true := decide_eq_true hlt
      have hb : t.data.toList[i]? = some l[i] := by rw [HTL.out]; exact List.getElem?_eq_getElem hlt
      have hdi : isDig l[i] = true := List.all_eq_true.1 HDD.out _ (List.getElem_mem hlt)
      have hn2 := decN_take l i hlt
      obtain ⟨b, hbb⟩ : ∃ b, l[i] = b := ⟨_, rfl⟩
      rw [hbb] at hb hdi hn2
      rw [HN.out] at hn2
      have hnl := decN_lt (l.take (i + 1)) (by
        rw [List.all_eq_true]
        intro x hx
        exact List.all_eq_true.1 HDD.out x (List.mem_of_mem_take hx))
      have hp : (10 : Nat) ^ (l.take (i + 1)).length ≤ 10 ^ 19 := Nat.pow_le_pow_right (by decide) (by rw [List.length_take]; omega)
      have hp2 : (10 : Nat) ^ 19 = 10000000000000000000 := by decide
      rw [hn2] at hnl
      simp only [isDig, Bool.and_eq_true, decide_eq_true_eq] at hdi
      have hbig : 10 * n + (b.toNat - 48) < 10000000000000000000 := by omega
      obtain ⟨d, hd⟩ : ∃ d, b.toNat - 48 = d := ⟨_, rfl⟩
      have hb48 : b.toNat = d + 48 := by omega
      have hd9 : d ≤ 9 := by omega
      rw [hd] at hn2 hbig
      have HN2 := Lib.hid hn2
      have HIX := Lib.hid hb
      have HB48 := Lib.hid (show (b.toNat : Int) = (d : Int) + 48 by omega)
      clear hbb hdi hn2 hnl hp hp2 hd hb hb48 HN
      go_wp2_with (refine wpList_run 14 rfl rfl _ (exec_indexS (.tmp 12) (.tmp 13) rfl t i b HIX.out rfl rfl) ?_; rw [HB48.out])
      skip --@@
      go_round
      case rel => exact ⟨i + 1, 10 * n + d, by go_num, by go_num, by omega, HN2⟩
      case measure => simp [intOf]; omega
    · obtain rfl : i = l.length := by omega
      have d1 : decide ((l.length : Int) < (l.length : Int)) = false := decide_eq_false (by omega)
      have hn := HN.out
      rw [List.take_length] at hn
      have HE := Lib.hid hn
      clear hn HN
      go_wp2
      go_ret
      exact ⟨by rw [HE.out]; rfl, rfl⟩
end Go.Proofs.YtpmlihhofmblpaaGreatDoor

/- isText. -/
namespace Go.Proofs.YtpmlihhofmblpaaGreatDoor
open Go.RowKit Hm Wm Wn

theorem run_neq_str (w : World) (l r : List UInt8) : (binOp .neq 9 (.string (sb l)) (.string (sb r))).run Tryz.prog w = .ok (.bool (decide (l ≠ r))) w := by
  rw [binOp_string_neq]
  have h1 : (sb l).toList = l := by simp [sb]
  have h2 : (sb r).toList = r := by simp [sb]
  rw [h1, h2, Sem.run_pure]
  congr 2
  rw [Bool.eq_iff_iff]; simp
theorem exec_indexS0 {oi : Oper} {a : Act} {w : World} (x y : Operand) (ho : oi.op = .index 9 x y) (s : ByteArray) (b : UInt8) (hb : s.data.toList[0]? = some b) (hx : a.eval x = .string s) (hy : a.eval y = .int .i64 0) : (execOp a.eval oi).run Tryz.prog w = .ok (.value (.int .u8 b.toNat)) w :=
  exec_indexS x y ho s 0 b hb hx (by rw [hy]; rfl)
theorem wpList_runG {w : World} {ops : Array Oper} {rest : List Oper} {o : Oper} {a : Act} {Q : Exit → Act → World → Prop} (d : Tmp) (hd : o.dst = some d) (hw : Region.wanted o (yielded ops a.tmps) = true) (v : Value) (hrun : (execOp a.eval o).run Tryz.prog w = .ok (.value v) w) (h : wpList Tryz.prog ops Q rest (a.put (some d) v) w) : wpList Tryz.prog ops Q (o :: rest) a w := by
  refine wpList_want hw fun K hK => ?_
  unfold Oper.wp
  rw [hrun]
  have := hK _ _ h
  rw [← hd] at this
  exact this
/-- The texts of numbers. -/
def isTextL (l : List UInt8) : Bool := match l with | [] => false | b :: r => !(b == 48 && !r.isEmpty) && l.all isDig
def ItR (l : List UInt8) (iv : Value) : Prop := ∃ i : Nat, iv = .int .i64 i ∧ i ≤ l.length ∧ Hid ((l.take i).all isDig = true)
set_option maxRecDepth 100000 in
set_option maxHeartbeats 400000 in
theorem isText_any (l : List UInt8) (w : World) (hl : l.length ≤ 1000000) : Calls Tryz.prog 64 #[.string (sb l)] w fun e w' => e = .returned (.bool (isTextL l)) ∧ w' = w := by
  have hq := fun W => run_eql_str W l []
  have hz := fun W => run_neq_str W l [48]
  obtain ⟨t, ht⟩ : ∃ t, sb l = t := ⟨_, rfl⟩
  have htl : t.data.toList = l := by rw [← ht, sb_list]
  have hts : t.size = l.length := by rw [← ht, sb_size]
  rw [ht] at hq hz ⊢
  have HTL := Lib.hid htl
  rcases l with _ | ⟨b, r⟩
  · have HV := Lib.hid (show isTextL [] = false from rfl)
    have HQ := Lib.hid (fun W => show (binOp .eql 9 (.string t) (.string ⟨#[]⟩)).run Tryz.prog W = .ok (.bool true) W from hq W)
    clear hq hz ht htl hts
    go_enter Tryz.func64, Tryz.ntmps64
    go_wp2_with (refine wpList_run 5 rfl rfl _ (exec_bin .eql 9 _ (.tmp 4) (.const (.string ⟨#[]⟩)) rfl _ _ _ rfl rfl rfl (HQ.out _)) ?_)
    go_ret
    exact ⟨by rw [HV.out]; rfl, rfl⟩
  have HQ := Lib.hid (fun W => show (binOp .eql 9 (.string t) (.string ⟨#[]⟩)).run Tryz.prog W = .ok (.bool false) W from hq W)
  have HI0 := Lib.hid (show t.data.toList[0]? = some b by rw [htl]; rfl)
  have hb48 : b.toNat = 48 ↔ b = 48 := by
    constructor
    · intro h; exact UInt8.toNat_inj.1 h
    · rintro rfl; rfl
  by_cases hb0 : b = 48 ∧ r ≠ []
  · have e1 : ((b.toNat : Int) == 48) = true := by rw [hb0.1]; rfl
    have HZ := Lib.hid (fun W => show (binOp .neq 9 (.string t) (.string ⟨#[48]⟩)).run Tryz.prog W = .ok (.bool true) W by
      have := hz W
      rw [show decide (b :: r ≠ [48]) = true from decide_eq_true (by simp [hb0.1, hb0.2])] at this
      exact this)
    have HV := Lib.hid (show isTextL (b :: r) = false by
      unfold isTextL
      have : r.isEmpty = false := by cases r; exact absurd rfl hb0.2; rfl
      simp [hb0.1, this])
    clear hq hz ht htl hts hb0 hb48
    go_enter Tryz.func64, Tryz.ntmps64
    go_wp2_with (first | (refine wpList_run 5 rfl rfl _ (exec_bin .eql 9 _ (.tmp 4) (.const (.string ⟨#[]⟩)) rfl _ _ _ rfl rfl rfl (HQ.out _)) ?_) | (refine wpList_runG 8 rfl rfl _ (exec_indexS0 (.tmp 7) (.const (.int .i64 0)) rfl t b HI0.out rfl rfl) ?_) | (refine wpList_runG 12 rfl rfl _ (exec_bin .neq 9 _ (.tmp 11) (.const (.string ⟨#[48]⟩)) rfl _ _ _ rfl rfl rfl (HZ.out _)) ?_))
    go_ret
    exact ⟨by rw [HV.out]; rfl, rfl⟩
  have HT := Lib.hid (fun ha : (b :: r).all isDig = true => show isTextL (b :: r) = true by
    unfold isTextL
    have h2 : (b == 48 && !r.isEmpty) = false := by
      cases hbb : b == 48
      · rfl
      · have hb : b = 48 := by simpa using hbb
        have hr : r = [] := Classical.byContradiction fun h => hb0 ⟨hb, h⟩
        rw [hr]; rfl
    simp only [h2, ha]; rfl)
  have HF := Lib.hid (fun (i : Nat) (hi : i < (b :: r).length) (h : isDig (b :: r)[i] = false) => show isTextL (b :: r) = false by
    unfold isTextL
    have ha : (b :: r).all isDig = false := by
      rw [List.all_eq_false]
      exact ⟨_, List.getElem_mem hi, by rw [h]; decide⟩
    simp only [ha, Bool.and_false])
  by_cases h48 : b = 48
  · have hr : r = [] := Classical.byContradiction fun h => hb0 ⟨h48, h⟩
    have e0 : ((b.toNat : Int) == 48) = true := by rw [h48]; rfl
    have HZ := Lib.hid (fun W => show (binOp .neq 9 (.string t) (.string ⟨#[48]⟩)).run Tryz.prog W = .ok (.bool false) W by
      have := hz W
      rw [show decide (b :: r ≠ [48]) = false from decide_eq_false (by simp [h48, hr])] at this
      exact this)
    obtain ⟨l, hll⟩ : ∃ l, b :: r = l := ⟨_, rfl⟩
    rw [hll] at HT HF HTL hl hts ⊢
    clear hq hz ht htl hb0 hb48 h48 hr hll
    go_enter Tryz.func64, Tryz.ntmps64
    go_wp2_with (first | (refine wpList_run 5 rfl rfl _ (exec_bin .eql 9 _ (.tmp 4) (.const (.string ⟨#[]⟩)) rfl _ _ _ rfl rfl rfl (HQ.out _)) ?_) | (refine wpList_runG 8 rfl rfl _ (exec_indexS0 (.tmp 7) (.const (.int .i64 0)) rfl t b HI0.out rfl rfl) ?_) | (refine wpList_runG 12 rfl rfl _ (exec_bin .neq 9 _ (.tmp 11) (.const (.string ⟨#[48]⟩)) rfl _ _ _ rfl rfl rfl (HZ.out _)) ?_))
    go_loop [17] (ItR l) (fun iv => l.length - (intOf iv).toNat)
    case atStart => exact ⟨0, rfl, Nat.zero_le _, Lib.hid (by simp)⟩
    case round =>
      obtain ⟨i, rfl, hi, HA⟩ := hrel
      by_cases hlt : i < l.length
      · have d1 : decide ((i : Int) < (l.length : Int)) = true := decide_eq_true (by omega)
        have d1' : decide (i < l.length) = true := decide_eq_true hlt
        have hc : t.data.toList[i]? = some l[i] := by rw [HTL.out]; exact List.getElem?_eq_getElem hlt
        have hf := fun h : isDig l[i] = false => HF.out i hlt h
        have htk : isDig l[i] = true → (l.take (i + 1)).all isDig = true := fun h => by
          rw [List.take_succ_eq_append_getElem hlt, List.all_append, HA.out]; simp [h]
        obtain ⟨c, hcc⟩ : ∃ c, l[i] = c := ⟨_, rfl⟩
        rw [hcc] at hc hf htk
        have HIX := Lib.hid hc
        by_cases h1 : c.toNat < 48
        · have e1 : decide ((c.toNat : Int) < 48) = true := decide_eq_true (by omega)
          have HV := Lib.hid (hf (by unfold isDig; rw [decide_eq_false (by omega)]; rfl))
          clear hc hf htk hcc h1 HA
          go_wp2_with (refine wpList_run 22 rfl rfl _ (exec_indexS (.tmp 20) (.tmp 21) rfl t i c HIX.out rfl rfl) ?_)
          go_ret
          exact ⟨by rw [HV.out]; rfl, rfl⟩
        have e1 : decide ((c.toNat : Int) < 48) = false := decide_eq_false (by omega)
        by_cases h2 : 57 < c.toNat
        · have e2 : decide ((57 : Int) < (c.toNat : Int)) = true := decide_eq_true (by omega)
          have HV := Lib.hid (hf (by unfold isDig; rw [decide_eq_false (p := c.toNat ≤ 57) (by omega), Bool.and_false]))
          clear hc hf htk hcc h1 h2 HA
          go_wp2_with (first | (refine wpList_run 22 rfl rfl _ (exec_indexS (.tmp 20) (.tmp 21) rfl t i c HIX.out rfl rfl) ?_) | (refine wpList_runG 27 rfl rfl _ (exec_indexS (.tmp 25) (.tmp 26) rfl t i c HIX.out rfl rfl) ?_))
          go_ret
          exact ⟨by rw [HV.out]; rfl, rfl⟩
        have e2 : decide ((57 : Int) < (c.toNat : Int)) = false := decide_eq_false (by omega)
        have HA2 := Lib.hid (htk (by unfold isDig; rw [decide_eq_true (p := 48 ≤ c.toNat) (by omega), decide_eq_true (p := c.toNat ≤ 57) (by omega)]; rfl))
        clear hc hf htk hcc h1 h2 HA
        go_wp2_with (first | (refine wpList_run 22 rfl rfl _ (exec_indexS (.tmp 20) (.tmp 21) rfl t i c HIX.out rfl rfl) ?_) | (refine wpList_runG 27 rfl rfl _ (exec_indexS (.tmp 25) (.tmp 26) rfl t i c HIX.out rfl rfl) ?_))
        go_round
        case rel => exact ⟨i + 1, by go_num, by omega, HA2⟩
        case measure => simp [intOf]; omega
      · obtain rfl : i = l.length := by omega
        have d1 : decide ((l.length : Int) < (l.length : Int)) = false := decide_eq_false (by omega)
        have ha := HA.out
        rw [List.take_length] at ha
        have HV := Lib.hid (HT.out ha)
        clear ha HA
        go_wp2
        go_ret
        exact ⟨by rw [HV.out]; rfl, rfl⟩
  · have e0 : ((b.toNat : Int) == 48) = false := by rw [beq_eq_false_iff_ne]; intro h; exact h48 (hb48.1 (by omega))
    obtain ⟨l, hll⟩ : ∃ l, b :: r = l := ⟨_, rfl⟩
    rw [hll] at HT HF HTL hl hts ⊢
    clear hq hz ht htl hb0 hb48 h48 hll
    go_enter Tryz.func64, Tryz.ntmps64
    go_wp2_with (first | (refine wpList_run 5 rfl rfl _ (exec_bin .eql 9 _ (.tmp 4) (.const (.string ⟨#[]⟩)) rfl _ _ _ rfl rfl rfl (HQ.out _)) ?_) | (refine wpList_runG 8 rfl rfl _ (exec_indexS0 (.tmp 7) (.const (.int .i64 0)) rfl t b HI0.out rfl rfl) ?_))
    go_loop [17] (ItR l) (fun iv => l.length - (intOf iv).toNat)
    case atStart => exact ⟨0, rfl, Nat.zero_le _, Lib.hid (by simp)⟩
    case round =>
      obtain ⟨i, rfl, hi, HA⟩ := hrel
      by_cases hlt : i < l.length
      · have d1 : decide ((i : Int) < (l.length : Int)) = true := decide_eq_true (by omega)
        have d1' : decide (i < l.length) = true := decide_eq_true hlt
        have hc : t.data.toList[i]? = some l[i] := by rw [HTL.out]; exact List.getElem?_eq_getElem hlt
        have hf := fun h : isDig l[i] = false => HF.out i hlt h
        have htk : isDig l[i] = true → (l.take (i + 1)).all isDig = true := fun h => by
          rw [List.take_succ_eq_append_getElem hlt, List.all_append, HA.out]; simp [h]
        obtain ⟨c, hcc⟩ : ∃ c, l[i] = c := ⟨_, rfl⟩
        rw [hcc] at hc hf htk
        have HIX := Lib.hid hc
        by_cases h1 : c.toNat < 48
        · have e1 : decide ((c.toNat : Int) < 48) = true := decide_eq_true (by omega)
          have HV := Lib.hid (hf (by unfold isDig; rw [decide_eq_false (by omega)]; rfl))
          clear hc hf htk hcc h1 HA
          go_wp2_with (refine wpList_run 22 rfl rfl _ (exec_indexS (.tmp 20) (.tmp 21) rfl t i c HIX.out rfl rfl) ?_)
          go_ret
          exact ⟨by rw [HV.out]; rfl, rfl⟩
        have e1 : decide ((c.toNat : Int) < 48) = false := decide_eq_false (by omega)
        by_cases h2 : 57 < c.toNat
        · have e2 : decide ((57 : Int) < (c.toNat : Int)) = true := decide_eq_true (by omega)
          have HV := Lib.hid (hf (by unfold isDig; rw [decide_eq_false (p := c.toNat ≤ 57) (by omega), Bool.and_false]))
          clear hc hf htk hcc h1 h2 HA
          go_wp2_with (first | (refine wpList_run 22 rfl rfl _ (exec_indexS (.tmp 20) (.tmp 21) rfl t i c HIX.out rfl rfl) ?_) | (refine wpList_runG 27 rfl rfl _ (exec_indexS (.tmp 25) (.tmp 26) rfl t i c HIX.out rfl rfl) ?_))
          go_ret
          exact ⟨by rw [HV.out]; rfl, rfl⟩
        have e2 : decide ((57 : Int) < (c.toNat : Int)) = false := decide_eq_false (by omega)
        have HA2 := Lib.hid (htk (by unfold isDig; rw [decide_eq_true (p := 48 ≤ c.toNat) (by omega), decide_eq_true (p := c.toNat ≤ 57) (by omega)]; rfl))
        clear hc hf htk hcc h1 h2 HA
        go_wp2_with (first | (refine wpList_run 22 rfl rfl _ (exec_indexS (.tmp 20) (.tmp 21) rfl t i c HIX.out rfl rfl) ?_) | (refine wpList_runG 27 rfl rfl _ (exec_indexS (.tmp 25) (.tmp 26) rfl t i c HIX.out rfl rfl) ?_))
        go_round
        case rel => exact ⟨i + 1, by go_num, by omega, HA2⟩
        case measure => simp [intOf]; omega
      · obtain rfl : i = l.length := by omega
        have d1 : decide ((l.length : Int) < (l.length : Int)) = false := decide_eq_false (by omega)
        have ha := HA.out
        rw [List.take_length] at ha
        have HV := Lib.hid (HT.out ha)
        clear ha HA
        go_wp2
        go_ret
        exact ⟨by rw [HV.out]; rfl, rfl⟩
end Go.Proofs.YtpmlihhofmblpaaGreatDoor

/- Parse. -/
namespace Go.Proofs.YtpmlihhofmblpaaGreatDoor
open Go.RowKit Hm Wm Wn

theorem run_str_lo (w : World) (l : List UInt8) (n : Nat) (h : n ≤ l.length) : (Instr.sliceAt 9 (.string (sb l)) (some (.int .i64 n)) none none).run Tryz.prog w = .ok (.string (sb (l.drop n))) w := by
  have hs : (sb l).size = l.length := sb_size l
  have e : (sb l).extract n l.length = sb (l.drop n) := by
    apply ByteArray.ext
    rw [ByteArray.data_extract]
    simp [sb]
    exact List.take_of_length_le (by rw [List.length_drop]; exact Nat.le_refl _)
  simp [go_sem, run_sliceAt_string, Tryz.underlying9, hs]
  rw [if_pos h, e]
theorem exec_strHi {oi : Oper} {a : Act} {w : World} (x y : Operand) (ho : oi.op = .slice 9 x none (some y) none) (l : List UInt8) (n : Nat) (h : n ≤ l.length) (hx : a.eval x = .string (sb l)) (hy : a.eval y = .int .i64 n) : (execOp a.eval oi).run Tryz.prog w = .ok (.value (.string (sb (l.take n)))) w := by
  have hl := run_str_hi w l n h
  rw [← hx, ← hy] at hl
  simp [execOp, ho, hl]
theorem exec_strLo {oi : Oper} {a : Act} {w : World} (x y : Operand) (ho : oi.op = .slice 9 x (some y) none none) (l : List UInt8) (n : Nat) (h : n ≤ l.length) (hx : a.eval x = .string (sb l)) (hy : a.eval y = .int .i64 n) : (execOp a.eval oi).run Tryz.prog w = .ok (.value (.string (sb (l.drop n)))) w := by
  have hl := run_str_lo w l n h
  rw [← hx, ← hy] at hl
  simp [execOp, ho, hl]
theorem exec_word1 {oi : Oper} {a : Act} {w : World} (x : Operand) (ho : oi.op = .buildSlice 86 1 #[(0, x)]) (d : Nat) (hx : a.eval x = .int .u64 d) : (execOp a.eval oi).run Tryz.prog w = .ok (.value (.slice (some ⟨w.heap.size, 0, none⟩) 1 1)) (w.alloc (.cells (ws [d]).toArray 89)) := by
  unfold execOp
  simp only [ho, List.map_toArray, List.map_cons, List.map_nil, hx, Sem.run_bind, run_word1, Result.andThen_ok]
  rfl
theorem decF_acc (q : List UInt8) : ∀ a : Nat, q.foldl (fun n (b : UInt8) => 10 * n + (b.toNat - 48)) a = a * 10 ^ q.length + decN q := by
  induction q with
  | nil => intro a; simp [decN]
  | cons b q ih =>
    intro a
    unfold decN
    rw [List.foldl_cons, List.foldl_cons, ih, ih (10 * 0 + (b.toNat - 48)), List.length_cons, Nat.pow_succ, Nat.mul_zero, Nat.zero_add, Nat.add_mul]
    have : 10 * a * 10 ^ q.length = a * (10 ^ q.length * 10) := by rw [Nat.mul_comm 10 a, Nat.mul_assoc, Nat.mul_comm 10]
    omega
theorem decN_app (p q : List UInt8) : decN (p ++ q) = decN p * 10 ^ q.length + decN q := by
  show (p ++ q).foldl _ 0 = _
  rw [List.foldl_append]
  exact decF_acc q (decN p)
theorem exec_sHi {oi : Oper} {a : Act} {w : World} (x y : Operand) (ho : oi.op = .slice 9 x none (some y) none) (t c : ByteArray) (g : Nat) (hrun : ∀ W, (Instr.sliceAt 9 (.string t) none (some (.int .i64 g)) none).run Tryz.prog W = .ok (.string c) W) (hx : a.eval x = .string t) (hy : a.eval y = .int .i64 g) : (execOp a.eval oi).run Tryz.prog w = .ok (.value (.string c)) w := by
  have hl := hrun w
  rw [← hx, ← hy] at hl
  simp [execOp, ho, hl]
theorem exec_sLo {oi : Oper} {a : Act} {w : World} (x y : Operand) (ho : oi.op = .slice 9 x (some y) none none) (t c : ByteArray) (g : Nat) (hrun : ∀ W, (Instr.sliceAt 9 (.string t) (some (.int .i64 g)) none none).run Tryz.prog W = .ok (.string c) W) (hx : a.eval x = .string t) (hy : a.eval y = .int .i64 g) : (execOp a.eval oi).run Tryz.prog w = .ok (.value (.string c)) w := by
  have hl := hrun w
  rw [← hx, ← hy] at hl
  simp [execOp, ho, hl]
/-- The first group of a text. -/
def gl (n : Nat) : Nat := (n - 1) % 19 + 1
theorem gl_le {n : Nat} (h : 0 < n) : gl n ≤ n ∧ 0 < gl n ∧ gl n ≤ 19 ∧ (n - gl n) % 19 = 0 := by unfold gl; omega
theorem gl_full {n : Nat} (h : 0 < n) (h19 : n % 19 = 0) : gl n = 19 := by unfold gl; omega
theorem dec_len {l : List UInt8} {K : Nat} (h : l.all isDig = true) (hl : l.length ≤ K) : (digW (10000000000000000000 * decN l)).length ≤ K + 19 := by
  refine digW_256 ?_
  have h1 := decN_lt l h
  have h2 : (10 : Nat) ^ l.length ≤ 10 ^ K := Nat.pow_le_pow_right (by decide) hl
  have h3 : 10000000000000000000 * decN l < 10 ^ (K + 19) := by
    rw [Nat.pow_add, show (10 : Nat) ^ 19 = 10000000000000000000 from by decide]
    omega
  exact Nat.lt_of_lt_of_le h3 (Nat.pow_le_pow_left (by decide) _)
theorem dec_len2 {l : List UInt8} {K : Nat} (h : l.all isDig = true) (hl : l.length ≤ K) : (digW (decN l)).length ≤ K := by
  refine digW_256 ?_
  have h1 := decN_lt l h
  have h2 : (10 : Nat) ^ l.length ≤ 10 ^ K := Nat.pow_le_pow_right (by decide) hl
  exact Nat.lt_of_lt_of_le (Nat.lt_of_lt_of_le h1 h2) (Nat.pow_le_pow_left (by decide) _)
theorem all_take {l : List UInt8} (h : l.all isDig = true) (k : Nat) : (l.take k).all isDig = true := by
  rw [List.all_eq_true]; intro x hx; exact List.all_eq_true.1 h x (List.mem_of_mem_take hx)
theorem all_drop {l : List UInt8} (h : l.all isDig = true) (k : Nat) : (l.drop k).all isDig = true := by
  rw [List.all_eq_true]; intro x hx; exact List.all_eq_true.1 h x (List.mem_of_mem_drop hx)
theorem textL_all {l : List UInt8} (h : isTextL l = true) : l.all isDig = true := by
  unfold isTextL at h
  rcases l with _ | ⟨b, r⟩
  · cases h
  · simp only [Bool.and_eq_true] at h; exact h.2
set_option maxRecDepth 100000 in
set_option maxHeartbeats 400000 in
theorem parse_no (l : List UInt8) (w : World) (hl : l.length ≤ 20000) (h : isTextL l = false) : Calls Tryz.prog 36 #[.string (sb l)] w fun e w' => e = .returned (.tuple #[.string (cS 0), .int .i64 27]) ∧ w' = w := by
  have HI := isText_any l w (by omega)
  rw [h] at HI
  have HI := Lib.hid HI
  have HZ := Lib.hid (show cS 0 = ⟨#[]⟩ by unfold cS; rw [canS_zero]; rfl)
  obtain ⟨t, ht⟩ : ∃ t, sb l = t := ⟨_, rfl⟩
  rw [ht] at HI ⊢
  clear ht h
  go_enter Tryz.func36, Tryz.ntmps36
  go_wp2_with fail
  refine HI.out.mono ?_
  rintro e w1 ⟨rfl, hw⟩
  obtain rfl : w = w1 := hw.symm
  go_wp2
  go_ret2
  exact ⟨by rw [HZ.out]; rfl, rfl⟩
/-- What stands in the loop of Parse. -/
def PaR (w : World) (l : List UInt8) (sv xv : Value) (wr : World) : Prop :=
  ∃ k : Nat, sv = .string (sb (l.drop k)) ∧ k ≤ l.length ∧ Hid (k = 0 ∨ (l.length - k) % 19 = 0) ∧ Hid (NewW wr (decN (l.take k)) xv) ∧ Hid (Below w.heap.size w wr)
def strLen : Value → Nat | .string s => s.size | _ => 0
set_option maxRecDepth 100000 in
set_option maxHeartbeats 400000 in
theorem parse_yes (l : List UInt8) (w : World) (hl : l.length ≤ 20000) (h : isTextL l = true) : Calls Tryz.prog 36 #[.string (sb l)] w fun e w' => e = .returned (.tuple #[.string (cS (decN l)), .int .i64 0]) ∧ Below w.heap.size w w' := by
  have HI := isText_any l w (by omega)
  rw [h] at HI
  have HI := Lib.hid HI
  have HD := Lib.hid (textL_all h)
  clear h
  go_enter Tryz.func36, Tryz.ntmps36
  go_wp2_with fail
  refine HI.out.mono ?_
  rintro e w1 ⟨rfl, hw⟩
  obtain rfl : w = w1 := hw.symm
  go_wp2_with fail
  go_loopw [0, 4] (PaR w l) (fun sv _ _ => strLen sv)
  case atStart => exact ⟨0, rfl, Nat.zero_le _, Lib.hid (.inl rfl), Lib.hid ⟨none, 0, by rw [List.take_zero]; simp [decN, digW_zero], Rd.nil _ _ |> fun h => by rw [List.take_zero]; simpa [decN, digW_zero, RdW, ws] using h, by rw [List.take_zero]; simp [decN, digW_zero]⟩, Lib.hid (Below.refl _ _)⟩
  case round =>
    obtain ⟨k, rfl, hk, HK, HX, HB⟩ := hrel
    by_cases hlt : k < l.length
    · obtain ⟨R, hR⟩ : ∃ R, l.drop k = R := ⟨_, rfl⟩
      have hRl : R.length = l.length - k := by rw [← hR, List.length_drop]
      obtain ⟨n, hn⟩ : ∃ n, l.length - k = n := ⟨_, rfl⟩
      rw [hn] at hRl
      have hn0 : 0 < n := by omega
      have hn2 : n ≤ 20000 := by omega
      obtain ⟨g1, g2, g3, g4⟩ := gl_le hn0
      have hgf := gl_full (n := n) hn0
      have hgd : ((n : Int) - 1) % 19 + 1 = ((gl n : Nat) : Int) := by unfold gl; omega
      obtain ⟨g, hg⟩ : ∃ g, gl n = g := ⟨_, rfl⟩
      rw [hg] at g1 g2 g3 g4 hgf hgd
      have hRd : R.all isDig = true := by rw [← hR]; exact all_drop HD.out k
      have hne := fun W => run_neq_str W R []
      have hhi := fun W => run_str_hi W R g (by omega)
      have hlo := fun W => run_str_lo W R g (by omega)
      have hgr := fun W => group_any (R.take g) W (all_take hRd g) (by rw [List.length_take]; omega)
      rw [hR]
      obtain ⟨t, ht⟩ : ∃ t, sb R = t := ⟨_, rfl⟩
      obtain ⟨t1, ht1⟩ : ∃ t, sb (R.take g) = t := ⟨_, rfl⟩
      have hts : t.size = n := by rw [← ht, sb_size, hRl]
      rw [ht] at hne hhi hlo ⊢
      rw [ht1] at hhi hgr
      obtain ⟨A4, c4, rfl, hr4, -⟩ := HX.out
      have hall := all_take HD.out k
      have hNl := dec_len2 (K := 20000) hall (by rw [List.length_take]; omega)
      have hPl := dec_len (K := 20000) hall (by rw [List.length_take]; omega)
      have hD := decN_lt (R.take g) (all_take hRd g)
      have hgl : (R.take g).length = g := by rw [List.length_take]; omega
      have hsum : decN (l.take (k + g)) = 10000000000000000000 * decN (l.take k) + decN (R.take g) := by
        rw [List.take_add, hR, decN_app, hgl]
        rcases HK.out with hk0 | hk19
        · have h0 : decN (l.take k) = 0 := by rw [hk0]; rfl
          rw [h0]; omega
        · rw [hgf (by rw [← hn]; exact hk19), show (10 : Nat) ^ 19 = 10000000000000000000 from by decide]; omega
      have hdr : l.drop (k + g) = R.drop g := by rw [← hR, List.drop_drop]
      obtain ⟨N, hN⟩ : ∃ N, decN (l.take k) = N := ⟨_, rfl⟩
      rw [hN] at hr4 hNl hPl hsum ⊢
      obtain ⟨D, hDD⟩ : ∃ D, decN (R.take g) = D := ⟨_, rfl⟩
      rw [hDD] at hgr hD hsum
      have hDB : D < B := by
        rw [hgl] at hD
        have : (10 : Nat) ^ g ≤ 10 ^ 19 := Nat.pow_le_pow_right (by decide) g3
        have h19 : (10 : Nat) ^ 19 < B := by decide
        omega
      have HR4 := Lib.hid hr4
      have HSUM := Lib.hid hsum
      have HDR := Lib.hid hdr
      have HK2 := Lib.hid (show k + g = 0 ∨ (l.length - (k + g)) % 19 = 0 from .inr (by rw [show l.length - (k + g) = n - g by omega]; exact g4))
      have HDB := Lib.hid hDB
      have HG1 := Lib.hid (show k + g ≤ l.length by omega)
      have HG2 := Lib.hid (show (sb (R.drop g)).size < t.size by rw [sb_size, List.length_drop, hts, hRl]; omega)
      have HNL := Lib.hid hNl
      have HPL := Lib.hid hPl
      have HNE := Lib.hid (fun W => show (binOp .neq 9 (.string t) (.string ⟨#[]⟩)).run Tryz.prog W = .ok (.bool true) W by
        have h1 := hne W
        rw [show decide (R ≠ []) = true from decide_eq_true (by intro e; rw [e] at hRl; simp at hRl; omega)] at h1
        exact h1)
      have HHI := Lib.hid hhi
      have HLO := Lib.hid hlo
      have HGR := Lib.hid hgr
      have HGD := Lib.hid hgd
      clear hne hhi hlo hgr hgd hr4 hsum hdr hNl hPl hD hDB hgl hall hN hDD hRd hgf hg g1 g2 g3 g4 hn hR hRl ht ht1 HK HX hk
      go_wp2_with (refine wpList_run 10 rfl rfl _ (exec_bin .neq 9 _ (.tmp 9) (.const (.string ⟨#[]⟩)) rfl _ _ _ rfl rfl rfl (HNE.out _)) ?_)
      rw [HGD.out]
      refine wp_region_held_drew (S := fun W => Below wr.heap.size wr W) (by kernel_rfl) (Below.refl _ _).drew (fun hS => ?_)
      generalize wr.drew = u0 at hS ⊢
      refine reg_takeG (i := 1) (some 17) rfl rfl rfl (by kernel_rfl) (by kernel_rfl) (by kernel_rfl) (.slice A4 (digW N).length c4) (fun _ _ _ h => h) (fun W hW => exec_move (.tmp 4) rfl _ rfl) hS ?_
      go_frame
      refine reg_takeG (i := 3) (some 19) rfl rfl rfl (by kernel_rfl) (by kernel_rfl) (by kernel_rfl) (.string t) (fun _ _ _ h => h) (fun W hW => exec_move (.tmp 0) rfl _ rfl) hS ?_
      go_frame
      refine reg_takeG (i := 4) (some 20) rfl rfl rfl (by kernel_rfl) (by kernel_rfl) (by kernel_rfl) (.int .i64 g) (fun _ _ _ h => h) (fun W hW => exec_move (.tmp 5) rfl _ rfl) hS ?_
      go_frame
      refine reg_takeG (i := 5) (some 21) rfl rfl rfl (by kernel_rfl) (by kernel_rfl) (by kernel_rfl) (.string t1) (fun _ _ _ h => h) (fun W hW => exec_sHi (.tmp 19) (.tmp 20) rfl t t1 g HHI.out rfl rfl) hS ?_
      go_frame
      have hK0 := Blk.new u0 89 (ws [10000000000000000000])
      have hal := (Below.refl u0.heap.size u0).alloc (Nat.le_refl _) (.cells (ws [10000000000000000000]).toArray 89)
      have hS1 := hS.trans (hal.mono hS.size)
      refine reg_makeG (i := 0) (some 16) rfl rfl rfl (by kernel_rfl) (.slice (some ⟨u0.heap.size, 0, none⟩) 1 1) _ (exec_word1 (.const (.int .u64 10000000000000000000)) rfl 10000000000000000000 rfl) hS1 ?_
      go_frame
      clear hal
      generalize u0.alloc (.cells (ws [10000000000000000000]).toArray 89) = u1 at hK0 hS1 ⊢
      have hc := times_any (some ⟨u0.heap.size, 0, none⟩) 1 [10000000000000000000] A4 c4 (digW N) u1 (rdW_blk hK0) (HR4.out.next hS1) (by intro d hd; rw [List.mem_singleton.1 hd]; decide) (dig_digW N) (by decide) (Nat.le_trans HNL.out (by omega))
      rw [num_one, num_digW] at hc
      refine reg_callG (i := 2) (some 18) rfl rfl rfl (by kernel_rfl) rfl Tryz.func65 (by kernel_rfl) (by kernel_rfl) #[.slice (some ⟨u0.heap.size, 0, none⟩) 1 1, .slice A4 (digW N).length c4] rfl hc ?_
      rintro e u2 ⟨v18, rfl, ⟨A18, c18, rfl, hr18, -⟩, hb2⟩
      have hS2 := hS1.trans (hb2.mono hS1.size)
      refine ⟨_, rfl, hS2, ?_⟩
      go_frame
      clear hc hb2 hK0
      refine reg_callG (i := 6) (some 22) rfl rfl rfl (by kernel_rfl) rfl Tryz.func67 (by kernel_rfl) (by kernel_rfl) #[.string t1] rfl (HGR.out u2) ?_
      rintro e u3 ⟨rfl, hw⟩
      obtain rfl : u2 = u3 := hw.symm
      refine ⟨_, rfl, hS2, ?_⟩
      go_frame
      clear hw
      have hK3 := Blk.new u2 89 (ws [D])
      have hal := (Below.refl u2.heap.size u2).alloc (Nat.le_refl _) (.cells (ws [D]).toArray 89)
      have hS3 := hS2.trans (hal.mono hS2.size)
      have hr18' := hr18.next hal
      refine reg_makeG (i := 7) (some 23) rfl rfl rfl (by kernel_rfl) (.slice (some ⟨u2.heap.size, 0, none⟩) 1 1) _ (exec_word1 (.tmp 22) rfl D rfl) hS3 ?_
      go_frame
      clear hal hr18
      generalize u2.alloc (.cells (ws [D]).toArray 89) = u4 at hK3 hS3 hr18' ⊢
      have hc := plus_any A18 c18 (digW (10000000000000000000 * N)) (some ⟨u2.heap.size, 0, none⟩) 1 [D] u4 hr18' (rdW_blk hK3) (dig_digW _) (by intro d hd; rw [List.mem_singleton.1 hd]; exact HDB.out) (Nat.le_trans HPL.out (by omega)) (by simp)
      rw [num_one, num_digW, ← HSUM.out] at hc
      refine reg_callG (i := 8) (some 24) rfl rfl rfl (by kernel_rfl) rfl Tryz.func66 (by kernel_rfl) (by kernel_rfl) #[.slice A18 (digW (10000000000000000000 * N)).length c18, .slice (some ⟨u2.heap.size, 0, none⟩) 1 1] rfl hc ?_
      rintro e u5 ⟨v24, rfl, hn5, hb5⟩
      have hS5 := hS3.trans (hb5.mono hS3.size)
      refine ⟨_, rfl, hS5, ?_⟩
      go_frame
      refine reg_valueG (i := 9) (some 4) rfl rfl rfl (by kernel_rfl) v24 (exec_assign (.tmp 24) rfl _ rfl) hS5 ?_
      go_frame
      refine wpAnyH_done (by kernel_rfl) ?_ _
      have HX5 := Lib.hid hn5
      have HB5 := Lib.hid (HB.out.trans (hS5.mono HB.out.size))
      clear hc hb5 hK3 hr18' hS hS1 hS2 hS3 hS5 hn5 hts
      go_wp2_with (refine wpList_run 27 rfl rfl _ (exec_sLo (.tmp 25) (.tmp 26) rfl t (sb (R.drop g)) g HLO.out rfl rfl) ?_)
      go_roundw
      case rel => exact ⟨k + g, by rw [HDR.out], HG1.out, HK2, HX5, HB5⟩
      case measure => simp only [strLen]; exact HG2.out
    · obtain rfl : k = l.length := by omega
      have hx := HX.out
      rw [List.take_length] at hx
      obtain ⟨A, c, rfl, hr, -⟩ := hx
      have HT := Lib.hid (textN (decN l) A c wr hr (Nat.le_trans (dec_len2 HD.out (Nat.le_refl _)) (by omega)))
      have HNE := Lib.hid (fun W => show (binOp .neq 9 (.string (sb (l.drop l.length))) (.string ⟨#[]⟩)).run Tryz.prog W = .ok (.bool false) W by
        have := run_neq_str W (l.drop l.length) []
        rw [List.drop_length] at this ⊢
        exact this)
      clear hr HX HK
      go_wp2_with (refine wpList_run 10 rfl rfl _ (exec_bin .neq 9 _ (.tmp 9) (.const (.string ⟨#[]⟩)) rfl _ _ _ rfl rfl rfl (HNE.out _)) ?_)
      refine HT.out.mono ?_
      rintro e w2 ⟨rfl, hb⟩
      have HB2 := Lib.hid (HB.out.trans (hb.mono HB.out.size))
      clear hb HT
      go_wp2
      go_ret2
      exact ⟨rfl, HB2.out⟩
end Go.Proofs.YtpmlihhofmblpaaGreatDoor
