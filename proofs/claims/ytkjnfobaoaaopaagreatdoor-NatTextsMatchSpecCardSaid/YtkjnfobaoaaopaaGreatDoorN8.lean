/- text: the canonical string of a row of words. -/
import Derived.Test.YtkjnfobaoaaopaaGreatDoorN7
namespace Go.Proofs.YtkjnfobaoaaopaaGreatDoor
open Go.RowKit Hm Wm Wn

section
variable {w : World} {ops : Array Oper} {rest : List Oper} {op : Oper} {a : Act} {Q : Exit → Act → World → Prop}
theorem wpList_store_b (hgd : op.guard = none) (x y : Operand) (ho : op.op = .store 5 x y)
    (g o : Nat) (t : TypeId) (l : List UInt8) (v : UInt8) (hx : a.eval x = .pointer (some ⟨g, o, none⟩)) (hy : a.eval y = .int .u8 v.toNat) (hb : Blk w g t (bc l)) (hl : o < l.length)
    (h : ∀ w', Hid (Blk w' g t (bc (l.set o v))) → Only g w w' → wpList Tryz.prog ops Q rest (a.put op.dst undef) w') : wpList Tryz.prog ops Q (op :: rest) a w := by
  have hfit : o + 1 ≤ (bc l).length := by rw [bc_len]; omega
  have hs := run_storeCells_at Tryz.prog g o t [.int .u8 v.toNat] 0 (bc l).toArray w hb (by simpa using hfit) (by intro u hu; rw [List.mem_singleton.1 hu]; rfl)
  have hi : (Tryz.prog.info? 5).map (·.size) = some 1 := by kernel_rfl
  have hrun : (Instr.storeAt 5 (.pointer (some ⟨g, o, none⟩)) (.int .u8 v.toNat)).run Tryz.prog w = .ok () (w.setRow g (splice (bc l) o [Value.int .u8 v.toNat]).toArray) := by
    cases hq : Tryz.prog.info? 5 with
    | none => simp [hq] at hi
    | some i =>
      have hsz : i.size = 1 := by simpa [hq] using hi
      have e : (splice (bc l) o [Value.int .u8 v.toNat]).toArray = ((bc l).toArray.toList.take (o + 0) ++ [Value.int .u8 v.toNat] ++ (bc l).toArray.toList.drop (o + 0 + [Value.int .u8 v.toNat].length)).toArray := by simp [splice]
      rw [e, ← hs]
      simp [Instr.storeAt, Instr.sureAddr, storeVar, sizeOf, typeInfo, hq, Value.cells, hsz]
  have hsp : splice (bc l) o [Value.int .u8 v.toNat] = bc (l.set o v) := by
    unfold splice bc
    rw [List.map_set, List.set_eq_take_append_cons_drop, if_pos (by rw [List.length_map]; exact hl)]
    simp
  rw [hsp] at hrun
  refine wpList_plain hgd fun K hK => ?_
  unfold Oper.wp execOp
  simp only [ho, hx, hy, Sem.run_bind, hrun]
  exact hK _ _ (h _ (Lib.hid (setRow_heap w g _ _ t _ hb)) (Only.setRow w g _))
theorem wpList_makeB (hgd : op.guard = none) (x y : Operand) (ho : op.op = .makeSlice 60 x y) (n : Nat) (hx : a.eval x = .int .i64 n) (hy : a.eval y = .int .i64 n) (hn : n ≤ 1000000)
    (h : ∀ w', Hid (Blk w' w.heap.size 5 (bc (List.replicate n 0))) → Hid (Below w.heap.size w w') → wpList Tryz.prog ops Q rest (a.put op.dst (.slice (some ⟨w.heap.size, 0, none⟩) n n)) w') : wpList Tryz.prog ops Q (op :: rest) a w := by
  refine wpList_plain hgd fun K hK => ?_
  unfold Oper.wp
  rw [exec_makeSlice 60 x y ho _ _ _ hx hy (run_zeros w n hn)]
  exact hK _ _ (h _ (Lib.hid (Blk.new w 5 (bc (List.replicate n 0)))) (Lib.hid ((Below.refl _ _).alloc (Nat.le_refl _) _)))
end
theorem by_elem : Tryz.prog.elem 60 = 5 := by kernel_rfl
theorem by_sizeOf (W : World) : (sizeOf 5).run Tryz.prog W = .ok 1 W := by kernel_rfl
theorem run_atB (b off n c k : Nat) (hk : k < n) (W : World) : (Instr.indexAt 60 (.slice (some ⟨b, off, none⟩) n c) (.int .i64 k)).run Tryz.prog W = .ok (.pointer (some ⟨b, off + k, none⟩)) W := by
  refine (run_indexAt_slice W 60 ⟨b, off, none⟩ n c .i64 k (by rw [by_elem]; exact Tryz.underlying60)).trans ?_
  rw [if_pos ⟨by omega, by omega⟩, by_elem, by_sizeOf, Result.andThen_ok, Int.toNat_natCast, Addr.add_mid, Nat.mul_one]
theorem exec_atB {oi : Oper} {a : Act} {w : World} (x y : Operand) (ho : oi.op = .indexAddr 60 x y) (b off n c k : Nat) (hk : k < n) (hx : a.eval x = .slice (some ⟨b, off, none⟩) n c) (hy : a.eval y = .int .i64 k) : (execOp a.eval oi).run Tryz.prog w = .ok (.value (.pointer (some ⟨b, off + k, none⟩))) w :=
  exec_indexAddr _ x y ho _ _ _ hx hy (run_atB b off n c k hk w)
theorem run_shrB (y r : Nat) (hr : r < 8) (w : World) : (binOp .shr 53 (.int .u64 y) (.int .i64 ((8 * r : Nat) : Int))).run Tryz.prog w = .ok (.int .u64 ((y / 256 ^ r : Nat) : Int)) w := by
  have e : binOp .shr 53 (.int .u64 (y : Int)) (.int .i64 ((8 * r : Nat) : Int)) = Op.shift .shr .u64 (y : Int) .i64 ((8 * r : Nat) : Int) := rfl
  rw [e, shift_shr .u64 .i64 (y : Int) ((8 * r : Nat) : Int) (by omega) (by show _ ≤ ((64 : Nat) : Int); omega), Sem.run_pure]
  have e : ((y : Int) / 2 ^ ((8 * r : Nat) : Int).toNat) = ((y / 256 ^ r : Nat) : Int) := by rw [Int.toNat_natCast, ← pow_256]; push_cast; rfl
  rw [e]
theorem run_convB (z : Nat) (w : World) : (convert 53 5 (.int .u64 z)).run Tryz.prog w = .ok (.int .u8 ((UInt8.ofNat (z % 256)).toNat : Int)) w := by
  have hm : (UInt8.ofNat (z % 256)).toNat = z % 256 := by simp [UInt8.toNat_ofNat']
  rw [hm]
  simp [convert, go_sem]
  simp [IntKind.wrap, IntKind.bits, IntKind.signed]

/-- The byte at a place of a number. -/
theorem byte_at {X : List Nat} {i : Nat} (hd : Dig X) (hq : i / 8 < X.length) : num X / 256 ^ i % 256 = X[i / 8] / 256 ^ (i % 8) % 256 := by
  have e : num X = num (X.take (i / 8)) + B ^ (i / 8) * (X[i / 8] + B * num (X.drop (i / 8 + 1))) := by
    conv => lhs; rw [← List.take_append_drop (i / 8) X, num_append, List.length_take, Nat.min_eq_left (by omega), List.drop_eq_getElem_cons hq, num]
  have h1 := num_lt (hd.take (i / 8))
  rw [List.length_take, Nat.min_eq_left (by omega)] at h1
  have e2 : 256 ^ i = B ^ (i / 8) * 256 ^ (i % 8) := by rw [pow_B256, Nat.div_add_mod]
  have e3 : num X / B ^ (i / 8) = X[i / 8] + B * num (X.drop (i / 8 + 1)) := by
    rw [e, Nat.add_mul_div_left _ _ (Nat.pow_pos B_pos), Nat.div_eq_of_lt h1, Nat.zero_add]
  have e4 : B = 256 ^ (i % 8) * (256 * 256 ^ (7 - i % 8)) := by
    rw [B_256, ← Nat.pow_succ', ← Nat.pow_add]
    congr 1
    omega
  rw [e2, ← Nat.div_div_eq_div_mul, e3]
  conv => lhs; rw [e4]
  rw [Nat.mul_assoc, Nat.add_mul_div_left _ _ (Nat.pow_pos (by decide)), Nat.mul_assoc, Nat.add_mul_mod_self_left]
theorem byte_step (N i : Nat) : N % 256 ^ (i + 1) = N % 256 ^ i + 256 ^ i * (N / 256 ^ i % 256) := by
  rw [Nat.pow_succ, Nat.mod_mul]
theorem rdB_blk {w : World} {g : Nat} {t : TypeId} {l : List UInt8} (h : Blk w g t (bc l)) : Rd w (some ⟨g, 0, none⟩) (bc l) := fun _ => ⟨g, 0, rfl, fun k u hu => by rw [Nat.zero_add, h.cell k]; exact hu⟩
/-- What stands in the loop of text. -/
def TxR (w : World) (X : List Nat) (n : Nat) (iv : Value) (wr : World) : Prop :=
  ∃ (i : Nat) (bl : List UInt8), iv = .int .i64 i ∧ i ≤ n ∧ Hid (bl.length = n) ∧ Hid (numB (bl.drop (n - i)) = num X % 256 ^ i) ∧ Hid (Blk wr w.heap.size 5 (bc bl)) ∧ Hid (Below w.heap.size w wr)
set_option maxRecDepth 100000 in
set_option maxHeartbeats 400000 in
theorem text_any (A : Option Addr) (c : Nat) (X : List Nat) (w : World) (hr : RdW w A X) (hd : Dig X) (hl : X.length ≤ 100000) : Calls Tryz.prog 32 #[.slice A X.length c] w fun e w' => e = .returned (.string (sb (canS (num X)))) ∧ Below w.heap.size w w' := by
  obtain ⟨n, hn⟩ : ∃ n, 8 * X.length = n := ⟨_, rfl⟩
  have HN := Lib.hid (show 8 * (X.length : Int) = (n : Int) by omega)
  have HNN := Lib.hid hn
  have hn1 : n ≤ 1000000 := by omega
  have HR := Lib.hid hr
  have HD := Lib.hid hd
  clear hr hd
  go_enter Tryz.func32, Tryz.ntmps32
  go_wp2_with (refine wpList_makeB rfl (.tmp 7) (.tmp 7) rfl n (congrArg (Value.int .i64) HN.out) (congrArg (Value.int .i64) HN.out) hn1 ?_; intro w1 HK1 HB1)
  go_loopw [11] (TxR w X n) (fun iv _ => n - (intOf iv).toNat)
  case atStart => exact ⟨0, List.replicate n 0, rfl, Nat.zero_le _, Lib.hid List.length_replicate, Lib.hid (by rw [Nat.sub_zero, List.drop_of_length_le (by rw [List.length_replicate]; exact Nat.le_refl _), Nat.pow_zero, Nat.mod_one]; rfl), HK1, HB1⟩
  case round =>
    obtain ⟨i, bl, rfl, hi, HBL, HBN, HK, HB⟩ := hrel
    by_cases hlt : i < n
    · have d1 : decide ((i : Int) < (n : Int)) = true := decide_eq_true (by omega)
      have d1' : decide (i < n) = true := decide_eq_true hlt
      have hq : i / 8 < X.length := by omega
      obtain ⟨b, off, rfl, hcell⟩ := (HR.out.next HB.out).cell hq
      have hba := byte_at HD.out hq
      obtain ⟨y, hy⟩ : ∃ y, X[i / 8] = y := ⟨_, rfl⟩
      rw [hy] at hcell hba
      obtain ⟨r, hrr⟩ : ∃ r, i % 8 = r := ⟨_, rfl⟩
      have hr8 : r < 8 := by omega
      obtain ⟨z, hz⟩ : ∃ z, y / 256 ^ r = z := ⟨_, rfl⟩
      obtain ⟨v, hv⟩ : ∃ v, UInt8.ofNat (z % 256) = v := ⟨_, rfl⟩
      have hvn : v.toNat = z % 256 := by rw [← hv]; simp [UInt8.toNat_ofNat']
      have HSH := Lib.hid (fun W => show (binOp .shr 53 (.int .u64 y) (.int .i64 (8 * ((i : Int) % 8)))).run Tryz.prog W = .ok (.int .u64 (z : Int)) W by rw [show 8 * ((i : Int) % 8) = ((8 * r : Nat) : Int) by omega, ← hz]; exact run_shrB y r hr8 W)
      have HCV := Lib.hid (fun W => show (convert 53 5 (.int .u64 z)).run Tryz.prog W = .ok (.int .u8 (v.toNat : Int)) W by rw [← hv]; exact run_convB z W)
      have hjl : n - 1 - i < bl.length := by rw [HBL.out]; omega
      obtain ⟨bl2, hbl2⟩ : ∃ bl2, bl.set (n - 1 - i) v = bl2 := ⟨_, rfl⟩
      have hd2 : bl2.drop (n - (i + 1)) = v :: bl.drop (n - i) := by
        rw [← hbl2, show n - (i + 1) = n - 1 - i by omega, List.drop_set, if_neg (Nat.lt_irrefl _), Nat.sub_self, List.drop_eq_getElem_cons hjl, List.set_cons_zero, show n - 1 - i + 1 = n - i by omega]
      have hdl : (bl.drop (n - i)).length = i := by rw [List.length_drop, HBL.out]; omega
      have HB2 := Lib.hid (show numB (bl2.drop (n - (i + 1))) = num X % 256 ^ (i + 1) by
        rw [hd2, numB_cons, hdl, HBN.out, byte_step, hba, hrr, hz, hvn, Nat.mul_comm]; omega)
      have HL2 := Lib.hid (show bl2.length = n by rw [← hbl2, List.length_set]; exact HBL.out)
      have HX2 := Lib.hid hbl2
      have HJ := Lib.hid hjl
      clear hba hy hrr hz hv hvn hd2 hdl hjl hbl2 HBL HBN hr8
      go_wp2_with (first | (refine wpList_run 28 rfl rfl _ (exec_bin .shr 53 _ (.tmp 24) (.tmp 27) rfl _ _ _ rfl rfl rfl (HSH.out _)) ?_) | (refine wpList_run 29 rfl rfl _ (exec_convert 53 5 (.tmp 28) rfl _ _ rfl (HCV.out _)) ?_) | (refine wpList_run 30 rfl rfl _ (exec_atB (.tmp 14) (.tmp 19) rfl w.heap.size 0 n n (n - 1 - i) (by omega) rfl (by go_num)) ?_) | (refine wpList_store_b rfl (.tmp 30) (.tmp 29) rfl w.heap.size (n - 1 - i) _ bl v rfl rfl HK.out HJ.out ?_; intro w5 HK5 ho5; have HB5 := Lib.hid (HB.out.trans (ho5.below (Nat.le_refl _))); clear ho5))
      go_roundw
      case rel => exact ⟨i + 1, bl2, by go_num, by omega, HL2, HB2, Lib.hid (by rw [← HX2.out]; exact HK5.out), HB5⟩
      case measure => simp [intOf]; omega
    · obtain rfl : i = n := by omega
      have d1 : decide ((i : Int) < (i : Int)) = false := decide_eq_false (by omega)
      have hnb : numB bl = num X := by
        have := HBN.out
        rw [Nat.sub_self, List.drop_zero] at this
        rw [this, Nat.mod_eq_of_lt]
        have h1 := num_lt HD.out
        rwa [B_256, ← Nat.pow_mul, HNN.out] at h1
      have hrs := run_str (w := wr) (rdB_blk HK.out) i
      rw [HBL.out] at hrs
      have hcl := clean_any (sb bl) wr
      rw [sb_list, hnb] at hcl
      have HRS := Lib.hid hrs
      have HCL := Lib.hid hcl
      clear hnb hrs hcl HBN HBL
      go_wp2_with (refine wpList_run 33 rfl rfl _ (exec_convert 60 9 (.tmp 32) rfl _ _ rfl HRS.out) ?_)
      refine HCL.out.mono ?_
      rintro e w9 ⟨rfl, hw⟩
      obtain rfl : wr = w9 := hw.symm
      go_wp2
      go_ret
      exact ⟨rfl, HB.out⟩
end Go.Proofs.YtkjnfobaoaaopaaGreatDoor
