/- The reference: Mul. -/
import Derived.Test.YtkjnfobaoaaopaaGreatDoorR5
import Derived.Deep.LoopGhost
namespace Go.Proofs.YtkjnfobaoaaopaaGreatDoor
open Go.RowKit Hm Wm Wn

def iv (n : Nat) : Value := .int .i64 (n : Int)
theorem ic_set (l : List Nat) (n v : Nat) : (ic l).set n (iv v) = ic (l.set n v) := (List.map_set ..).symm
theorem wpList_store_I {w : World} {ops : Array Oper} {rest : List Oper} {op : Oper} {a : Act} {Q : Exit → Act → World → Prop} (hgd : op.guard = none) (x y : Operand) (ho : op.op = .store 3 x y)
    (g o : Nat) (t : TypeId) (l : List Nat) (v : Nat) (hx : a.eval x = .pointer (some ⟨g, o, none⟩)) (hy : a.eval y = .int .i64 v) (hb : Blk w g t (ic l)) (hl : o < l.length)
    (h : ∀ w', Hid (Blk w' g t (ic (l.set o v))) → Only g w w' → wpList Tryz.prog ops Q rest (a.put op.dst undef) w') : wpList Tryz.prog ops Q (op :: rest) a w := by
  have hfit : o + 1 ≤ (ic l).length := by rw [ic_len]; omega
  have hs := run_storeCells_at Tryz.prog g o t [iv v] 0 (ic l).toArray w hb (by simpa using hfit) (by intro u hu; rw [List.mem_singleton.1 hu]; rfl)
  have hi : (Tryz.prog.info? 3).map (·.size) = some 1 := by kernel_rfl
  have hrun : (Instr.storeAt 3 (.pointer (some ⟨g, o, none⟩)) (iv v)).run Tryz.prog w = .ok () (w.setRow g (splice (ic l) o [iv v]).toArray) := by
    cases hq : Tryz.prog.info? 3 with
    | none => simp [hq] at hi
    | some i =>
      have hsz : i.size = 1 := by simpa [hq] using hi
      have e : (splice (ic l) o [iv v]).toArray = ((ic l).toArray.toList.take (o + 0) ++ [iv v] ++ (ic l).toArray.toList.drop (o + 0 + [iv v].length)).toArray := by simp [splice]
      rw [e, ← hs]
      simp [Instr.storeAt, Instr.sureAddr, storeVar, sizeOf, typeInfo, hq, Value.cells, hsz, iv]
  have hsp : splice (ic l) o [iv v] = ic (l.set o v) := by
    rw [← ic_set]
    unfold splice
    rw [List.set_eq_take_append_cons_drop, if_pos (by rw [ic_len]; exact hl)]
    simp
  rw [hsp] at hrun
  refine wpList_plain hgd fun K hK => ?_
  unfold Oper.wp execOp
  simp only [ho, hx, hy, Sem.run_bind]
  have e2 : (Value.int IntKind.i64 (v : Int)) = iv v := rfl
  rw [e2, hrun]
  exact hK _ _ (h _ (Lib.hid (setRow_heap w g _ _ t _ hb)) (Only.setRow w g _))

theorem madeCells_I (n : Nat) : madeCells #[.int .i64 0] n = (ic (zd n)).toArray := by
  apply Array.ext
  · simp [madeCells, ic, zd]
  · intro i h1 h2
    have e : i % 1 = 0 := Nat.mod_one i
    simp [madeCells, ic, zd, e]
theorem run_zerosI (w : World) (n : Nat) (h : n ≤ 1000000) : (Instr.makeSlice 57 (.int .i64 n) (.int .i64 n)).run Tryz.prog w = .ok (.slice (some ⟨w.heap.size, 0, none⟩) n n) (w.alloc (.cells (ic (zd n)).toArray 3)) := by
  obtain ⟨i0, hi, hz0, hz1, hz2⟩ := info_parts in_info
  have := run_make (P := Tryz.prog) w 57 3 i0 _ il_under hi hz0 .i64 .i64 n n (by omega) (by omega) (by rw [hz2]; omega) (by omega)
  rw [hz1, Nat.mul_one, Int.toNat_natCast, show (Value.int IntKind.i64 0).cells = #[.int .i64 0] from rfl, madeCells_I] at this
  exact this
section
variable {w : World} {ops : Array Oper} {rest : List Oper} {o : Oper} {a : Act} {Q : Exit → Act → World → Prop}
theorem wpList_makeI (hgd : o.guard = none) (x y : Operand) (ho : o.op = .makeSlice 57 x y) (n : Nat) (hx : a.eval x = .int .i64 n) (hy : a.eval y = .int .i64 n) (hn : n ≤ 1000000)
    (h : ∀ w', Hid (Blk w' w.heap.size 3 (ic (zd n))) → Hid (Below w.heap.size w w') → wpList Tryz.prog ops Q rest (a.put o.dst (.slice (some ⟨w.heap.size, 0, none⟩) n n)) w') : wpList Tryz.prog ops Q (o :: rest) a w := by
  refine wpList_plain hgd fun K hK => ?_
  unfold Oper.wp
  rw [exec_makeSlice 57 x y ho _ _ _ hx hy (run_zerosI w n hn)]
  exact hK _ _ (h _ (Lib.hid (Blk.new w 3 (ic (zd n)))) (Lib.hid ((Below.refl _ _).alloc (Nat.le_refl _) _)))
end
theorem il_elem : Tryz.prog.elem 57 = 3 := by kernel_rfl
theorem il_sizeOf (W : World) : (sizeOf 3).run Tryz.prog W = .ok 1 W := by kernel_rfl
theorem run_atI (b off n c k : Nat) (hk : k < n) (W : World) : (Instr.indexAt 57 (.slice (some ⟨b, off, none⟩) n c) (.int .i64 k)).run Tryz.prog W = .ok (.pointer (some ⟨b, off + k, none⟩)) W := by
  refine (run_indexAt_slice W 57 ⟨b, off, none⟩ n c .i64 k (by rw [il_elem]; exact il_under)).trans ?_
  rw [if_pos ⟨by omega, by omega⟩, il_elem, il_sizeOf, Result.andThen_ok, Int.toNat_natCast, Addr.add_mid, Nat.mul_one]
theorem exec_atI {oi : Oper} {a : Act} {w : World} (x y : Operand) (ho : oi.op = .indexAddr 57 x y) (b off n c k : Nat) (hk : k < n) (hx : a.eval x = .slice (some ⟨b, off, none⟩) n c) (hy : a.eval y = .int .i64 k) : (execOp a.eval oi).run Tryz.prog w = .ok (.value (.pointer (some ⟨b, off + k, none⟩))) w :=
  exec_indexAddr _ x y ho _ _ _ hx hy (run_atI b off n c k hk w)

theorem rdI_blk {w : World} {g : Nat} {t : TypeId} {l : List Nat} (h : Blk w g t (ic l)) : RdI w (some ⟨g, 0, none⟩) l := fun _ => ⟨g, 0, rfl, fun k u hu => by rw [Nat.zero_add, h.cell k]; exact hu⟩
theorem cell_I {w : World} {g i v : Nat} {t : TypeId} {l : List Nat} (h : Blk w g t (ic l)) (hv : l[i]? = some v) : w.cell? ⟨g, i, none⟩ = some (.int .i64 (v : Int)) := by
  rw [h.cell i]
  unfold ic
  rw [List.getElem?_map, hv]
  rfl
theorem v256_set : ∀ (l : List Nat) (q v : Nat) (h : q < l.length), v256 (l.set q v) + 256 ^ q * l[q] = v256 l + 256 ^ q * v
  | d :: r, 0, v, _ => by simp [v256]; omega
  | d :: r, q + 1, v, h => by
    have ih := v256_set r q v (by simpa using h)
    rw [List.set_cons_succ, v256, v256, List.getElem_cons_succ, Nat.pow_succ, Nat.mul_comm (256 ^ q) 256, Nat.mul_assoc, Nat.mul_assoc]
    omega
theorem v256_zeros (n : Nat) : v256 (zd n) = 0 := by
  induction n with
  | zero => rfl
  | succ n ih => unfold zd at *; rw [List.replicate_succ, v256, ih]
theorem byt_set {l : List Nat} {q v : Nat} (h : Byt l) (hv : v < 256) : Byt (l.set q v) := fun x hx => by
  rcases List.mem_or_eq_of_mem_set hx with h1 | h1
  · exact h x h1
  · rw [h1]; exact hv
theorem byt_zeros (n : Nat) : Byt (zd n) := fun x hx => by rw [(List.mem_replicate.1 hx).2]; decide
theorem run_mulN (x y z : Nat) (w : World) (h : x * y = z) (hz : z ≤ 1000000000) : (binOp .mul 3 (.int .i64 x) (.int .i64 y)).run Tryz.prog w = .ok (.int .i64 (z : Int)) w := by
  have e : (x : Int) * (y : Int) = (z : Int) := by rw [← h]; push_cast; rfl
  simp [binOp, go_sem]
  rw [e]
  simp [IntKind.wrap, IntKind.bits, IntKind.signed]; omega
/-- One digit more of the inner loop. -/
theorem rmul_step {O : List Nat} {V i k d x b c n : Nat} (hj : i + k < O.length) (hx : O[i + k] = x) (h : v256 O + 256 ^ (i + k) * c = V + 256 ^ i * (d * (b % 256 ^ k))) (hn : x + d * (b / 256 ^ k % 256) + c = n) :
    v256 (O.set (i + k) (n % 256)) + 256 ^ (i + (k + 1)) * (n / 256) = V + 256 ^ i * (d * (b % 256 ^ (k + 1))) := by
  have h1 := v256_set O (i + k) (n % 256) hj
  rw [hx] at h1
  rw [byte_step b k, ← Nat.add_assoc, Nat.pow_succ, Nat.mul_assoc]
  have e1 : 256 ^ (i + k) * (n % 256) + 256 ^ (i + k) * (256 * (n / 256)) = 256 ^ (i + k) * n := by rw [← Nat.mul_add, Nat.mod_add_div]
  have e2 : 256 ^ (i + k) * n = 256 ^ (i + k) * x + 256 ^ (i + k) * (d * (b / 256 ^ k % 256)) + 256 ^ (i + k) * c := by rw [← hn, Nat.mul_add, Nat.mul_add]
  have e3 : 256 ^ i * (d * (b % 256 ^ k + 256 ^ k * (b / 256 ^ k % 256))) = 256 ^ i * (d * (b % 256 ^ k)) + 256 ^ (i + k) * (d * (b / 256 ^ k % 256)) := by
    rw [Nat.mul_add, Nat.mul_add, Nat.pow_add, Nat.mul_left_comm d (256 ^ k), ← Nat.mul_assoc (256 ^ i) (256 ^ k)]
  omega
/-- What stands in the outer loop, and in the inner one. -/
def RmO (w : World) (a b n i : Nat) (O : List Nat) (wr : World) : Prop := Blk wr w.heap.size 3 (ic O) ∧ O.length = n ∧ Byt O ∧ v256 O = a % 256 ^ i * b ∧ Below w.heap.size w wr
def RmI (w : World) (b n i k c d V : Nat) (O : List Nat) (wr : World) : Prop := Blk wr w.heap.size 3 (ic O) ∧ O.length = n ∧ Byt O ∧ c ≤ 255 ∧ v256 O + 256 ^ (i + k) * c = V + 256 ^ i * (d * (b % 256 ^ k)) ∧ Below w.heap.size w wr
set_option maxRecDepth 100000 in
set_option maxHeartbeats 2000000 in
theorem rmul_any (s t : ByteArray) (w : World) (hs : s.size ≤ 20000) (ht : t.size ≤ 20000) : Calls Tryz.prog 19 #[.string s, .string t] w fun e w' => e = .returned (.string (cS (nB s * nB t))) ∧ Below w.heap.size w w' := by
  obtain ⟨n, hn⟩ : ∃ n, s.size + t.size + 1 = n := ⟨_, rfl⟩
  have HNE := Lib.hid (show (s.size : Int) + (t.size : Int) + 1 = (n : Int) by omega)
  have HPA := Lib.hid (nB_lt s)
  have HPB := Lib.hid (nB_lt t)
  have HD1 := Lib.hid (fun k W (h : k ≤ 100000) => rdigit_any s k W (by omega) h)
  have HD2 := Lib.hid (fun k W (h : k ≤ 100000) => rdigit_any t k W (by omega) h)
  generalize nB s = a at HPA HD1 ⊢
  generalize nB t = b at HPB HD2 ⊢
  go_enter Tryz.func19, Tryz.ntmps19
  go_wp2_with (refine wpList_makeI rfl (.tmp 15) (.tmp 15) rfl n (congrArg (Value.int .i64) HNE.out) (congrArg (Value.int .i64) HNE.out) (by omega) ?_; intro w1 HK1 HB1)
  go_loopw [6] (fun iv wr => ∃ (i : Nat) (O : List Nat), iv = .int .i64 i ∧ i ≤ s.size ∧ Hid (RmO w a b n i O wr)) (fun iv _ => s.size - (intOf iv).toNat)
  case atStart => exact ⟨0, zd n, rfl, Nat.zero_le _, Lib.hid ⟨HK1.out, zd_len n, byt_zeros n, by rw [v256_zeros, Nat.pow_zero, Nat.mod_one, Nat.zero_mul], HB1.out⟩⟩
  case round =>
    obtain ⟨i, O, rfl, hi, HS⟩ := hrel
    by_cases hlt : i < s.size
    · have c1 : decide ((i : Int) < (s.size : Int)) = true := decide_eq_true (by omega)
      have c1' : decide (i < s.size) = true := decide_eq_true hlt
      obtain ⟨V, hV⟩ : ∃ V, v256 O = V := ⟨_, rfl⟩
      obtain ⟨d, hd⟩ : ∃ d, a / 256 ^ i % 256 = d := ⟨_, rfl⟩
      have HVA := Lib.hid (show V = a % 256 ^ i * b by rw [← hV]; exact HS.out.2.2.2.1)
      have HI0 := Lib.hid (show RmI w b n i 0 0 d V O wr from ⟨HS.out.1, HS.out.2.1, HS.out.2.2.1, by omega, by rw [Nat.pow_zero, Nat.mod_one]; omega, HS.out.2.2.2.2⟩)
      have HF1 := Lib.hid (fun W => HD1.out i W (by omega))
      rw [hd] at HF1
      have hd256 : d < 256 := by rw [← hd]; exact Nat.mod_lt _ (by decide)
      have HDD := Lib.hid hd
      clear hd hV HS
      go_wp2_with fail
      go_loopw [7, 8] (fun cv kv wr => ∃ (k c : Nat) (O : List Nat), cv = .int .i64 c ∧ kv = .int .i64 k ∧ k ≤ t.size + 1 ∧ Hid (RmI w b n i k c d V O wr)) (fun _ kv _ => t.size + 1 - (intOf kv).toNat)
      case atStart => exact ⟨0, 0, O, rfl, rfl, by omega, HI0⟩
      case round =>
        clear HI0
        obtain ⟨k, c, O, rfl, rfl, hk, HI⟩ := hrel
        by_cases hkt : k ≤ t.size
        · have c2 : decide ((k : Int) ≤ (t.size : Int)) = true := decide_eq_true (by omega)
          have c2' : decide (k ≤ t.size) = true := decide_eq_true hkt
          obtain ⟨i1, i2, i3, i4, i5, i6⟩ := HI.out
          have hj : i + k < O.length := by rw [i2]; omega
          obtain ⟨x, hx⟩ : ∃ x, O[i + k] = x := ⟨_, rfl⟩
          have hx256 : x < 256 := by rw [← hx]; exact i3 _ (List.getElem_mem hj)
          obtain ⟨f, hf⟩ : ∃ f, b / 256 ^ k % 256 = f := ⟨_, rfl⟩
          have hf256 : f < 256 := by rw [← hf]; exact Nat.mod_lt _ (by decide)
          obtain ⟨m, hm⟩ : ∃ m, d * f = m := ⟨_, rfl⟩
          have hm2 : m ≤ 65025 := by
            rw [← hm]
            exact Nat.mul_le_mul (show d ≤ 255 by omega) (show f ≤ 255 by omega)
          obtain ⟨n1, hn1⟩ : ∃ z, x + m = z := ⟨_, rfl⟩
          obtain ⟨n2, hn2⟩ : ∃ z, n1 + c = z := ⟨_, rfl⟩
          have hst := rmul_step hj hx i5 (show x + d * (b / 256 ^ k % 256) + c = n2 by rw [hf, hm, hn1, hn2])
          have HF2 := Lib.hid (fun W => HD2.out k W (by omega))
          rw [hf] at HF2
          have hxe : O[i + k]? = some x := by rw [← hx]; exact List.getElem?_eq_getElem hj
          obtain ⟨j, hjj⟩ : ∃ j, i + k = j := ⟨_, rfl⟩
          have HJ := Lib.hid (fun W => run_addN i k j W hjj (by omega))
          have HA1 := Lib.hid (fun W => run_mulN d f m W hm (by omega))
          have HA2 := Lib.hid (fun W => run_addN x m n1 W hn1 (by omega))
          have HA3 := Lib.hid (fun W => run_addN n1 c n2 W hn2 (by omega))
          have HRM := Lib.hid (fun W => run_rem256 n2 W (by omega))
          have HQU := Lib.hid (fun W => run_quo256 n2 W (by omega))
          rw [hjj] at hxe hst hj
          obtain ⟨e, he⟩ : ∃ z, n2 % 256 = z := ⟨_, rfl⟩
          obtain ⟨q, hq⟩ : ∃ z, n2 / 256 = z := ⟨_, rfl⟩
          have HB2 := Lib.hid (byt_set (q := j) (v := e) i3 (by omega))
          have HQ2 := Lib.hid (show q ≤ 255 by omega)
          have HXE := Lib.hid hxe
          have HJN := Lib.hid (show j < n by omega)
          have HJO := Lib.hid hj
          rw [he] at HRM hst
          rw [hq] at HQU hst
          have HST := Lib.hid hst
          have HBK := Lib.hid i1
          have HLO := Lib.hid i2
          have HW := Lib.hid i6
          clear i1 i2 i3 i4 i5 i6 hj hx hx256 hf hf256 hm hm2 hn1 hn2 hst hxe hjj he hq HI
          go_wp2_with fail
          refine wp_region_held_drew (S := fun W => Blk W w.heap.size 3 (ic O) ∧ Below w.heap.size w W) (by kernel_rfl) ⟨HBK.out.drew, HW.out.drew⟩ (fun hS => ?_)
          generalize wr.drew = u0 at hS ⊢
          refine reg_takeG (i := 0) (some 29) rfl rfl rfl (by kernel_rfl) (by kernel_rfl) (by kernel_rfl) (.slice (some ⟨w.heap.size, 0, none⟩) n n) (fun _ _ _ h => h) (fun W hW => exec_move (.tmp 5) rfl _ rfl) hS ?_
          go_frame
          refine reg_takeG (i := 1) (some 30) rfl rfl rfl (by kernel_rfl) (by kernel_rfl) (by kernel_rfl) (.int .i64 i) (fun _ _ _ h => h) (fun W hW => exec_move (.tmp 6) rfl _ rfl) hS ?_
          go_frame
          refine reg_takeG (i := 2) (some 31) rfl rfl rfl (by kernel_rfl) (by kernel_rfl) (by kernel_rfl) (.int .i64 k) (fun _ _ _ h => h) (fun W hW => exec_move (.tmp 8) rfl _ rfl) hS ?_
          go_frame
          refine reg_takeG (i := 3) (some 32) rfl rfl rfl (by kernel_rfl) (by kernel_rfl) (by kernel_rfl) (.int .i64 j) (fun _ _ _ h => h) (fun W hW => exec_bin .add 3 _ (.tmp 30) (.tmp 31) rfl _ _ _ rfl rfl rfl (HJ.out W)) hS ?_
          go_frame
          refine reg_takeG (i := 4) (some 33) rfl rfl rfl (by kernel_rfl) (by kernel_rfl) (by kernel_rfl) (.pointer (some ⟨w.heap.size, 0 + j, none⟩)) (fun _ _ _ h => h) (fun W hW => exec_atI (.tmp 29) (.tmp 32) rfl w.heap.size 0 n n j HJN.out rfl rfl) hS ?_
          go_frame
          refine reg_takeG (i := 5) (some 34) rfl rfl rfl (by kernel_rfl) (by kernel_rfl) (by kernel_rfl) (.int .i64 x) (fun _ _ _ h => h) (fun W hW => exec_loadI (.tmp 33) rfl _ rfl (by rw [Nat.zero_add]; exact cell_I hW.1 HXE.out)) hS ?_
          go_frame
          refine reg_takeG (i := 6) (some 35) rfl rfl rfl (by kernel_rfl) (by kernel_rfl) (by kernel_rfl) (.string s) (fun _ _ _ h => h) (fun W hW => exec_move (.tmp 0) rfl _ rfl) hS ?_
          go_frame
          refine reg_takeG (i := 7) (some 36) rfl rfl rfl (by kernel_rfl) (by kernel_rfl) (by kernel_rfl) (.int .i64 i) (fun _ _ _ h => h) (fun W hW => exec_move (.tmp 6) rfl _ rfl) hS ?_
          go_frame
          refine reg_takeG (i := 9) (some 38) rfl rfl rfl (by kernel_rfl) (by kernel_rfl) (by kernel_rfl) (.string t) (fun _ _ _ h => h) (fun W hW => exec_move (.tmp 1) rfl _ rfl) hS ?_
          go_frame
          refine reg_takeG (i := 10) (some 39) rfl rfl rfl (by kernel_rfl) (by kernel_rfl) (by kernel_rfl) (.int .i64 k) (fun _ _ _ h => h) (fun W hW => exec_move (.tmp 8) rfl _ rfl) hS ?_
          go_frame
          refine reg_takeG (i := 14) (some 43) rfl rfl rfl (by kernel_rfl) (by kernel_rfl) (by kernel_rfl) (.int .i64 c) (fun _ _ _ h => h) (fun W hW => exec_move (.tmp 7) rfl _ rfl) hS ?_
          go_frame
          refine reg_callG (i := 8) (some 37) rfl rfl rfl (by kernel_rfl) rfl Tryz.func34 (by kernel_rfl) (by kernel_rfl) #[.string s, .int .i64 i] rfl (HF1.out u0) ?_
          rintro e u1 ⟨rfl, hw⟩
          obtain rfl : u0 = u1 := hw.symm
          clear hw
          refine ⟨_, rfl, hS, ?_⟩
          go_frame
          refine reg_callG (i := 11) (some 40) rfl rfl rfl (by kernel_rfl) rfl Tryz.func34 (by kernel_rfl) (by kernel_rfl) #[.string t, .int .i64 k] rfl (HF2.out u0) ?_
          rintro e u1 ⟨rfl, hw⟩
          obtain rfl : u0 = u1 := hw.symm
          clear hw
          refine ⟨_, rfl, hS, ?_⟩
          go_frame
          refine reg_takeG (i := 12) (some 41) rfl rfl rfl (by kernel_rfl) (by kernel_rfl) (by kernel_rfl) (.int .i64 m) (fun _ _ _ h => h) (fun W hW => exec_bin .mul 3 _ (.tmp 37) (.tmp 40) rfl _ _ _ rfl rfl rfl (HA1.out W)) hS ?_
          go_frame
          refine reg_takeG (i := 13) (some 42) rfl rfl rfl (by kernel_rfl) (by kernel_rfl) (by kernel_rfl) (.int .i64 n1) (fun _ _ _ h => h) (fun W hW => exec_bin .add 3 _ (.tmp 34) (.tmp 41) rfl _ _ _ rfl rfl rfl (HA2.out W)) hS ?_
          go_frame
          refine reg_takeG (i := 15) (some 44) rfl rfl rfl (by kernel_rfl) (by kernel_rfl) (by kernel_rfl) (.int .i64 n2) (fun _ _ _ h => h) (fun W hW => exec_bin .add 3 _ (.tmp 42) (.tmp 43) rfl _ _ _ rfl rfl rfl (HA3.out W)) hS ?_
          go_frame
          refine reg_takeG (i := 16) (some 9) rfl rfl rfl (by kernel_rfl) (by kernel_rfl) (by kernel_rfl) (.int .i64 n2) (fun _ _ _ h => h) (fun W hW => exec_assign (.tmp 44) rfl _ rfl) hS ?_
          go_frame
          refine wpAnyH_done (by kernel_rfl) ?_ _
          have HBU := Lib.hid hS.1
          have HWU := Lib.hid hS.2
          clear hS
          go_wp2_with (first
            | (refine wpList_dst 48 rfl ?_; refine wpList_run 48 rfl rfl _ (exec_bin .add 3 _ (.tmp 46) (.tmp 47) rfl _ _ _ rfl rfl rfl (HJ.out _)) ?_)
            | (refine wpList_dst 50 rfl ?_; refine wpList_run 50 rfl rfl _ (exec_bin .rem 3 _ (.tmp 49) (.const (.int .i64 256)) rfl _ _ _ rfl rfl rfl (HRM.out _)) ?_)
            | (refine wpList_dst 51 rfl ?_; refine wpList_run 51 rfl rfl _ (exec_atI (.tmp 45) (.tmp 48) rfl w.heap.size 0 n n j HJN.out rfl rfl) ?_)
            | (refine wpList_store_I rfl (.tmp 51) (.tmp 50) rfl w.heap.size (0 + j) _ O e rfl rfl HBU.out (by rw [Nat.zero_add]; exact HJO.out) ?_; intro w5 HB5 ho5; have HW5 := Lib.hid (HWU.out.trans (ho5.below (Nat.le_refl _))); clear ho5)
            | (refine wpList_dst 53 rfl ?_; refine wpList_run 53 rfl rfl _ (exec_bin .quo 3 _ (.tmp 52) (.const (.int .i64 256)) rfl _ _ _ rfl rfl rfl (HQU.out _)) ?_))
          go_roundw
          case rel => exact ⟨k + 1, q, O.set j e, rfl, by go_num, by omega, Lib.hid ⟨by have := HB5.out; rwa [Nat.zero_add] at this, by rw [List.length_set]; exact HLO.out, HB2.out, HQ2.out, HST.out, HW5.out⟩⟩
          case measure => simp [intOf]; omega
        · obtain rfl : k = t.size + 1 := by omega
          have c2 : decide (((t.size + 1 : Nat) : Int) ≤ (t.size : Int)) = false := decide_eq_false (by omega)
          have c2' : decide (t.size + 1 ≤ t.size) = false := decide_eq_false (by omega)
          obtain ⟨i1, i2, i3, i4, i5, i6⟩ := HI.out
          have hfin : v256 O = a % 256 ^ (i + 1) * b := by
            have hp := HPB.out
            have h3 : 256 ^ (t.size + 1) = 256 ^ t.size * 256 := Nat.pow_succ ..
            rw [Nat.mod_eq_of_lt (by omega), HVA.out] at i5
            have e1 : a % 256 ^ (i + 1) * b = a % 256 ^ i * b + 256 ^ i * (d * b) := by rw [byte_step a i, HDD.out, Nat.add_mul, Nat.mul_assoc]
            have h4 : a % 256 ^ (i + 1) * b < 256 ^ (i + 1) * 256 ^ t.size := Nat.mul_lt_mul_of_lt_of_le (Nat.mod_lt _ (Nat.pow_pos (by decide))) (Nat.le_of_lt hp) (Nat.pow_pos (by decide))
            have h5 : 256 ^ (i + 1) * 256 ^ t.size = 256 ^ (i + (t.size + 1)) := by rw [← Nat.pow_add]; congr 1; omega
            rw [h5] at h4
            have hc : c = 0 := by
              rcases Nat.eq_zero_or_pos c with h | h
              · exact h
              · have := Nat.le_mul_of_pos_right (256 ^ (i + (t.size + 1))) h
                omega
            subst hc
            omega
          have HFI := Lib.hid (show RmO w a b n (i + 1) O wr from ⟨i1, i2, i3, hfin, i6⟩)
          clear i1 i2 i3 i4 i5 i6 hfin HI
          go_wp2_with fail
          go_roundw
          case rel => exact ⟨i + 1, O, by go_num, by omega, HFI⟩
          case measure => simp [intOf]; omega
    · obtain rfl : i = s.size := by omega
      have c1 : decide ((s.size : Int) < (s.size : Int)) = false := decide_eq_false (by omega)
      have c1' : decide (s.size < s.size) = false := decide_eq_false (by omega)
      obtain ⟨i1, i2, i3, i4, i5⟩ := HS.out
      rw [Nat.mod_eq_of_lt HPA.out] at i4
      have hnum := rnumber_any (some ⟨w.heap.size, 0, none⟩) n O wr (rdI_blk i1) (by omega) i3
      rw [i4, i2] at hnum
      have HN := Lib.hid hnum
      have HW := Lib.hid i5
      clear hnum i1 i2 i3 i4 i5 HS
      go_wp2_with fail
      refine HN.out.mono ?_
      rintro e w2 ⟨rfl, hb⟩
      have HW2 := Lib.hid (HW.out.trans (hb.mono HW.out.size))
      clear hb
      go_wp2
      go_ret
      exact ⟨rfl, HW2.out⟩
end Go.Proofs.YtkjnfobaoaaopaaGreatDoor
