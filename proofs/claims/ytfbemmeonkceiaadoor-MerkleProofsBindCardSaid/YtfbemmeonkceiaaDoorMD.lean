/- Contracts of keyBlock and beginWith. -/
import Derived.Test.YtfbemmeonkceiaaDoorMC
import Derived.Laws.BytesArg
import Derived.Great.BuildSlice
import Derived.Lib.SlBytesConst
import Derived.Lib.ConvBytes
import Derived.Laws.Concat
namespace Go.Proofs.YtfbemmeonkceiaaDoor
open Go.RowKit Hm

theorem wp_copy_bytes {w : World} {o : Oper} {a : Act} {K : Act → World → Prop} {Q : Exit → Act → World → Prop} (d s : Operand) (ho : o.op = .call { callee := .builtin .copy, args := #[d, s], argTypes := #[75, 75] })
    (g off dLen dCap : Nat) (A : Option Addr) (sLen sCap : Nat) (hd : a.eval d = .slice (some ⟨g, off, none⟩) dLen dCap) (hs : a.eval s = .slice A sLen sCap)
    (t : TypeId) (cur : List Value) (x : List UInt8) (hb : Blk w g t cur) (hn : x.length = Nat.min sLen dLen) (hx : x ≠ []) (hr : Rd w A (bc x)) (hfit : off + x.length ≤ cur.length)
    (h : ∀ w', Blk w' g t (splice cur off (bc x)) → Only g w w' → K (a.put o.dst (goInt x.length)) w') : o.wp Tryd.prog a w K Q := by
  have hrun := run_copy_bytes w o.type g off dLen dCap A sLen sCap t cur x hb hn hx hr hfit
  unfold Oper.wp execOp
  simp only [ho, resolve, invoke, builtin, Sem.run_bind, Sem.run_pure, Result.andThen_ok, List.map_toArray, List.map_cons, List.map_nil, hd, hs, hrun]
  exact h _ (setRow_heap w g _ _ t _ hb) (Only.setRow w g _)
theorem op_copy_bytes {i : Nat} {oi : Oper} {ops : Array Oper} {w : World} {a : Act} {K : Act → World → Prop} {Q : Exit → Act → World → Prop} (dd : Option Tmp) (hi : ops[i]? = some oi) (hdd : oi.dst = dd) (hgd : oi.guard = none) (d s : Operand) (ho : oi.op = .call { callee := .builtin .copy, args := #[d, s], argTypes := #[75, 75] })
    (g off dLen dCap : Nat) (A : Option Addr) (sLen sCap : Nat) (hd : a.eval d = .slice (some ⟨g, off, none⟩) dLen dCap) (hs : a.eval s = .slice A sLen sCap)
    (t : TypeId) (cur : List Value) (x : List UInt8) (hb : Blk w g t cur) (hn : x.length = Nat.min sLen dLen) (hx : x ≠ []) (hr : Rd w A (bc x)) (hfit : off + x.length ≤ cur.length)
    (h : ∀ w', Blk w' g t (splice cur off (bc x)) → Only g w w' → K (a.put dd (goInt x.length)) w') : wpOp Tryd.prog ops Q i K a w := by
  subst hdd
  exact op_wp hi hgd (wp_copy_bytes d s ho g off dLen dCap A sLen sCap hd hs t cur x hb hn hx hr hfit h)
theorem run_slice_all (t : TypeId) (n : Nat) (hu : Tryd.prog.underlying t = some (.array n 5)) (W : World) (g : Nat) :
    (Instr.sliceAt t (.pointer (some ⟨g, 0, none⟩)) none none none).run Tryd.prog W = .ok (.slice (some ⟨g, 0, none⟩) n n) W := by
  simp [Instr.sliceAt, Instr.sureAddr, run_underlying hu, Instr.sliceBounds, Addr.add]
theorem exec_slice_all {oi : Oper} {a : Act} {w : World} (ty : TypeId) (x : Operand) (ho : oi.op = .slice ty x none none none) (p v : Value) (hx : a.eval x = p) (hl : (Instr.sliceAt ty p none none none).run Tryd.prog w = .ok v w) : (execOp a.eval oi).run Tryd.prog w = .ok (.value v) w := by
  subst hx
  simp [execOp, ho, hl]

theorem blk_rd {w : World} {g : Nat} {t : TypeId} {l : List UInt8} (h : Blk w g t (bc l)) : Rd w (some ⟨g, 0, none⟩) (bc l) := fun _ => ⟨g, 0, rfl, fun k u hu => by rw [Nat.zero_add, h.cell k]; exact hu⟩
theorem zb_splice (x : List UInt8) (_h : x.length ≤ 64) : splice (zb 64) 0 (bc x) = bc (x ++ List.replicate (64 - x.length) 0) := by
  unfold zb
  rw [bc_splice]
  congr 1
  unfold splice
  rw [List.take_zero, List.nil_append, Nat.zero_add, List.drop_replicate]
theorem keyBlock_short (s : List UInt8) (h : s.length ≤ 64) : s ++ List.replicate (64 - s.length) 0 = keyBlock s := by unfold keyBlock; rw [if_pos h]
theorem keyBlock_long (s : List UInt8) (h : ¬ s.length ≤ 64) : Hm.sum s ++ List.replicate (64 - (Hm.sum s).length) 0 = keyBlock s := by unfold keyBlock; rw [if_neg h]; rfl

theorem xor_u8 (x y : UInt8) : bits .xor .u8 (x.toNat : Int) (y.toNat : Int) = ((x ^^^ y).toNat : Int) := by
  have ha := x.toNat_lt
  have hb := y.toNat_lt
  have h : x.toNat ^^^ y.toNat < 2 ^ 8 := Nat.xor_lt_two_pow (by omega) (by omega)
  have e : ∀ z : UInt8, (BitVec.ofInt 8 (z.toNat : Int)).toNat = z.toNat := fun z => by
    rw [BitVec.ofInt_natCast, BitVec.toNat_ofNat]; exact Nat.mod_eq_of_lt z.toNat_lt
  have hw : ∀ n : Int, IntKind.u8.wrap n = n % 256 := fun n => by simp [IntKind.wrap, IntKind.bits, IntKind.signed]
  show IntKind.u8.wrap ((BitVec.ofInt 8 (x.toNat : Int) ^^^ BitVec.ofInt 8 (y.toNat : Int)).toNat : Int) = _
  rw [BitVec.toNat_xor, e, e, hw, UInt8.toNat_xor]; omega
/-- The first k bytes combined with x. -/
def mixB (b : List UInt8) (x : UInt8) (k : Nat) : List UInt8 := xored (b.take k) x ++ b.drop k
theorem mixB_len (b : List UInt8) (x : UInt8) (k : Nat) : (mixB b x k).length = b.length := by simp [mixB, xored]; omega
theorem mixB_step (b : List UInt8) (x : UInt8) (k : Nat) (h : k < b.length) : (bc (mixB b x k)).set k (.int .u8 (b[k] ^^^ x).toNat) = bc (mixB b x (k + 1)) := by
  have hl : (xored (b.take k) x).length = k := by rw [xored_len, List.length_take]; omega
  have e1 : mixB b x k = xored (b.take k) x ++ b[k] :: b.drop (k + 1) := by unfold mixB; rw [List.drop_eq_getElem_cons h]
  have e2 : mixB b x (k + 1) = xored (b.take k) x ++ (b[k] ^^^ x) :: b.drop (k + 1) := by
    unfold mixB xored; rw [List.take_succ_eq_append_getElem h, List.map_append, List.append_assoc]; rfl
  rw [e1, e2, bc_app, bc_app, List.set_append_right _ _ (by rw [bc_len, hl]; exact Nat.le_refl _), bc_len, hl, Nat.sub_self]
  rfl
theorem mixB_at (b : List UInt8) (x : UInt8) (k : Nat) (h : k < b.length) : (bc (mixB b x k))[k]? = some (.int .u8 b[k].toNat) := by
  have hl : (xored (b.take k) x).length = k := by rw [xored_len, List.length_take]; omega
  have e1 : mixB b x k = xored (b.take k) x ++ b[k] :: b.drop (k + 1) := by unfold mixB; rw [List.drop_eq_getElem_cons h]
  rw [e1, bc_app, List.getElem?_append_right (by rw [bc_len, hl]; exact Nat.le_refl _), bc_len, hl, Nat.sub_self]
  rfl

end Go.Proofs.YtfbemmeonkceiaaDoor

/- Contracts of keyedBy, of keyed's sum, and of Hmac. -/
namespace Go.Proofs.YtfbemmeonkceiaaDoor
open Go.RowKit Hm

/-- Cells laid over an array, one by one. -/
theorem fold_set (X : List Value) : ∀ (cells : List Value) (off j : Nat), off + j + X.length ≤ cells.length →
    ((X.zipIdx j).foldl (fun (cs : Array Value) (p : Value × Nat) => cs.setIfInBounds (off + p.2) p.1) cells.toArray) = (splice cells (off + j) X).toArray := by
  induction X with
  | nil => intro cells off j _; simp [splice]
  | cons x r ih =>
    intro cells off j h
    simp only [List.zipIdx_cons, List.foldl_cons, List.setIfInBounds_toArray]
    simp only [List.length_cons] at h
    rw [ih (cells.set (off + j) x) off (j + 1) (by simp; omega)]
    congr 1
    have := list_seg_step cells (off + j) x r (by omega)
    unfold splice
    rw [← Nat.add_assoc, List.length_cons] at *
    simpa [List.append_assoc, Nat.add_assoc] using this

theorem fill_kd (A B : List Value) (hA : A.length = 73) (hB : B.length = 73) (place : Nat → Option (Nat × Nat)) (h0 : place 0 = some (0, 73)) (h1 : place 1 = some (73, 73)) :
    Instr.fill place (zs ++ zs).toArray [(0, .agg A.toArray), (1, .agg B.toArray)] = some (A ++ B).toArray := by
  have hz := zs_len
  have f0 : A.toArray.zipIdx.foldl (fun (cs : Array Value) (p : Value × Nat) => cs.setIfInBounds (0 + p.2) p.1) (zs ++ zs).toArray = (A ++ zs).toArray := by
    have := fold_set A (zs ++ zs) 0 0 (by simp; omega)
    rw [← Array.foldl_toList, Array.toList_zipIdx]
    refine this.trans ?_
    congr 1
    unfold splice
    simp only [Nat.zero_add, List.take_zero, List.nil_append]
    rw [List.drop_append_of_le_length (by omega), List.drop_eq_nil_of_le (by omega), List.nil_append]
  have f1 : B.toArray.zipIdx.foldl (fun (cs : Array Value) (p : Value × Nat) => cs.setIfInBounds (73 + p.2) p.1) (A ++ zs).toArray = (A ++ B).toArray := by
    have := fold_set B (A ++ zs) 73 0 (by simp; omega)
    rw [← Array.foldl_toList, Array.toList_zipIdx]
    refine this.trans ?_
    congr 1
    unfold splice
    simp only [Nat.add_zero]
    rw [List.take_append_of_le_length (by omega), List.take_of_length_le (by omega), List.drop_eq_nil_of_le (by simp; omega), List.append_nil]
  have c0 : ∀ r, Instr.fill place (zs ++ zs).toArray ((0, .agg A.toArray) :: r) = Instr.fill place (A ++ zs).toArray r := fun r => by
    rw [← f0]
    conv => lhs; unfold Instr.fill
    rw [h0]
    simp [Value.cells, hA, hz]
  have c1 : ∀ r, Instr.fill place (A ++ zs).toArray ((1, .agg B.toArray) :: r) = Instr.fill place (A ++ B).toArray r := fun r => by
    rw [← f1]
    conv => lhs; unfold Instr.fill
    rw [h1]
    simp [Value.cells, hA, hB, hz]
  rw [c0, c1]
  rfl
theorem exec_build2 {oi : Oper} {a : Act} {w : World} (ty : TypeId) (m n : Nat) (x y : Operand) (ho : oi.op = .build ty #[(m, x), (n, y)]) (p q v : Value) (hx : a.eval x = p) (hy : a.eval y = q) (hl : (Instr.build ty #[(m, p), (n, q)]).run Tryd.prog w = .ok v w) : (execOp a.eval oi).run Tryd.prog w = .ok (.value v) w := by
  subst hx
  subst hy
  simp [execOp, ho, hl]
/-- A variable that stays while a region runs. -/
def HeldS (w : World) (g : Nat) (t : TypeId) (cs : List Value) (W : World) : Prop := Blk W g t cs ∧ Below w.heap.size w W ∧ Glob W
section
variable {w W W' : World} {g k : Nat} {t : TypeId} {cs : List Value}
theorem HeldS.next (h : HeldS w g t cs W) (hb : Below W.heap.size W W') : HeldS w g t cs W' := ⟨h.1.next hb, h.2.1.trans (hb.mono h.2.1.size), h.2.2.next hb⟩
theorem HeldS.drew (h : HeldS w g t cs W) : HeldS w g t cs W.drew := ⟨h.1, h.2.1.drew, h.2.2.drew⟩
theorem HeldS.only (h : HeldS w g t cs W) (ho : Only k W W') (h2 : 3 < w.heap.size) (hk : w.heap.size ≤ k) (hg : g ≠ k) : HeldS w g t cs W' := ⟨ho.blk h.1 hg, h.2.1.trans (ho.below hk), h.2.2.only ho (by omega)⟩
end

end Go.Proofs.YtfbemmeonkceiaaDoor

/- Contracts of keyed's sum and of Hmac. -/
namespace Go.Proofs.YtfbemmeonkceiaaDoor
open Go.RowKit Hm

theorem hmac_def (key msg : List UInt8) : Hm.sum (xored (keyBlock key) 0x5c ++ Hm.sum (xored (keyBlock key) 0x36 ++ msg)) = Hm.hmac key msg := rfl
theorem kd_one {ci co : List Value} {a b : List UInt8} (hi : Sm ci a) (ho : Sm co b) : ∀ u ∈ ci ++ co, u.oneCell' = true := fun u hu => (List.mem_append.1 hu).elim (hi.one u) (ho.one u)
theorem kd_len {ci co : List Value} {a b : List UInt8} (hi : Sm ci a) (ho : Sm co b) : (ci ++ co).length = 146 := by rw [List.length_append, hi.len, ho.len]

end Go.Proofs.YtfbemmeonkceiaaDoor

/- Contracts of the reference's Bytes32 and Text, and of the law's hex. -/
namespace Go.Proofs.YtfbemmeonkceiaaDoor
open Go.RowKit Hm

/-- A string of bytes. -/
def sb (l : List UInt8) : ByteArray := ⟨l.toArray⟩
theorem sb_size (l : List UInt8) : (sb l).size = l.length := by simp [sb, ByteArray.size]
theorem sb_list (l : List UInt8) : (sb l).data.toList = l := by simp [sb]
theorem sb_of (s : ByteArray) : sb s.data.toList = s := by simp [sb]

/-- Bytes turned into a string. -/
theorem run_str {w : World} {A : Option Addr} {l : List UInt8} (h : Rd w A (bc l)) (c : Nat) : (convert 75 9 (.slice A l.length c)).run Tryd.prog w = .ok (.string (sb l)) w := by
  rw [run_convert_bytes_string w 75 9 5 A l.length c Tryd.underlying75 Tryd.underlying5 Tryd.underlying9]
  cases A with
  | none =>
    have hn : l = [] := by
      rcases l with _ | ⟨x, r⟩
      · rfl
      · obtain ⟨b, off, hA, _⟩ := h (by simp [bc])
        cases hA
    subst hn
    simp [Conv.bytesToString]
    rfl
  | some a =>
    have hl : (loadCells a l.length).run Tryd.prog w = .ok ((l.map fun b => (b.toNat : Int)).map (Value.int .u8)).toArray w := by
      have e : (l.map fun b => (b.toNat : Int)).map (Value.int .u8) = bc l := by simp [bc]
      rw [e, ← bc_len l]
      apply run_loadCells_list
      intro j v hj
      have hne : bc l ≠ [] := by intro e0; rw [e0] at hj; simp at hj
      obtain ⟨a', ha, hc⟩ := h.news hne
      injection ha with ha
      subst ha
      exact hc j v hj
    rw [run_bytesToString w a l.length c _ hl, foldl_push_bytes]
    have e2 : (l.map fun b => (b.toNat : Int)).map (fun n => UInt8.ofNat n.toNat) = l := by
      rw [List.map_map]
      conv => rhs; rw [← List.map_id l]
      apply List.map_congr_left
      intro b _
      show UInt8.ofNat ((b.toNat : Int).toNat) = b
      rw [Int.toNat_natCast]; simp
    rw [e2]
    simp [ByteArray.empty, ByteArray.emptyWithCapacity, sb]
    rfl

section
variable {Q : Exit → Act → World → Prop} {i : Nat} {oi : Oper} {ops : Array Oper} {a : Act} {w : World} {K : Act → World → Prop}
theorem exec_assign {P : Program} (x : Operand) (ho : oi.op = .assign x) (v : Value) (hx : a.eval x = v) : (execOp a.eval oi).run P w = .ok (.value v) w := by
  subst hx
  simp [execOp, ho]
theorem run_build2 (w : World) (b c : UInt8) : (Instr.buildSlice 75 2 #[(0, .int .u8 b.toNat), (1, .int .u8 c.toNat)]).run Tryd.prog w = .ok (.slice (some ⟨w.heap.size, 0, none⟩) 2 2) (w.alloc (.cells (bc [b, c]).toArray 5)) := by
  obtain ⟨i0, hi, hz0, hz1, hz2⟩ := info_parts u8_info
  refine run_buildSlice w _ _ 2 _ _ i0 _ Tryd.underlying75 hi hz0 (by rw [hz1]; omega) (by rw [hz1]; omega) ?_
  rw [hz1]
  rw [show (Array.map (fun x => (Value.int IntKind.u8 0).cells[x % (Value.int IntKind.u8 0).cells.size]!) (Array.range (2 * 1))) = #[.int .u8 0, .int .u8 0] from by kernel_rfl]
  rfl
theorem op_build2 (d : Option Tmp) (hi : ops[i]? = some oi) (hd : oi.dst = d) (hgd : oi.guard = none) (x y : Operand) (ho : oi.op = .buildSlice 75 2 #[(0, x), (1, y)]) (b c : UInt8) (hx : a.eval x = .int .u8 b.toNat) (hy : a.eval y = .int .u8 c.toNat)
    (h : K (a.put d (.slice (some ⟨w.heap.size, 0, none⟩) 2 2)) (w.alloc (.cells (bc [b, c]).toArray 5))) : wpOp Tryd.prog ops Q i K a w := by
  subst hd
  refine op_wp hi hgd ?_
  unfold Oper.wp execOp
  simp only [ho, List.map_toArray, List.map_cons, List.map_nil, hx, hy, Sem.run_bind, run_build2, Result.andThen_ok]
  exact h
/-- A row of bytes that was just made is appended. -/
theorem op_push2 (d : Option Tmp) (hi : ops[i]? = some oi) (hd : oi.dst = d) (hgd : oi.guard = none) (s x : Operand)
    (ho : oi.op = .call { callee := .builtin .append, args := #[s, x], argTypes := #[75, 75] })
    (base : Nat) (v : Value) (l : List UInt8) (hs : a.eval s = v) (hown : OwnB w base v l) (b c : UInt8) (hb : base ≤ w.heap.size) (hl : l.length ≤ 70368744177664)
    (hx : a.eval x = .slice (some ⟨w.heap.size, 0, none⟩) 2 2)
    (h : ∀ v' w', OwnB w' base v' (l ++ [b, c]) → Below base w w' → K (a.put d v') w') :
    wpOp Tryd.prog ops Q i K a (w.alloc (.cells (bc [b, c]).toArray 5)) := by
  obtain ⟨i0, hi0, hz0, hz1, hz2⟩ := info_parts u8_info
  subst hd
  refine op_wp hi hgd ?_
  have hnews : ∀ j u, (bc [b, c])[j]? = some u → (w.alloc (.cells (bc [b, c]).toArray 5)).cell? ((⟨w.heap.size, 0, none⟩ : Addr).add j) = some u := by
    intro j u hu
    rw [Addr.add_mid, Nat.zero_add, (Blk.new w 5 (bc [b, c])).cell j]
    exact hu
  obtain ⟨v', w', hrun, h2, h3, _⟩ := run_append_own_at (P := Tryd.prog) (w.alloc (.cells (bc [b, c]).toArray 5)) base 75 oi.type 5 i0 (.int .u8 0) 1 1 Tryd.underlying75 hi0 hz0 hz1 hz2 rfl (by decide) v l.length (bc l) (World.ownsRow.alloc hown _)
    ⟨w.heap.size, 0, none⟩ 2 2 (bc [b, c]) rfl hnews (bc_one _) (by unfold maxLen; omega) (by omega) (by simp; omega)
  unfold Oper.wp execOp
  simp only [ho, resolve, invoke, builtin, Sem.run_bind, Sem.run_pure, Result.andThen_ok, List.map_toArray, List.map_cons, List.map_nil, hs, hx, hrun]
  refine h v' w' ?_ ?_
  · unfold OwnB
    rw [List.length_append, bc_app]
    exact h2
  · exact (((Below.refl base w).alloc hb _).grown h3 (by simp; omega) (fun k hk => (World.ownsRow.lt hown k hk).1))
end

/-- The hexadecimal digit of a number less than 16. -/
def hd (n : Nat) : UInt8 := if n < 10 then UInt8.ofNat (48 + n) else UInt8.ofNat (87 + n)
def hexB (l : List UInt8) : List UInt8 := l.flatMap fun x => [hd (x.toNat / 16), hd (x.toNat % 16)]
def digs : ByteArray := { data := #[48, 49, 50, 51, 52, 53, 54, 55, 56, 57, 97, 98, 99, 100, 101, 102] }
theorem digs_at : ∀ n : Fin 16, digs[n.val]'(by have := n.isLt; exact this) = hd n.val := by decide
theorem run_digit (w : World) (k : IntKind) (n : Nat) (h : n < 16) : (Instr.index 9 (.string { data := #[48, 49, 50, 51, 52, 53, 54, 55, 56, 57, 97, 98, 99, 100, 101, 102] }) (.int k n)).run Tryd.prog w = .ok (.int .u8 (hd n).toNat) w := by
  rw [run_index_string w 9 _ k n Tryd.underlying9]
  rw [dif_pos ⟨by omega, by show (n : Int) < 16; omega⟩]
  have e : ({ data := #[48, 49, 50, 51, 52, 53, 54, 55, 56, 57, 97, 98, 99, 100, 101, 102] } : ByteArray)[((n : Int)).toNat]'(by show (n : Int).toNat < 16; omega) = hd n := by
    have := digs_at ⟨n, h⟩
    simpa [digs] using this
  rw [e]
section
variable {P : Program} {oi : Oper} {a : Act} {w : World}
theorem exec_index (ty : TypeId) (x y : Operand) (ho : oi.op = .index ty x y) (p q v : Value) (hx : a.eval x = p) (hy : a.eval y = q) (hl : (Instr.index ty p q).run P w = .ok v w) : (execOp a.eval oi).run P w = .ok (.value v) w := by
  subst hx; subst hy
  simp [execOp, ho, hl]
theorem exec_bin (op : BinOp) (ty rt : TypeId) (x y : Operand) (ho : oi.op = .binOp op ty x y rt) (p q v : Value) (hx : a.eval x = p) (hy : a.eval y = q) (hg : (eqGuard op ty x y p q).run P w = .ok () w) (hl : (binOp op ty p q).run P w = .ok v w) : (execOp a.eval oi).run P w = .ok (.value v) w := by
  subst hx; subst hy
  simp [execOp, ho, hg, hl]
end
theorem run_quo16 (w : World) (x : UInt8) : (binOp .quo 5 (.int .u8 x.toNat) (.int .u8 16)).run Tryd.prog w = .ok (.int .u8 (x.toNat / 16 : Nat)) w := by
  have h := x.toNat_lt
  simp [binOp, go_sem]
  simp [IntKind.wrap, IntKind.bits, IntKind.signed]; omega
theorem run_rem16 (w : World) (x : UInt8) : (binOp .rem 5 (.int .u8 x.toNat) (.int .u8 16)).run Tryd.prog w = .ok (.int .u8 (x.toNat % 16 : Nat)) w := by
  have h := x.toNat_lt
  simp [binOp, go_sem]
  exact Int.tmod_eq_emod_of_nonneg (by omega)
theorem hexB_take (l : List UInt8) (k : Nat) (x : UInt8) (h : l[k]? = some x) : hexB (l.take k) ++ [hd (x.toNat / 16), hd (x.toNat % 16)] = hexB (l.take (k + 1)) := by
  obtain ⟨h1, h2⟩ := List.getElem?_eq_some_iff.1 h
  unfold hexB
  rw [List.take_succ_eq_append_getElem h1, List.flatMap_append, h2]; simp
theorem hexB_len (l : List UInt8) : (hexB l).length = 2 * l.length := by
  unfold hexB
  induction l with
  | nil => rfl
  | cons a r ih => rw [List.flatMap_cons, List.length_append, ih]; simp; omega

end Go.Proofs.YtfbemmeonkceiaaDoor

/- Arrays of bytes compared. -/
namespace Go.Proofs.YtfbemmeonkceiaaDoor
open Go.RowKit Hm

theorem run_part_u8 (w : World) (l : List UInt8) (i : Nat) (h : i < l.length) : (part 5 (bc l).toArray i).run Tryd.prog w = .ok (.int .u8 l[i].toNat) w := by
  have ha : (isAgg 5).run Tryd.prog w = .ok false w := by kernel_rfl
  have hx : (bc l).toArray[i]? = some (.int .u8 l[i].toNat) := by rw [List.getElem?_toArray]; exact bc_at h
  simp [part, ha, hx]
theorem u8_beq (x y : UInt8) : ((x.toNat : Int) == (y.toNat : Int)) = decide (x = y) := by
  rw [Bool.eq_iff_iff, beq_iff_eq, decide_eq_true_iff]
  constructor
  · intro h; exact UInt8.toNat_inj.1 (by omega)
  · intro h; rw [h]
theorem run_eq_u8 (w : World) (d : Nat) (x y : UInt8) : (Op.equalIn (d + 1) 5 (.int .u8 x.toNat) (.int .u8 y.toNat)).run Tryd.prog w = .ok (decide (x = y)) w := by
  rw [run_equalIn_int w d 5 .u8 .u8 _ _ Tryd.underlying5, u8_beq]

set_option maxRecDepth 100000 in
theorem run_equalIn_arr (t : TypeId) (n : Nat) (hu : Tryd.prog.underlying t = some (.array n 5)) (w : World) (d : Nat) (l r : List UInt8) (hl : l.length = n) (hr : r.length = n) :
    (Op.equalIn (d + 2) t (.agg (bc l).toArray) (.agg (bc r).toArray)).run Tryd.prog w = .ok (decide (l = r)) w := by
  have hs : (sizeOf 5).run Tryd.prog w = .ok 1 w := by kernel_rfl
  unfold Op.equalIn
  simp only [Sem.run_bind, run_underlying hu, Result.andThen_ok, hs, Std.Legacy.Range.forIn_eq_forIn_range', Std.Legacy.Range.size]
  have key : ∀ (js : List Nat), (∀ j ∈ js, j < n) → (forIn js ((none : Option Bool), ()) fun i __s => do
              let a ← part 5 (bc l).toArray (i * 1)
              let b ← part 5 (bc r).toArray (i * 1)
              let c ← Op.equalIn (d + 1) 5 a b
              if (!c) = true then pure (ForInStep.done (some false, ())) else pure (ForInStep.yield (none, ()))).run Tryd.prog w = .ok (if ∀ j ∈ js, l[j]? = r[j]? then none else some false, ()) w := by
    intro js
    induction js with
    | nil => intro _; simp
    | cons j js ih =>
      intro h
      have hj := h j List.mem_cons_self
      have hj1 : j < l.length := by omega
      have hj2 : j < r.length := by omega
      have h2 := ih fun x hx => h x (List.mem_cons_of_mem _ hx)
      simp only [List.forIn_cons, Sem.run_bind, Nat.mul_one, run_part_u8 w l j hj1, run_part_u8 w r j hj2, Result.andThen_ok, run_eq_u8]
      by_cases he : l[j] = r[j]
      · simp only [he, decide_true, Bool.not_true, Bool.false_eq_true, if_false, Sem.run_pure]
        have e : (∀ i ∈ j :: js, l[i]? = r[i]?) ↔ (∀ i ∈ js, l[i]? = r[i]?) := by
          constructor
          · intro h i hi; exact h i (List.mem_cons_of_mem _ hi)
          · intro h i hi
            rcases List.mem_cons.1 hi with rfl | hi
            · rw [List.getElem?_eq_getElem hj1, List.getElem?_eq_getElem hj2, he]
            · exact h i hi
        simp only [e]
        simpa using h2
      · have e : ¬ (∀ i ∈ j :: js, l[i]? = r[i]?) := by
          intro h
          have := h j List.mem_cons_self
          rw [List.getElem?_eq_getElem hj1, List.getElem?_eq_getElem hj2] at this
          exact he (Option.some.inj this)
        rw [if_neg e]
        simp [he]
  rw [key _ (by intro j hj; simp at hj; omega)]
  by_cases he : l = r
  · subst he; simp
  · have e : ¬ (∀ j ∈ List.range' 0 ((n - 0 + 1 - 1) / 1), l[j]? = r[j]?) := by
      intro h
      apply he
      apply List.ext_getElem?
      intro i
      by_cases hi : i < n
      · exact h i (by simp; omega)
      · rw [List.getElem?_eq_none (by omega), List.getElem?_eq_none (by omega)]
    rw [if_neg e]
    simp [he]

theorem run_eql_a32 (w : World) (l r : List UInt8) (hl : l.length = 32) (hr : r.length = 32) : (binOp .eql 100 (.agg (bc l).toArray) (.agg (bc r).toArray)).run Tryd.prog w = .ok (.bool (decide (l = r))) w := by
  rw [run_eql_struct, run_equalIn_arr _ 32 a32_under w 9998 l r hl hr]; rfl
theorem run_eql_dig (w : World) (l r : List UInt8) (hl : l.length = 16) (hr : r.length = 16) : (binOp .eql 31 (.agg (bc l).toArray) (.agg (bc r).toArray)).run Tryd.prog w = .ok (.bool (decide (l = r))) w := by
  rw [run_eql_struct, run_equalIn_arr _ 16 dg_under w 9998 l r hl hr]; rfl
theorem eqg_a32 : Tryd.prog.eqGuardType Tryd.prog.depth 100 = false := by kernel_rfl
theorem eqg_dig : Tryd.prog.eqGuardType Tryd.prog.depth 31 = false := by kernel_rfl
end Go.Proofs.YtfbemmeonkceiaaDoor

/- What the laws need besides: variables that hold arrays; sanity's contract. -/
namespace Go.Proofs.YtfbemmeonkceiaaDoor
open Go.RowKit Hm Wm

section
variable {P : Program}
/-- A variable is made and filled at once. -/
theorem wpList_var {w : World} {ops : Array Oper} {rest : List Oper} {o1 o2 : Oper} {a : Act} {Q : Exit → Act → World → Prop} (h1 : o1.guard = none) (h2 : o2.guard = none) (t : TypeId) (d : Tmp) (hd : o1.dst = some d) (hn : o2.dst = none) (ho1 : o1.op = .alloc t)
    (y : Operand) (ho2 : o2.op = .store t (.tmp d) y) (Z cells : List Value) (hz : (P.info? t).map (·.zero) = some (some (.agg Z.toArray))) (hx : (a.put (some d) (.pointer (some ⟨w.heap.size, 0, none⟩))).eval (.tmp d) = .pointer (some ⟨w.heap.size, 0, none⟩))
    (hy : (a.put (some d) (.pointer (some ⟨w.heap.size, 0, none⟩))).eval y = .agg cells.toArray) (hl : cells.length = Z.length) (hs : (P.info? t).map (·.size) = some cells.length) (hone : ∀ v ∈ cells, v.oneCell' = true)
    (h : ∀ w', Hid (Blk w' w.heap.size t cells) → Hid (Below w.heap.size w w') → wpList P ops Q rest ((a.put (some d) (.pointer (some ⟨w.heap.size, 0, none⟩))).put none undef) w') : wpList P ops Q (o1 :: o2 :: rest) a w := by
  refine wpList_alloc_zero h1 t ho1 Z hz ?_
  rw [hd]
  refine wpList_store_all h2 t (.tmp d) y ho2 w.heap.size t Z cells hx hy (Blk.new w t Z) hl hs hone ?_
  intro w' hb ho
  rw [hn]
  exact h w' hb (Lib.hid (((Below.refl w.heap.size w).alloc (Nat.le_refl _) _).trans (ho.below (Nat.le_refl _))))
/-- A whole variable is loaded where a guard says yes. -/
theorem wpList_want {ops : Array Oper} {rest : List Oper} {o : Oper} {a : Act} {w : World} {Q : Exit → Act → World → Prop} (hw : Region.wanted o (yielded ops a.tmps) = true)
    (h : ∀ K : Act → World → Prop, (∀ a w, wpList P ops Q rest a w → K a w) → o.wp P a w K Q) : wpList P ops Q (o :: rest) a w :=
  wpList_step fun K hK => by simp only [hw, if_true]; exact h K hK
theorem wpList_loadG {w : World} {ops : Array Oper} {rest : List Oper} {op : Oper} {a : Act} {Q : Exit → Act → World → Prop} (hw : Region.wanted op (yielded ops a.tmps) = true) (ty : TypeId) (x : Operand) (ho : op.op = .load ty x)
    (g : Nat) (t : TypeId) (cs : List Value) (d : TypeDesc) (hx : a.eval x = .pointer (some ⟨g, 0, none⟩)) (hb : Blk w g t cs) (hu : P.underlying ty = some d) (hd : d.isRow = true)
    (hi : (P.info? ty).map (·.size) = some cs.length)
    (h : wpList P ops Q rest (a.put op.dst (.agg cs.toArray)) w) : wpList P ops Q (op :: rest) a w :=
  wpList_want hw fun _ hK => wp_load_mid ty x ho g 0 hx cs d (by have := hb.range 0 cs.length; simpa using this) hu hd hi (hK _ _ h)
end
theorem glob_new {w : World} (h : Glob w) (o : Obj) : Glob (w.alloc o) := h.next ((Below.refl _ _).alloc (Nat.le_refl _) o)

theorem rd_fr (w : World) (C : Array Value) (cs : List Value) (t : TypeId) (fr : Nat × Nat) (h : C = cs.toArray) : Rd (w.alloc (.cells C t fr)) (some ⟨w.heap.size, 0, none⟩) cs := fun _ => by
  subst h
  refine ⟨w.heap.size, 0, rfl, fun k u hu => ?_⟩
  rw [cell_of_row _ w.heap.size (0 + k) _ t fr (heap_alloc_new w _)]
  simpa using hu

end Go.Proofs.YtfbemmeonkceiaaDoor

/- Laws: a region that draws its order, some of its operations guarded, taken by hand. -/
namespace Go.Proofs.YtfbemmeonkceiaaDoor
open Go.RowKit Hm Wm

section
variable {P : Program} {md : Region.Mode} {ops : Array Oper} {Q : Exit → Act → World → Prop} {S : World → Prop} {i fuel : Nat} {oi : Oper} {listed : Array Bool} {a : Act} {w : World}
theorem reg_takeG (d : Option Tmp) (hi : ops[i]? = some oi) (hd : oi.dst = d) (hw : Region.wanted oi (yielded ops a.tmps) = true) (hs : Region.noSelect ops = true) (hf : Region.free md ops listed i = true) (hr : (Region.ready md ops listed).contains i = true)
    (v : Value) (hQ : ∀ c a w, Q (.panic c) (a.put d v) w → Q (.panic c) a w) (hy : ∀ W, S W → (execOp a.eval oi).run P W = .ok (.value v) W) (hS : S w)
    (h : wpAnyH P md ops Q S fuel (listed.setIfInBounds i true) (a.put d v) w) : wpAnyH P md ops Q S (fuel + 1) listed a w := by
  subst hd
  exact wpAnyH_take hi hs hf hr hQ (.inl ⟨hw, hy⟩) hS h
theorem reg_oneG (hi : ops[i]? = some oi) (hw : Region.wanted oi (yielded ops a.tmps) = true) (hr : Region.ready md ops listed = [i])
    (h : oi.wp P a w (fun a' w' => S w' ∧ wpAnyH P md ops Q S fuel (listed.setIfInBounds i true) a' w') Q) : wpAnyH P md ops Q S (fuel + 1) listed a w :=
  wpAnyH_all hr (by simp) fun j hj => by
    obtain rfl : j = i := by simpa using hj
    unfold wpOp
    rw [hi]
    simp only
    rw [if_pos hw]
    exact .inl h
theorem reg_callG (d : Option Tmp) {F : FuncId} {xs : Array Operand} {ts : Array TypeId} (hi : ops[i]? = some oi) (hd : oi.dst = d) (hw : Region.wanted oi (yielded ops a.tmps) = true) (hr : Region.ready md ops listed = [i]) (ho : oi.op = .call { callee := .value (.func F), args := xs, argTypes := ts })
    {fn : Func} (hf : P.funcs[F]? = some fn) (hn : (fn.name == "runtime.NumGoroutine") = false) (hb : fn.body.isNone = false) (vs : Array Value) (hvs : xs.toList.map a.eval = vs.toList) {R : Ending → World → Prop} (hc : Calls P F vs w R)
    (h : ∀ e w', R e w' → ∃ v, e = .returned v ∧ S w' ∧ wpAnyH P md ops Q S fuel (listed.setIfInBounds i true) (a.put d v) w') : wpAnyH P md ops Q S (fuel + 1) listed a w := by
  subst hd
  exact reg_oneG hi hw hr (wp_call_fn ho hf hn hb vs hvs hc h)
theorem reg_valueG (d : Option Tmp) (hi : ops[i]? = some oi) (hd : oi.dst = d) (hw : Region.wanted oi (yielded ops a.tmps) = true) (hr : Region.ready md ops listed = [i]) (v : Value) (hrun : (execOp a.eval oi).run P w = .ok (.value v) w) (hS : S w)
    (h : wpAnyH P md ops Q S fuel (listed.setIfInBounds i true) (a.put d v) w) : wpAnyH P md ops Q S (fuel + 1) listed a w := by
  subst hd
  exact reg_oneG hi hw hr (by unfold Oper.wp; rw [hrun]; exact ⟨hS, h⟩)
/-- One that makes memory: its value in a world with one block more. -/
theorem reg_makeG (d : Option Tmp) (hi : ops[i]? = some oi) (hd : oi.dst = d) (hw : Region.wanted oi (yielded ops a.tmps) = true) (hr : Region.ready md ops listed = [i]) (v : Value) (w' : World) (hrun : (execOp a.eval oi).run P w = .ok (.value v) w') (hS : S w')
    (h : wpAnyH P md ops Q S fuel (listed.setIfInBounds i true) (a.put d v) w') : wpAnyH P md ops Q S (fuel + 1) listed a w := by
  subst hd
  exact reg_oneG hi hw hr (by unfold Oper.wp; rw [hrun]; exact ⟨hS, h⟩)
theorem any_takeG (d : Option Tmp) (hi : ops[i]? = some oi) (hd : oi.dst = d) (hw : Region.wanted oi (yielded ops a.tmps) = true) (hs : Region.noSelect ops = true) (hf : Region.free md ops listed i = true) (hr : (Region.ready md ops listed).contains i = true)
    (v : Value) (hQ : ∀ c a w, Q (.panic c) (a.put d v) w → Q (.panic c) a w) (hy : ∀ W, (execOp a.eval oi).run P W = .ok (.value v) W)
    (h : wpAny P md ops Q fuel (listed.setIfInBounds i true) (a.put d v) w) : wpAny P md ops Q (fuel + 1) listed a w := by
  subst hd
  exact wpAny_take hi hs hf hr hQ (.inl ⟨hw, hy⟩) h
theorem exec_indexAddr (ty : TypeId) (x y : Operand) (ho : oi.op = .indexAddr ty x y) (p q v : Value) (hx : a.eval x = p) (hy : a.eval y = q) (hl : (Instr.indexAt ty p q).run P w = .ok v w) : (execOp a.eval oi).run P w = .ok (.value v) w := by
  subst hx; subst hy
  simp [execOp, ho, hl]
theorem exec_min (x y : Operand) (ts : Array TypeId) (ho : oi.op = .call { callee := .builtin .min, args := #[x, y], argTypes := ts }) (k : IntKind) (m n z : Int) (hx : a.eval x = .int k m) (hy : a.eval y = .int k n) (hz : min m n = z) : (execOp a.eval oi).run P w = .ok (.value (.int k z)) w := by
  have e : (if n < m then n else m) = z := by split <;> omega
  simp [execOp, ho, resolve, invoke, builtin, hx, hy, run_min_int2, e]
theorem exec_max (x y : Operand) (ts : Array TypeId) (ho : oi.op = .call { callee := .builtin .max, args := #[x, y], argTypes := ts }) (k : IntKind) (m n z : Int) (hx : a.eval x = .int k m) (hy : a.eval y = .int k n) (hz : max m n = z) : (execOp a.eval oi).run P w = .ok (.value (.int k z)) w := by
  have e : (if n > m then n else m) = z := by split <;> omega
  simp [execOp, ho, resolve, invoke, builtin, hx, hy, run_max_int2, e]
theorem exec_slice_hi (ty : TypeId) (x y : Operand) (ho : oi.op = .slice ty x none (some y) none) (p q v : Value) (hx : a.eval x = p) (hy : a.eval y = q) (hl : (Instr.sliceAt ty p none (some q) none).run P w = .ok v w) : (execOp a.eval oi).run P w = .ok (.value v) w := by
  subst hx; subst hy
  simp [execOp, ho, hl]
theorem exec_pick (c x y : Operand) (ho : oi.op = .pick c x y) (v : Value) (hc : a.eval c = .bool true) (hx : a.eval x = v) : (execOp a.eval oi).run P w = .ok (.value v) w := by
  subst hx
  simp [execOp, ho, hc, asBool]
theorem exec_convert (s t : TypeId) (x : Operand) (ho : oi.op = .convert s t x) (p v : Value) (hx : a.eval x = p) {w' : World} (hl : (convert s t p).run P w = .ok v w') : (execOp a.eval oi).run P w = .ok (.value v) w' := by
  subst hx
  simp [execOp, ho, hl]
theorem exec_makeSlice (t : TypeId) (l c : Operand) (ho : oi.op = .makeSlice t l c) (p q v : Value) (hx : a.eval l = p) (hy : a.eval c = q) {w' : World} (hl : (Instr.makeSlice t p q).run P w = .ok v w') : (execOp a.eval oi).run P w = .ok (.value v) w' := by
  subst hx; subst hy
  simp [execOp, ho, hl]
end
section
variable {oi : Oper} {a : Act} {w : World}
theorem exec_load32 (x : Operand) (ho : oi.op = .load 100 x) (g : Nat) (l : List UInt8) (hl : l.length = 32) (hb : Blk w g 100 (bc l)) (hx : a.eval x = .pointer (some ⟨g, 0, none⟩)) : (execOp a.eval oi).run Tryd.prog w = .ok (.value (.agg (bc l).toArray)) w :=
  exec_load 100 x ho _ _ hx (run_loadAt_mid w g 0 _ (bc l) _ (by have := hb.range 0 (bc l).length; simpa using this) a32_under rfl (by rw [a32_size, bc_len, hl]))
theorem exec_load16 (x : Operand) (ho : oi.op = .load 31 x) (g : Nat) (l : List UInt8) (hl : l.length = 16) (hb : Blk w g 31 (bc l)) (hx : a.eval x = .pointer (some ⟨g, 0, none⟩)) : (execOp a.eval oi).run Tryd.prog w = .ok (.value (.agg (bc l).toArray)) w :=
  exec_load 31 x ho _ _ hx (run_loadAt_mid w g 0 _ (bc l) _ (by have := hb.range 0 (bc l).length; simpa using this) dg_under rfl (by rw [dg_size, bc_len, hl]))
theorem exec_eql32 (x y : Operand) (rt : TypeId) (ho : oi.op = .binOp .eql 100 x y rt) (l r : List UInt8) (hl : l.length = 32) (hr : r.length = 32) (hx : a.eval x = .agg (bc l).toArray) (hy : a.eval y = .agg (bc r).toArray) : (execOp a.eval oi).run Tryd.prog w = .ok (.value (.bool (decide (l = r)))) w :=
  exec_bin .eql 100 rt x y ho _ _ _ hx hy (run_eqGuard_agg w .eql _ x y _ _ eqg_a32) (run_eql_a32 w l r hl hr)
theorem exec_same32 (x y : Operand) (rt : TypeId) (ho : oi.op = .binOp .eql 100 x y rt) (l : List UInt8) (hl : l.length = 32) (hx : a.eval x = .agg (bc l).toArray) (hy : a.eval y = .agg (bc l).toArray) : (execOp a.eval oi).run Tryd.prog w = .ok (.value (.bool true)) w := by
  simpa using exec_eql32 x y rt ho l l hl hl hx hy
theorem exec_eql16 (x y : Operand) (rt : TypeId) (ho : oi.op = .binOp .eql 31 x y rt) (l r : List UInt8) (hl : l.length = 16) (hr : r.length = 16) (hx : a.eval x = .agg (bc l).toArray) (hy : a.eval y = .agg (bc r).toArray) : (execOp a.eval oi).run Tryd.prog w = .ok (.value (.bool (decide (l = r)))) w :=
  exec_bin .eql 31 rt x y ho _ _ _ hx hy (run_eqGuard_agg w .eql _ x y _ _ eqg_dig) (run_eql_dig w l r hl hr)
end
/-- A string turned into bytes. -/
theorem run_bytes (w : World) (s : ByteArray) : ∃ A c w', (convert 9 75 (.string s)).run Tryd.prog w = .ok (.slice A s.data.toList.length c) w' ∧ Rd w' A (bc s.data.toList) ∧ s.data.toList.length ≤ c ∧ Below w.heap.size w w' := by
  have hl : s.data.toList.length = s.size := Array.length_toList
  refine ⟨some ⟨w.heap.size, 0, none⟩, grownCap w s.size 0 5, Lib.bytesWorld w 5 s, ?_, ?_, ?_, ?_⟩
  · rw [hl]
    exact Lib.run_convert_string_bytes w 9 75 5 s Tryd.underlying9 Tryd.underlying75 Tryd.underlying5
  · intro _
    refine ⟨w.heap.size, 0, rfl, fun k u hu => ?_⟩
    have hk : k < s.data.toList.length := by
      rcases Nat.lt_or_ge k s.data.toList.length with h | h
      · exact h
      · rw [List.getElem?_eq_none (by rw [bc_len]; exact h)] at hu; cases hu
    have e : s.data.toList.getD k 0 = s.data.toList[k] := by rw [List.getD_eq_getElem?_getD, List.getElem?_eq_getElem hk]; rfl
    rw [Nat.zero_add, Lib.bytesWorld_cell w 5 s k (by omega), ← hu, bc_at hk, e]
  · rw [hl]; exact grownCap_ge w s.size 0 5
  · exact ⟨rfl, rfl, rfl, by rw [Lib.bytesWorld_size]; omega, fun j hj => Lib.bytesWorld_at_old w _ s j hj⟩
theorem wpList_bytes {w : World} {ops : Array Oper} {rest : List Oper} {o : Oper} {a : Act} {Q : Exit → Act → World → Prop} (hw : Region.wanted o (yielded ops a.tmps) = true) (x : Operand) (ho : o.op = .convert 9 75 x) (s : ByteArray) (hx : a.eval x = .string s)
    (h : ∀ A c w', Rd w' A (bc s.data.toList) → s.data.toList.length ≤ c → Below w.heap.size w w' → wpList Tryd.prog ops Q rest (a.put o.dst (.slice A s.data.toList.length c)) w') : wpList Tryd.prog ops Q (o :: rest) a w := by
  obtain ⟨A, c, w', hr, h1, h2, h3⟩ := run_bytes w s
  refine wpList_want hw fun K hK => ?_
  unfold Oper.wp execOp
  simp only [ho, hx, Sem.run_bind, hr, Result.andThen_ok]
  exact hK _ _ (h A c w' h1 h2 h3)
theorem exec_same16 {oi : Oper} {a : Act} {w : World} (x y : Operand) (rt : TypeId) (ho : oi.op = .binOp .eql 31 x y rt) (l : List UInt8) (hl : l.length = 16) (hx : a.eval x = .agg (bc l).toArray) (hy : a.eval y = .agg (bc l).toArray) : (execOp a.eval oi).run Tryd.prog w = .ok (.value (.bool true)) w := by
  simpa using exec_eql16 x y rt ho l l hl hl hx hy
/-- A row of zero bytes. -/
theorem run_zeros (w : World) (n : Nat) (h : n ≤ 1000000) : (Instr.makeSlice 75 (.int .i64 n) (.int .i64 n)).run Tryd.prog w = .ok (.slice (some ⟨w.heap.size, 0, none⟩) n n) (w.alloc (.cells (bc (List.replicate n 0)).toArray 5)) := by
  obtain ⟨i0, hi, hz0, hz1, hz2⟩ := info_parts u8_info
  have := run_make (P := Tryd.prog) w 75 5 i0 _ Tryd.underlying75 hi hz0 .i64 .i64 n n (by omega) (by omega) (by rw [hz2]; omega) (by omega)
  rw [hz1, Nat.mul_one, Int.toNat_natCast, show (Value.int IntKind.u8 0).cells = #[.int .u8 0] from rfl, madeCells_zero] at this
  exact this
theorem run_concat (w : World) (s t : ByteArray) (h : s.size + t.size ≤ 1000000) : (binOp .add 9 (.string s) (.string t)).run Tryd.prog w = .ok (.string (sb (s.data.toList ++ t.data.toList))) w := by
  have h1 : s.data.toList.length = s.size := Array.length_toList
  have h2 : t.data.toList.length = t.size := Array.length_toList
  have e := run_string_add_lists (P := Tryd.prog) w s.data.toList t.data.toList (by omega) (by omega)
  rw [binOp_string_add]
  exact e
theorem run_str_hi (w : World) (l : List UInt8) (n : Nat) (h : n ≤ l.length) : (Instr.sliceAt 9 (.string (sb l)) none (some (.int .i64 n)) none).run Tryd.prog w = .ok (.string (sb (l.take n))) w := by
  have hs : (sb l).size = l.length := sb_size l
  have e : (sb l).extract 0 n = sb (l.take n) := by
    apply ByteArray.ext
    rw [ByteArray.data_extract]
    simp [sb]
  simp [go_sem, run_sliceAt_string, Tryd.underlying9, hs]
  rw [if_pos h, e]
theorem run_eql_str (w : World) (l r : List UInt8) : (binOp .eql 9 (.string (sb l)) (.string (sb r))).run Tryd.prog w = .ok (.bool (decide (l = r))) w := by
  rw [binOp_string_eql]
  have h1 : (sb l).toList = l := by simp [sb]
  have h2 : (sb r).toList = r := by simp [sb]
  rw [h1, h2, Sem.run_pure]
  congr 2
  rw [Bool.eq_iff_iff]; simp
end Go.Proofs.YtfbemmeonkceiaaDoor

/- Contracts of the reference's Few, Joined, Same; of the law's clash. -/
namespace Go.Proofs.YtfbemmeonkceiaaDoor
open Go.RowKit Hm Wm

def fewB (ss : List ByteArray) : Bool := decide (ss.length ≤ 12 ∧ ∀ s ∈ ss, s.size ≤ 400)
theorem fewB_yes {ss : List ByteArray} (h : fewB ss = true) : ss.length ≤ 12 ∧ ∀ s ∈ ss, s.size ≤ 400 := by unfold fewB at h; simpa using h
theorem fewB_mk {ss : List ByteArray} (h1 : ss.length ≤ 12) (h2 : ∀ s ∈ ss, s.size ≤ 400) : fewB ss = true := by unfold fewB; exact decide_eq_true ⟨h1, h2⟩
theorem fewB_long {ss : List ByteArray} (h : 12 < ss.length) : fewB ss = false := by unfold fewB; exact decide_eq_false (by omega)
theorem fewB_big {ss : List ByteArray} {z : ByteArray} (h : z ∈ ss) (hz : 400 < z.size) : fewB ss = false := by
  unfold fewB
  refine decide_eq_false ?_
  rintro ⟨_, h2⟩
  have := h2 z h
  omega
theorem take_all {ss : List ByteArray} {k : Nat} {z : ByteArray} (h : ss[k]? = some z) (ha : ∀ s ∈ ss.take k, s.size ≤ 400) (hz : z.size ≤ 400) : ∀ s ∈ ss.take (k + 1), s.size ≤ 400 := by
  obtain ⟨h1, h2⟩ := List.getElem?_eq_some_iff.1 h
  intro s hs
  rw [List.take_succ_eq_append_getElem h1, List.mem_append] at hs
  rcases hs with hs | hs
  · exact ha s hs
  · simp at hs; rw [hs, h2]; exact hz

/-- Strings, one after the other. -/
def joinB (ss : List ByteArray) : List UInt8 := ss.flatMap fun s => s.data.toList
theorem joinB_take (ss : List ByteArray) (k : Nat) (z : ByteArray) (h : ss[k]? = some z) : joinB (ss.take k) ++ z.data.toList = joinB (ss.take (k + 1)) := by
  obtain ⟨h1, h2⟩ := List.getElem?_eq_some_iff.1 h
  unfold joinB
  rw [List.take_succ_eq_append_getElem h1, List.flatMap_append, h2]; simp
theorem joinB_len (ss : List ByteArray) (h : ∀ s ∈ ss, s.size ≤ 400) : (joinB ss).length ≤ 400 * ss.length := by
  unfold joinB
  induction ss with
  | nil => simp
  | cons a r ih =>
    have h1 := h a List.mem_cons_self
    have h2 := ih fun s hs => h s (List.mem_cons_of_mem _ hs)
    have h3 : a.data.toList.length = a.size := Array.length_toList
    rw [List.flatMap_cons, List.length_append, List.length_cons]; omega
theorem joinB_le (ss : List ByteArray) (h1 : ss.length ≤ 12) (h : ∀ s ∈ ss, s.size ≤ 400) (k : Nat) : (joinB (ss.take k)).length ≤ 4800 := by
  have := joinB_len (ss.take k) fun s hs => h s (List.mem_of_mem_take hs)
  rw [List.length_take] at this
  omega

end Go.Proofs.YtfbemmeonkceiaaDoor
