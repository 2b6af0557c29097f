/- Laws: copy into a block that is known whole, from a slice and from a string; cells of a stream. -/
import Derived.Test.YtoendbdpkkjjkaaDoorHComp
namespace Go.Proofs.YtoendbdpkkjjkaaDoor
open Go.RowKit Hm

section
variable {w : World} {ops : Array Oper} {rest : List Oper} {o : Oper} {a : Act} {Q : Exit → Act → World → Prop}
theorem u8_one : (Tryd.prog.info? 5).map (·.size) = some 1 := by kernel_rfl
theorem run_copy_bytes (w : World) (ty : TypeId) (g off dLen dCap : Nat) (A : Option Addr) (sLen sCap : Nat) (t : TypeId) (cur : List Value) (x : List UInt8) (hb : Blk w g t cur) (hn : x.length = Nat.min sLen dLen) (hx : x ≠ []) (hr : Rd w A (bc x)) (hfit : off + x.length ≤ cur.length) :
    (Builtin.copy_ #[22, 22] ty #[.slice (some ⟨g, off, none⟩) dLen dCap, .slice A sLen sCap]).run Tryd.prog w = .ok (goInt x.length) (w.setRow g (splice cur off (bc x)).toArray) := by
  have hne : bc x ≠ [] := by intro e; apply hx; have := bc_len x; rw [e] at this; exact List.eq_nil_of_length_eq_zero this.symm
  obtain ⟨ad, rfl, hc⟩ := hr.news hne
  have h := run_copy_row (P := Tryd.prog) w 22 22 ty 5 g off dLen dCap ad sLen sCap cur.toArray t (bc x) Tryd.underlying22 u8_one hb (by rw [bc_len]; exact hn) (fun j v hv => hc j v hv) (by rw [bc_len]; simpa using hfit) (bc_one x)
  rw [bc_len] at h
  rw [h]
  congr 2
  simp [splice, bc_len]
theorem run_copy_text (w : World) (ty : TypeId) (g off dLen dCap : Nat) (s : ByteArray) (t : TypeId) (cur : List Value) (x : List UInt8) (hb : Blk w g t cur) (hn : x.length = Nat.min s.size dLen) (hx : x = s.data.toList.take x.length) (hfit : off + x.length ≤ cur.length) :
    (Builtin.copy_ #[22, 9] ty #[.slice (some ⟨g, off, none⟩) dLen dCap, .string s]).run Tryd.prog w = .ok (goInt x.length) (w.setRow g (splice cur off (bc x)).toArray) := by
  have hst := run_storeCells_at Tryd.prog g off t (bc x) 0 cur.toArray w hb (by rw [bc_len]; simpa using hfit) (bc_one x)
  have e : (cur.toArray.toList.take (off + 0) ++ bc x ++ cur.toArray.toList.drop (off + 0 + (bc x).length)).toArray = (splice cur off (bc x)).toArray := by simp [splice]
  rw [e] at hst
  have he : List.take x.length (List.map (fun b : UInt8 => Value.int .u8 b.toNat) s.data.toList) = bc x := by
    rw [← List.map_take, ← hx]; rfl
  generalize splice cur off (bc x) = R at hst ⊢
  generalize hX : bc x = X at hst he
  generalize hN : x.length = N at hn he ⊢
  cases hq : Tryd.prog.info? 5 with
  | none => have := u8_one; simp [hq] at this
  | some i =>
    simp [Builtin.copy_, run_underlying Tryd.underlying22, Builtin.lenOf, Builtin.firstCells, sizeOf, typeInfo, hq, ← hn, he, hst]

theorem wpList_copy_bytes (hgd : o.guard = none) (d s : Operand) (ho : o.op = .call { callee := .builtin .copy, args := #[d, s], argTypes := #[22, 22] })
    (g off dLen dCap : Nat) (A : Option Addr) (sLen sCap : Nat) (hd : a.eval d = .slice (some ⟨g, off, none⟩) dLen dCap) (hs : a.eval s = .slice A sLen sCap)
    (t : TypeId) (cur : List Value) (x : List UInt8) (hb : Blk w g t cur) (hn : x.length = Nat.min sLen dLen) (hx : x ≠ []) (hr : Rd w A (bc x)) (hfit : off + x.length ≤ cur.length)
    (h : ∀ w', Hid (Blk w' g t (splice cur off (bc x))) → Only g w w' → wpList Tryd.prog ops Q rest (a.put o.dst (goInt x.length)) w') : wpList Tryd.prog ops Q (o :: rest) a w := by
  refine wpList_plain hgd fun K hK => ?_
  have hrun := run_copy_bytes w o.type g off dLen dCap A sLen sCap t cur x hb hn hx hr hfit
  unfold Oper.wp execOp
  simp only [ho, resolve, invoke, builtin, Sem.run_bind, Sem.run_pure, Result.andThen_ok, List.map_toArray, List.map_cons, List.map_nil, hd, hs, hrun]
  exact hK _ _ (h _ (setRow_heap w g _ _ t _ hb) (Only.setRow w g _))
theorem wpList_copy_text (hgd : o.guard = none) (d s : Operand) (ho : o.op = .call { callee := .builtin .copy, args := #[d, s], argTypes := #[22, 9] })
    (g off dLen dCap : Nat) (st : ByteArray) (hd : a.eval d = .slice (some ⟨g, off, none⟩) dLen dCap) (hs : a.eval s = .string st)
    (t : TypeId) (cur : List Value) (x : List UInt8) (hb : Blk w g t cur) (hn : x.length = Nat.min st.size dLen) (hx : x = st.data.toList.take x.length) (hfit : off + x.length ≤ cur.length)
    (h : ∀ w', Hid (Blk w' g t (splice cur off (bc x))) → Only g w w' → wpList Tryd.prog ops Q rest (a.put o.dst (goInt x.length)) w') : wpList Tryd.prog ops Q (o :: rest) a w := by
  refine wpList_plain hgd fun K hK => ?_
  have hrun := run_copy_text w o.type g off dLen dCap st t cur x hb hn hx hfit
  unfold Oper.wp execOp
  simp only [ho, resolve, invoke, builtin, Sem.run_bind, Sem.run_pure, Result.andThen_ok, List.map_toArray, List.map_cons, List.map_nil, hd, hs, hrun]
  exact hK _ _ (h _ (setRow_heap w g _ _ t _ hb) (Only.setRow w g _))
end

/-- The cells of a stream. -/
def smc (v : H8) (r : List UInt8) (n : Nat) : List Value := wc v.toL ++ (bc r ++ [.int .u64 n])
theorem smc_len (v : H8) (r : List UInt8) (n : Nat) (h : r.length = 64) : (smc v r n).length = 73 := by simp [smc, wc_len, bc_len, H8.toL_len, h]
theorem bc_splice (r c : List UInt8) (k : Nat) : splice (bc r) k (bc c) = bc (splice r k c) := by simp [splice, bc, List.map_take, List.map_drop]
theorem smc_copy (v : H8) (r c : List UInt8) (n k : Nat) (hr : r.length = 64) (hk : k + c.length ≤ 64) : splice (smc v r n) (8 + k) (bc c) = smc v (splice r k c) n := by
  unfold smc
  rw [← bc_splice]
  have hw : (wc v.toL).length = 8 := by rw [wc_len, H8.toL_len]
  have hb : (bc r).length = 64 := by rw [bc_len, hr]
  have e1 : (wc v.toL ++ (bc r ++ [Value.int .u64 n])).take (8 + k) = wc v.toL ++ (bc r).take k := by
    rw [List.take_append, hw, List.take_of_length_le (by omega), show 8 + k - 8 = k from by omega, List.take_append_of_le_length (by omega)]
  have e2 : (wc v.toL ++ (bc r ++ [Value.int .u64 n])).drop (8 + k + (bc c).length) = (bc r).drop (k + (bc c).length) ++ [Value.int .u64 n] := by
    rw [List.drop_append, hw, List.drop_eq_nil_of_le (by omega), List.nil_append, show 8 + k + (bc c).length - 8 = k + (bc c).length from by omega, List.drop_append_of_le_length (by rw [bc_len]; omega)]
  show _ ++ (_ ++ _) = _
  rw [e1, e2]
  simp [splice]
theorem smc_size (v : H8) (r : List UInt8) (n n' : Nat) (hr : r.length = 64) : (smc v r n).set 72 (.int .u64 n') = smc v r n' := by
  unfold smc
  rw [List.set_append_right _ _ (by rw [wc_len, H8.toL_len]; omega), wc_len, H8.toL_len, List.set_append_right _ _ (by rw [bc_len]; omega), bc_len, hr]
  rfl
theorem smc_value (v v' : H8) (r : List UInt8) (n : Nat) : splice (smc v r n) 0 (wc v'.toL) = smc v' r n := by
  unfold smc splice
  simp only [List.take_zero, List.nil_append, Nat.zero_add]
  rw [wc_len, H8.toL_len, List.drop_append, wc_len, H8.toL_len, List.drop_eq_nil_of_le (by rw [wc_len, H8.toL_len]; omega)]
  rfl
theorem smc_take (v : H8) (r : List UInt8) (n : Nat) : ((smc v r n).drop 0).take (wc v.toL).length = wc v.toL := by
  unfold smc
  rw [List.drop_zero, List.take_append_of_le_length (Nat.le_refl _), List.take_of_length_le (Nat.le_refl _)]
theorem smc_rest (v : H8) (r : List UInt8) (n : Nat) : ((smc v r n).drop 8).take (bc r).length = bc r := by
  unfold smc
  rw [List.drop_append, wc_len, H8.toL_len, List.drop_eq_nil_of_le (by rw [wc_len, H8.toL_len]; omega), List.nil_append, Nat.sub_self, List.drop_zero, List.take_append_of_le_length (Nat.le_refl _), List.take_of_length_le (Nat.le_refl _)]
theorem smc_at (v : H8) (r : List UInt8) (n : Nat) (hr : r.length = 64) : (smc v r n)[72]? = some (.int .u64 n) := by
  unfold smc
  rw [List.getElem?_append_right (by rw [wc_len, H8.toL_len]; omega), wc_len, H8.toL_len, List.getElem?_append_right (by rw [bc_len, hr]; omega), bc_len, hr]
  rfl
theorem smc_one (v : H8) (r : List UInt8) (n : Nat) : ∀ u ∈ smc v r n, u.oneCell' = true := by
  intro u hu
  unfold smc at hu
  simp only [List.mem_append, List.mem_singleton] at hu
  rcases hu with hu | hu | rfl
  · exact wc_one _ u hu
  · exact bc_one _ u hu
  · rfl
end Go.Proofs.YtoendbdpkkjjkaaDoor
