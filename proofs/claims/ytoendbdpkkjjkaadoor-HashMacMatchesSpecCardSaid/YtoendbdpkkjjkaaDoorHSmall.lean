/- Contracts of the reference's Bytes32 and Text, and of the law's hex. -/
import Derived.Test.YtoendbdpkkjjkaaDoorHMac
import Derived.Laws.BytesArg
import Derived.Great.BuildSlice
namespace Go.Proofs.YtoendbdpkkjjkaaDoor
open Go.RowKit Hm

/-- A string of bytes. -/
def sb (l : List UInt8) : ByteArray := ⟨l.toArray⟩
theorem sb_size (l : List UInt8) : (sb l).size = l.length := by simp [sb, ByteArray.size]
theorem sb_list (l : List UInt8) : (sb l).data.toList = l := by simp [sb]
theorem sb_of (s : ByteArray) : sb s.data.toList = s := by simp [sb]

/-- Bytes turned into a string. -/
theorem run_str {w : World} {A : Option Addr} {l : List UInt8} (h : Rd w A (bc l)) (c : Nat) : (convert 22 9 (.slice A l.length c)).run Tryd.prog w = .ok (.string (sb l)) w := by
  rw [run_convert_bytes_string w 22 9 5 A l.length c Tryd.underlying22 Tryd.underlying5 Tryd.underlying9]
  cases A with
  | none =>
    have hn : l = [] := by
      rcases l with _ | ⟨x, r⟩
      · rfl
      · obtain ⟨b, off, hA, _⟩ := h (by simp [bc])
        cases hA
    subst hn
    simp [Conv.bytesToString]
    rfl
  | some a =>
    have hl : (loadCells a l.length).run Tryd.prog w = .ok ((l.map fun b => (b.toNat : Int)).map (Value.int .u8)).toArray w := by
      have e : (l.map fun b => (b.toNat : Int)).map (Value.int .u8) = bc l := by simp [bc]
      rw [e, ← bc_len l]
      apply run_loadCells_list
      intro j v hj
      have hne : bc l ≠ [] := by intro e0; rw [e0] at hj; simp at hj
      obtain ⟨a', ha, hc⟩ := h.news hne
      injection ha with ha
      subst ha
      exact hc j v hj
    rw [run_bytesToString w a l.length c _ hl, foldl_push_bytes]
    have e2 : (l.map fun b => (b.toNat : Int)).map (fun n => UInt8.ofNat n.toNat) = l := by
      rw [List.map_map]
      conv => rhs; rw [← List.map_id l]
      apply List.map_congr_left
      intro b _
      show UInt8.ofNat ((b.toNat : Int).toNat) = b
      rw [Int.toNat_natCast]; simp
    rw [e2]
    simp [ByteArray.empty, ByteArray.emptyWithCapacity, sb]
    rfl

section
variable {Q : Exit → Act → World → Prop} {i : Nat} {oi : Oper} {ops : Array Oper} {a : Act} {w : World} {K : Act → World → Prop}
theorem exec_assign {P : Program} (x : Operand) (ho : oi.op = .assign x) (v : Value) (hx : a.eval x = v) : (execOp a.eval oi).run P w = .ok (.value v) w := by
  subst hx
  simp [execOp, ho]
theorem run_build2 (w : World) (b c : UInt8) : (Instr.buildSlice 22 2 #[(0, .int .u8 b.toNat), (1, .int .u8 c.toNat)]).run Tryd.prog w = .ok (.slice (some ⟨w.heap.size, 0, none⟩) 2 2) (w.alloc (.cells (bc [b, c]).toArray 5)) := by
  obtain ⟨i0, hi, hz0, hz1, hz2⟩ := info_parts u8_info
  refine run_buildSlice w _ _ 2 _ _ i0 _ Tryd.underlying22 hi hz0 (by rw [hz1]; omega) (by rw [hz1]; omega) ?_
  rw [hz1]
  rw [show (Array.map (fun x => (Value.int IntKind.u8 0).cells[x % (Value.int IntKind.u8 0).cells.size]!) (Array.range (2 * 1))) = #[.int .u8 0, .int .u8 0] from by kernel_rfl]
  rfl
theorem op_build2 (d : Option Tmp) (hi : ops[i]? = some oi) (hd : oi.dst = d) (hgd : oi.guard = none) (x y : Operand) (ho : oi.op = .buildSlice 22 2 #[(0, x), (1, y)]) (b c : UInt8) (hx : a.eval x = .int .u8 b.toNat) (hy : a.eval y = .int .u8 c.toNat)
    (h : K (a.put d (.slice (some ⟨w.heap.size, 0, none⟩) 2 2)) (w.alloc (.cells (bc [b, c]).toArray 5))) : wpOp Tryd.prog ops Q i K a w := by
  subst hd
  refine op_wp hi hgd ?_
  unfold Oper.wp execOp
  simp only [ho, List.map_toArray, List.map_cons, List.map_nil, hx, hy, Sem.run_bind, run_build2, Result.andThen_ok]
  exact h
/-- A row of bytes that was just made is appended. -/
theorem op_push2 (d : Option Tmp) (hi : ops[i]? = some oi) (hd : oi.dst = d) (hgd : oi.guard = none) (s x : Operand)
    (ho : oi.op = .call { callee := .builtin .append, args := #[s, x], argTypes := #[22, 22] })
    (base : Nat) (v : Value) (l : List UInt8) (hs : a.eval s = v) (hown : OwnB w base v l) (b c : UInt8) (hb : base ≤ w.heap.size) (hl : l.length ≤ 70368744177664)
    (hx : a.eval x = .slice (some ⟨w.heap.size, 0, none⟩) 2 2)
    (h : ∀ v' w', OwnB w' base v' (l ++ [b, c]) → Below base w w' → K (a.put d v') w') :
    wpOp Tryd.prog ops Q i K a (w.alloc (.cells (bc [b, c]).toArray 5)) := by
  obtain ⟨i0, hi0, hz0, hz1, hz2⟩ := info_parts u8_info
  subst hd
  refine op_wp hi hgd ?_
  have hnews : ∀ j u, (bc [b, c])[j]? = some u → (w.alloc (.cells (bc [b, c]).toArray 5)).cell? ((⟨w.heap.size, 0, none⟩ : Addr).add j) = some u := by
    intro j u hu
    rw [Addr.add_mid, Nat.zero_add, (Blk.new w 5 (bc [b, c])).cell j]
    exact hu
  obtain ⟨v', w', hrun, h2, h3, _⟩ := run_append_own_at (P := Tryd.prog) (w.alloc (.cells (bc [b, c]).toArray 5)) base 22 oi.type 5 i0 (.int .u8 0) 1 1 Tryd.underlying22 hi0 hz0 hz1 hz2 rfl (by decide) v l.length (bc l) (World.ownsRow.alloc hown _)
    ⟨w.heap.size, 0, none⟩ 2 2 (bc [b, c]) rfl hnews (bc_one _) (by unfold maxLen; omega) (by omega) (by simp; omega)
  unfold Oper.wp execOp
  simp only [ho, resolve, invoke, builtin, Sem.run_bind, Sem.run_pure, Result.andThen_ok, List.map_toArray, List.map_cons, List.map_nil, hs, hx, hrun]
  refine h v' w' ?_ ?_
  · unfold OwnB
    rw [List.length_append, bc_app]
    exact h2
  · exact (((Below.refl base w).alloc hb _).grown h3 (by simp; omega) (fun k hk => (World.ownsRow.lt hown k hk).1))
end

set_option maxRecDepth 100000 in
set_option maxHeartbeats 400000 in
theorem bytes32_any (l : List UInt8) (w : World) (hl : l.length = 32) :
    Calls Tryd.prog 30 #[.agg (bc l).toArray] w fun e w' => e = .returned (.string (sb l)) ∧ Below w.heap.size w w' := by
  have HL := Lib.hid hl
  have HB := Lib.hid (Blk.new w 24 (bc l))
  clear hl
  go_enter Tryd.func30, Tryd.ntmps30
  go_wp2_with fail
  go_loopw [3, 4] (fun v i wr => ∃ k : Nat, i = .int .i64 k ∧ k ≤ 32 ∧ Hid (OwnB wr (w.heap.size + 1) v (l.take k)) ∧ w.heap.size + 1 ≤ wr.heap.size ∧ Hid (Blk wr w.heap.size 24 (bc l)) ∧ Below w.heap.size w wr)
    (fun _ i _ => 32 - (intOf i).toNat)
  case atStart => exact ⟨0, rfl, by omega, (OwnB.nil _ _ : OwnB _ _ _ []), by simp, HB.out, (Below.refl _ _).alloc (Nat.le_refl _) _⟩
  case round =>
    obtain ⟨k, rfl, hk, HO, hsz, HK, hbel⟩ := hrel
    clear HB
    by_cases hlt : k < 32
    · obtain ⟨x, hx⟩ : ∃ x, l[k]? = some x := ⟨l[k]'(by rw [HL.out]; exact hlt), List.getElem?_eq_getElem _⟩
      have hc : wr.cell? ⟨w.heap.size, k, none⟩ = some (.int .u8 x.toNat) := by rw [HK.out.cell k]; simp [bc, hx]
      have hst : l.take k ++ [x] = l.take (k + 1) := by
        obtain ⟨h1, h2⟩ := List.getElem?_eq_some_iff.1 hx
        rw [List.take_succ_eq_append_getElem h1, h2]
      have hll : (l.take k).length ≤ 32 := by have := HL.out; rw [List.length_take]; omega
      have HST := Lib.hid hst
      have HLL := Lib.hid hll
      have bk : (k : Int) < 32 := by omega
      clear hst hx hll
      go_wp2_with (at_builtin; refine wpList_push rfl (.tmp 9) (.tmp 13) rfl (w.heap.size + 1) _ _ rfl HO.out _ x rfl hsz (by have := HLL.out; omega) rfl ?_; intro v1 w1 ho1 hb1; rw [HST.out] at ho1; have HO1 := Lib.hid ho1; clear ho1)
      go_roundw
      case rel => exact ⟨k + 1, by go_num, by omega, HO1.out, Nat.le_trans hsz hb1.size, HK.out.below hb1 (by omega), hbel.trans (hb1.mono (by omega))⟩
      case measure => simp [intOf]; omega
    · obtain rfl : k = 32 := by omega
      have hof := HO.out
      rw [List.take_of_length_le (by rw [HL.out]; omega)] at hof
      obtain ⟨A, c, rfl, hr, hcc⟩ := own_out hof
      have hcv := run_str hr c
      have HLL := Lib.hid HL.out
      clear hof HO hr
      rw [HL.out] at *
      go_wp2
      go_ret
      exact ⟨rfl, hbel⟩

set_option maxRecDepth 100000 in
set_option maxHeartbeats 400000 in
theorem text_any (l : List UInt8) (w : World) (hl : l.length = 16) :
    Calls Tryd.prog 34 #[.agg (bc l).toArray] w fun e w' => e = .returned (.string (sb l)) ∧ Below w.heap.size w w' := by
  have HL := Lib.hid hl
  have HB := Lib.hid (Blk.new w 43 (bc l))
  clear hl
  go_enter Tryd.func34, Tryd.ntmps34
  go_wp2_with fail
  go_loopw [3, 4] (fun v i wr => ∃ k : Nat, i = .int .i64 k ∧ k ≤ 16 ∧ Hid (OwnB wr (w.heap.size + 1) v (l.take k)) ∧ w.heap.size + 1 ≤ wr.heap.size ∧ Hid (Blk wr w.heap.size 43 (bc l)) ∧ Below w.heap.size w wr)
    (fun _ i _ => 16 - (intOf i).toNat)
  case atStart => exact ⟨0, rfl, by omega, (OwnB.nil _ _ : OwnB _ _ _ []), by simp, HB.out, (Below.refl _ _).alloc (Nat.le_refl _) _⟩
  case round =>
    obtain ⟨k, rfl, hk, HO, hsz, HK, hbel⟩ := hrel
    clear HB
    by_cases hlt : k < 16
    · obtain ⟨x, hx⟩ : ∃ x, l[k]? = some x := ⟨l[k]'(by rw [HL.out]; exact hlt), List.getElem?_eq_getElem _⟩
      have hc : wr.cell? ⟨w.heap.size, k, none⟩ = some (.int .u8 x.toNat) := by rw [HK.out.cell k]; simp [bc, hx]
      have hst : l.take k ++ [x] = l.take (k + 1) := by
        obtain ⟨h1, h2⟩ := List.getElem?_eq_some_iff.1 hx
        rw [List.take_succ_eq_append_getElem h1, h2]
      have hll : (l.take k).length ≤ 16 := by have := HL.out; rw [List.length_take]; omega
      have HST := Lib.hid hst
      have HLL := Lib.hid hll
      have bk : (k : Int) < 16 := by omega
      clear hst hx hll
      go_wp2_with (at_builtin; refine wpList_push rfl (.tmp 9) (.tmp 13) rfl (w.heap.size + 1) _ _ rfl HO.out _ x rfl hsz (by have := HLL.out; omega) rfl ?_; intro v1 w1 ho1 hb1; rw [HST.out] at ho1; have HO1 := Lib.hid ho1; clear ho1)
      go_roundw
      case rel => exact ⟨k + 1, by go_num, by omega, HO1.out, Nat.le_trans hsz hb1.size, HK.out.below hb1 (by omega), hbel.trans (hb1.mono (by omega))⟩
      case measure => simp [intOf]; omega
    · obtain rfl : k = 16 := by omega
      have hof := HO.out
      rw [List.take_of_length_le (by rw [HL.out]; omega)] at hof
      obtain ⟨A, c, rfl, hr, hcc⟩ := own_out hof
      have hcv := run_str hr c
      have HLL := Lib.hid HL.out
      clear hof HO hr
      rw [HL.out] at *
      go_wp2
      go_ret
      exact ⟨rfl, hbel⟩

/-- The hexadecimal digit of a number less than 16. -/
def hd (n : Nat) : UInt8 := if n < 10 then UInt8.ofNat (48 + n) else UInt8.ofNat (87 + n)
def hexB (l : List UInt8) : List UInt8 := l.flatMap fun x => [hd (x.toNat / 16), hd (x.toNat % 16)]
def digs : ByteArray := { data := #[48, 49, 50, 51, 52, 53, 54, 55, 56, 57, 97, 98, 99, 100, 101, 102] }
theorem digs_at : ∀ n : Fin 16, digs[n.val]'(by have := n.isLt; exact this) = hd n.val := by decide
theorem run_digit (w : World) (k : IntKind) (n : Nat) (h : n < 16) : (Instr.index 9 (.string { data := #[48, 49, 50, 51, 52, 53, 54, 55, 56, 57, 97, 98, 99, 100, 101, 102] }) (.int k n)).run Tryd.prog w = .ok (.int .u8 (hd n).toNat) w := by
  rw [run_index_string w 9 _ k n Tryd.underlying9]
  rw [dif_pos ⟨by omega, by show (n : Int) < 16; omega⟩]
  have e : ({ data := #[48, 49, 50, 51, 52, 53, 54, 55, 56, 57, 97, 98, 99, 100, 101, 102] } : ByteArray)[((n : Int)).toNat]'(by show (n : Int).toNat < 16; omega) = hd n := by
    have := digs_at ⟨n, h⟩
    simpa [digs] using this
  rw [e]
section
variable {P : Program} {oi : Oper} {a : Act} {w : World}
theorem exec_index (ty : TypeId) (x y : Operand) (ho : oi.op = .index ty x y) (p q v : Value) (hx : a.eval x = p) (hy : a.eval y = q) (hl : (Instr.index ty p q).run P w = .ok v w) : (execOp a.eval oi).run P w = .ok (.value v) w := by
  subst hx; subst hy
  simp [execOp, ho, hl]
theorem exec_bin (op : BinOp) (ty rt : TypeId) (x y : Operand) (ho : oi.op = .binOp op ty x y rt) (p q v : Value) (hx : a.eval x = p) (hy : a.eval y = q) (hg : (eqGuard op ty x y p q).run P w = .ok () w) (hl : (binOp op ty p q).run P w = .ok v w) : (execOp a.eval oi).run P w = .ok (.value v) w := by
  subst hx; subst hy
  simp [execOp, ho, hg, hl]
end
theorem run_quo16 (w : World) (x : UInt8) : (binOp .quo 5 (.int .u8 x.toNat) (.int .u8 16)).run Tryd.prog w = .ok (.int .u8 (x.toNat / 16 : Nat)) w := by
  have h := x.toNat_lt
  simp [binOp, go_sem]
  simp [IntKind.wrap, IntKind.bits, IntKind.signed]; omega
theorem run_rem16 (w : World) (x : UInt8) : (binOp .rem 5 (.int .u8 x.toNat) (.int .u8 16)).run Tryd.prog w = .ok (.int .u8 (x.toNat % 16 : Nat)) w := by
  have h := x.toNat_lt
  simp [binOp, go_sem]
  exact Int.tmod_eq_emod_of_nonneg (by omega)
theorem hexB_take (l : List UInt8) (k : Nat) (x : UInt8) (h : l[k]? = some x) : hexB (l.take k) ++ [hd (x.toNat / 16), hd (x.toNat % 16)] = hexB (l.take (k + 1)) := by
  obtain ⟨h1, h2⟩ := List.getElem?_eq_some_iff.1 h
  unfold hexB
  rw [List.take_succ_eq_append_getElem h1, List.flatMap_append, h2]; simp
theorem hexB_len (l : List UInt8) : (hexB l).length = 2 * l.length := by
  unfold hexB
  induction l with
  | nil => rfl
  | cons a r ih => rw [List.flatMap_cons, List.length_append, ih]; simp; omega

set_option maxRecDepth 100000 in
set_option maxHeartbeats 400000 in
theorem hex_any (l : List UInt8) (w : World) (hl : l.length ≤ 1000000) :
    Calls Tryd.prog 33 #[.string (sb l)] w fun e w' => e = .returned (.string (sb (hexB l))) ∧ Below w.heap.size w w' := by
  obtain ⟨s, hs⟩ : ∃ s, sb l = s := ⟨_, rfl⟩
  rw [hs]
  have hsz : s.size = l.length := by rw [← hs, sb_size]
  have HSZ := Lib.hid hsz
  have hb : s.size ≤ 1000000 := by omega
  have HS := Lib.hid hs
  have hdig := fun (n : Nat) (h : n < 16) (w : World) => run_digit w .u8 n h
  have HDIG := Lib.hid hdig
  clear hsz hs hdig hl
  go_enter Tryd.func33, Tryd.ntmps33
  go_wp2_with fail
  go_loopw [4, 5] (fun v i wr => ∃ k : Nat, i = .int .i64 k ∧ k ≤ s.size ∧ Hid (OwnB wr w.heap.size v (hexB (l.take k))) ∧ w.heap.size ≤ wr.heap.size ∧ Below w.heap.size w wr)
    (fun _ i _ => s.size - (intOf i).toNat)
  case atStart => exact ⟨0, rfl, by omega, (OwnB.nil _ _ : OwnB _ _ _ []), Nat.le_refl _, Below.refl _ _⟩
  case round =>
    obtain ⟨k, rfl, hk, HO, hbr, hbel⟩ := hrel
    by_cases hlt : k < s.size
    · obtain ⟨x, hx⟩ : ∃ x, s[k] = x := ⟨_, rfl⟩
      have hlx : l[k]? = some x := by
        have h1 : l = s.data.toList := by rw [← HS.out, sb_list]
        rw [h1, ← hx, List.getElem?_eq_getElem (by simpa using hlt)]
        rfl
      have hst := hexB_take l k x hlx
      have hll : (hexB (l.take k)).length ≤ 2000000 := by rw [hexB_len, List.length_take]; omega
      have HST := Lib.hid hst
      have HLL := Lib.hid hll
      have hx2 : x.toNat < 256 := x.toNat_lt
      have hix := fun W : World => run_index_string W 9 s .i64 (k : Int) Tryd.underlying9
      have hk0 : (0 : Int) ≤ (k : Int) ∧ (k : Int) < (s.size : Int) := by omega
      have hix2 : ∀ W : World, (Instr.index 9 (.string s) (.int .i64 k)).run Tryd.prog W = .ok (.int .u8 x.toNat) W := fun W => by
        rw [hix W, dif_pos hk0]
        simp [hx]
      have HIX := Lib.hid hix2
      have hb2 := hbel.drew
      have ho2 : OwnB wr.drew w.heap.size _ (hexB (l.take k)) := HO.out
      have hbr2 : w.heap.size ≤ wr.drew.heap.size := hbr
      clear hst hlx hll hix hk0 hix2 hx
      go_wp2_with fail
      refine wp_region_any (by kernel_rfl) ?_
      change wpAny _ _ _ _ _ _ _ wr.drew
      generalize wr.drew = w2 at hb2 ho2 hbr2 ⊢
      refine any_take (i := 0) (some 12) rfl rfl rfl (by kernel_rfl) (by kernel_rfl) (by kernel_rfl) (_) (fun _ _ _ h => h) (fun W => exec_move (.tmp 4) rfl _ rfl) ?_
      go_frame
      refine any_take (i := 1) (some 13) rfl rfl rfl (by kernel_rfl) (by kernel_rfl) (by kernel_rfl) (.string { data := #[48, 49, 50, 51, 52, 53, 54, 55, 56, 57, 97, 98, 99, 100, 101, 102] }) (fun _ _ _ h => h) (fun W => exec_move (.tmp 3) rfl _ rfl) ?_
      go_frame
      refine any_take (i := 2) (some 14) rfl rfl rfl (by kernel_rfl) (by kernel_rfl) (by kernel_rfl) (.string s) (fun _ _ _ h => h) (fun W => exec_move (.tmp 0) rfl _ rfl) ?_
      go_frame
      refine any_take (i := 3) (some 15) rfl rfl rfl (by kernel_rfl) (by kernel_rfl) (by kernel_rfl) (.int .i64 k) (fun _ _ _ h => h) (fun W => exec_move (.tmp 5) rfl _ rfl) ?_
      go_frame
      refine any_take (i := 4) (some 16) rfl rfl rfl (by kernel_rfl) (by kernel_rfl) (by kernel_rfl) (.int .u8 x.toNat) (fun _ _ _ h => h) (fun W => exec_index 9 (.tmp 14) (.tmp 15) rfl _ _ _ rfl rfl (HIX.out W)) ?_
      go_frame
      refine any_take (i := 5) (some 17) rfl rfl rfl (by kernel_rfl) (by kernel_rfl) (by kernel_rfl) (.int .u8 (x.toNat / 16 : Nat)) (fun _ _ _ h => h) (fun W => exec_bin .quo 5 _ (.tmp 16) (.const (.int .u8 16)) rfl _ _ _ rfl rfl rfl (run_quo16 W x)) ?_
      go_frame
      refine any_take (i := 6) (some 18) rfl rfl rfl (by kernel_rfl) (by kernel_rfl) (by kernel_rfl) (.int .u8 (hd (x.toNat / 16)).toNat) (fun _ _ _ h => h) (fun W => exec_index 9 (.tmp 13) (.tmp 17) rfl _ _ _ rfl rfl (run_digit W .u8 _ (by omega))) ?_
      go_frame
      refine any_take (i := 7) (some 19) rfl rfl rfl (by kernel_rfl) (by kernel_rfl) (by kernel_rfl) (.string { data := #[48, 49, 50, 51, 52, 53, 54, 55, 56, 57, 97, 98, 99, 100, 101, 102] }) (fun _ _ _ h => h) (fun W => exec_move (.tmp 3) rfl _ rfl) ?_
      go_frame
      refine any_take (i := 8) (some 20) rfl rfl rfl (by kernel_rfl) (by kernel_rfl) (by kernel_rfl) (.string s) (fun _ _ _ h => h) (fun W => exec_move (.tmp 0) rfl _ rfl) ?_
      go_frame
      refine any_take (i := 9) (some 21) rfl rfl rfl (by kernel_rfl) (by kernel_rfl) (by kernel_rfl) (.int .i64 k) (fun _ _ _ h => h) (fun W => exec_move (.tmp 5) rfl _ rfl) ?_
      go_frame
      refine any_take (i := 10) (some 22) rfl rfl rfl (by kernel_rfl) (by kernel_rfl) (by kernel_rfl) (.int .u8 x.toNat) (fun _ _ _ h => h) (fun W => exec_index 9 (.tmp 20) (.tmp 21) rfl _ _ _ rfl rfl (HIX.out W)) ?_
      go_frame
      refine any_take (i := 11) (some 23) rfl rfl rfl (by kernel_rfl) (by kernel_rfl) (by kernel_rfl) (.int .u8 (x.toNat % 16 : Nat)) (fun _ _ _ h => h) (fun W => exec_bin .rem 5 _ (.tmp 22) (.const (.int .u8 16)) rfl _ _ _ rfl rfl rfl (run_rem16 W x)) ?_
      go_frame
      refine any_take (i := 12) (some 24) rfl rfl rfl (by kernel_rfl) (by kernel_rfl) (by kernel_rfl) (.int .u8 (hd (x.toNat % 16)).toNat) (fun _ _ _ h => h) (fun W => exec_index 9 (.tmp 19) (.tmp 23) rfl _ _ _ rfl rfl (run_digit W .u8 _ (by omega))) ?_
      go_frame
      refine any_one (i := 13) (by kernel_rfl) (op_build2 (some 25) rfl rfl rfl (.tmp 18) (.tmp 24) rfl _ _ rfl rfl ?_)
      go_frame
      refine any_one (i := 14) (by kernel_rfl) (op_push2 (some 26) rfl rfl rfl (.tmp 12) (.tmp 25) rfl w.heap.size _ _ rfl ho2 _ _ hbr2 (by have := HLL.out; omega) rfl ?_)
      intro v1 w1 ho1 hb1
      go_frame
      rw [HST.out] at ho1
      have HO1 := Lib.hid ho1
      have HB1 := Lib.hid hb1
      refine any_one (i := 15) (by kernel_rfl) (op_value (some 4) rfl rfl rfl v1 (exec_assign (.tmp 26) rfl _ rfl) ?_)
      refine wpAny_done (by kernel_rfl) ?_ _
      go_frame
      clear ho1 hb1 ho2
      go_wp2
      go_roundw
      case rel => exact ⟨k + 1, by go_num, by omega, HO1.out, Nat.le_trans hbr2 HB1.out.size, hb2.trans HB1.out⟩
      case measure => simp [intOf]; omega
    · obtain rfl : k = s.size := by omega
      have hof := HO.out
      rw [List.take_of_length_le (by rw [HSZ.out]; exact Nat.le_refl _)] at hof
      obtain ⟨A, c, rfl, hr, hcc⟩ := own_out hof
      have hcv := run_str hr c
      clear hof HO hr
      go_wp2
      go_ret
      exact ⟨rfl, hbel⟩
end Go.Proofs.YtoendbdpkkjjkaaDoor
