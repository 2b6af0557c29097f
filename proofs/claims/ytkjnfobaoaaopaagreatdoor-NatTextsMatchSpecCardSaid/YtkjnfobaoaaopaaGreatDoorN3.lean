/- trim; rows of zeros, copies and parts of rows; plus, less and up. -/
import Derived.Test.YtkjnfobaoaaopaaGreatDoorN2
namespace Go.Proofs.YtkjnfobaoaaopaaGreatDoor
open Go.RowKit Hm Wm Wn

theorem wd_info : (Tryz.prog.info? 53).map (fun i => (i.zero, i.size, i.bytes)) = some (some (.int .u64 0), 1, 8) := by kernel_rfl
theorem dg_under : Tryz.prog.underlying 50 = some (.slice 53) := Tryz.underlying50
theorem wd_one : (Tryz.prog.info? 53).map (·.size) = some 1 := by kernel_rfl
def zd (n : Nat) : List Nat := List.replicate n 0
theorem zd_len (n : Nat) : (zd n).length = n := List.length_replicate
theorem madeCells_w (n : Nat) : madeCells #[.int .u64 0] n = (ws (zd n)).toArray := by
  apply Array.ext
  · simp [madeCells, ws, zd]
  · intro i h1 h2
    have e : i % 1 = 0 := Nat.mod_one i
    simp [madeCells, ws, zd, wu, e]
theorem run_zerosW (w : World) (n : Nat) (h : n ≤ 1000000) : (Instr.makeSlice 50 (.int .i64 n) (.int .i64 n)).run Tryz.prog w = .ok (.slice (some ⟨w.heap.size, 0, none⟩) n n) (w.alloc (.cells (ws (zd n)).toArray 53)) := by
  obtain ⟨i0, hi, hz0, hz1, hz2⟩ := info_parts wd_info
  have := run_make (P := Tryz.prog) w 50 53 i0 _ dg_under hi hz0 .i64 .i64 n n (by omega) (by omega) (by rw [hz2]; omega) (by omega)
  rw [hz1, Nat.mul_one, Int.toNat_natCast, show (Value.int IntKind.u64 0).cells = #[.int .u64 0] from rfl, madeCells_w] at this
  exact this
section
variable {w : World} {ops : Array Oper} {rest : List Oper} {o : Oper} {a : Act} {Q : Exit → Act → World → Prop}
theorem wpList_makeW (hgd : o.guard = none) (x y : Operand) (ho : o.op = .makeSlice 50 x y) (n : Nat) (hx : a.eval x = .int .i64 n) (hy : a.eval y = .int .i64 n) (hn : n ≤ 1000000)
    (h : ∀ w', Hid (Blk w' w.heap.size 53 (ws (zd n))) → Hid (Below w.heap.size w w') → wpList Tryz.prog ops Q rest (a.put o.dst (.slice (some ⟨w.heap.size, 0, none⟩) n n)) w') : wpList Tryz.prog ops Q (o :: rest) a w := by
  refine wpList_plain hgd fun K hK => ?_
  unfold Oper.wp
  rw [exec_makeSlice 50 x y ho _ _ _ hx hy (run_zerosW w n hn)]
  exact hK _ _ (h _ (Lib.hid (Blk.new w 53 (ws (zd n)))) (Lib.hid ((Below.refl _ _).alloc (Nat.le_refl _) _)))
set_option maxRecDepth 100000 in
theorem run_copyW (w : World) (ty : TypeId) (g dLen dCap : Nat) (A : Option Addr) (sCap : Nat) (t : TypeId) (z x : List Nat) (hb : Blk w g t (ws z)) (hn : x.length ≤ dLen) (hx : x ≠ []) (hr : RdW w A x) (hfit : x.length ≤ z.length) :
    (Builtin.copy_ #[50, 50] ty #[.slice (some ⟨g, 0, none⟩) dLen dCap, .slice A x.length sCap]).run Tryz.prog w = .ok (goInt x.length) (w.setRow g (ws (x ++ z.drop x.length)).toArray) := by
  have hne : ws x ≠ [] := by intro e; apply hx; have := ws_len x; rw [e] at this; exact List.eq_nil_of_length_eq_zero this.symm
  obtain ⟨ad, rfl, hc⟩ := Rd.news hr hne
  have h := run_copy_row (P := Tryz.prog) w 50 50 ty 53 g 0 dLen dCap ad x.length sCap (ws z).toArray t (ws x) dg_under wd_one hb (by rw [ws_len]; exact (Nat.min_eq_left hn).symm) (fun j v hv => hc j v hv) (by rw [ws_len]; simpa [ws_len] using hfit) (ws_one x)
  rw [ws_len] at h
  rw [h]
  congr 2
  rw [ws_app]
  simp [ws, List.map_drop]
theorem wpList_copyW (hgd : o.guard = none) (d s : Operand) (ho : o.op = .call { callee := .builtin .copy, args := #[d, s], argTypes := #[50, 50] })
    (g dLen dCap : Nat) (A : Option Addr) (sCap : Nat) (t : TypeId) (z x : List Nat) (hd : a.eval d = .slice (some ⟨g, 0, none⟩) dLen dCap) (hs : a.eval s = .slice A x.length sCap) (hb : Blk w g t (ws z)) (hn : x.length ≤ dLen) (hr : RdW w A x) (hfit : x.length ≤ z.length)
    (h : ∀ v w', Hid (Blk w' g t (ws (x ++ z.drop x.length))) → Only g w w' → wpList Tryz.prog ops Q rest (a.put o.dst v) w') : wpList Tryz.prog ops Q (o :: rest) a w := by
  refine wpList_plain hgd fun K hK => ?_
  by_cases hx : x = []
  · subst hx
    have hrun : (Builtin.copy_ #[50, 50] o.type #[.slice (some ⟨g, 0, none⟩) dLen dCap, .slice A 0 sCap]).run Tryz.prog w = .ok (goInt 0) w := by
      obtain ⟨i0, hi, -⟩ := info_parts wd_info
      cases A <;> simp [Builtin.copy_, run_underlying dg_under, Builtin.lenOf, Builtin.firstCells, sizeOf, typeInfo, hi, loadCells, loadCellsFrom, storeCells]
    unfold Oper.wp execOp
    simp only [ho, resolve, invoke, builtin, Sem.run_bind, Sem.run_pure, Result.andThen_ok, List.map_toArray, List.map_cons, List.map_nil, hd, hs, List.length_nil, hrun]
    exact hK _ _ (h _ _ (Lib.hid hb) (Only.refl _ _))
  · have hrun := run_copyW w o.type g dLen dCap A sCap t z x hb hn hx hr hfit
    unfold Oper.wp execOp
    simp only [ho, resolve, invoke, builtin, Sem.run_bind, Sem.run_pure, Result.andThen_ok, List.map_toArray, List.map_cons, List.map_nil, hd, hs, hrun]
    exact hK _ _ (h _ _ (Lib.hid (setRow_heap w g _ _ t _ hb)) (Only.setRow w g _))
theorem run_hiW (A : Option Addr) (n c k : Nat) (hk : k ≤ n) (hn : n ≤ c) (W : World) :
    (Instr.sliceAt 50 (.slice A n c) none (some (.int .i64 k)) none).run Tryz.prog W = .ok (.slice A k c) W := by
  simp [Instr.sliceAt, Instr.slice, run_underlying dg_under, Instr.sliceBounds, run_sliceBound, (by omega : (k : Int) ≤ c)]
  intro _
  rcases A with _ | ⟨b, o, i⟩
  · rfl
  · cases i <;> simp [Addr.add]
theorem wpList_hiW (hgd : o.guard = none) (x y : Operand) (ho : o.op = .slice 50 x none (some y) none) (A : Option Addr) (n c k : Nat) (hk : k ≤ n) (hn : n ≤ c) (hx : a.eval x = .slice A n c) (hy : a.eval y = .int .i64 k)
    (h : wpList Tryz.prog ops Q rest (a.put o.dst (.slice A k c)) w) : wpList Tryz.prog ops Q (o :: rest) a w := by
  have hl := run_hiW A n c k hk hn w
  rw [← hx, ← hy] at hl
  have hrun : (execOp a.eval o).run Tryz.prog w = .ok (.value (.slice A k c)) w := by simp [execOp, ho, hl]
  refine wpList_plain hgd fun K hK => ?_
  unfold Oper.wp
  rw [hrun]
  exact hK _ _ h
end

/-- What stands in the loop of trim. -/
def TmR (A : Option Addr) (c : Nat) (l : List Nat) (v : Value) : Prop := ∃ k : Nat, v = .slice A k c ∧ k ≤ l.length ∧ Hid (num (l.take k) = num l)
set_option maxRecDepth 100000 in
set_option maxHeartbeats 400000 in
theorem trim_any (A : Option Addr) (c : Nat) (l : List Nat) (w : World) (hr : RdW w A l) (hd : Dig l) (hc : l.length ≤ c) (hl : l.length ≤ 1000000) :
    Calls Tryz.prog 56 #[.slice A l.length c] w fun e w' => e = .returned (.slice A (digW (num l)).length c) ∧ w' = w := by
  have HR := Lib.hid hr
  have HD := Lib.hid hd
  clear hr hd
  go_enter Tryz.func56, Tryz.ntmps56
  go_wp2_with fail
  go_loop [0] (TmR A c l) (fun v => match v with | .slice _ n _ => n | _ => 0)
  case atStart => exact ⟨l.length, rfl, Nat.le_refl _, Lib.hid (by rw [List.take_length])⟩
  case round =>
    obtain ⟨k, rfl, hk, HN⟩ := hrel
    rcases k with _ | j
    · have HE := Lib.hid (show (digW (num l)).length = 0 by rw [← HN.out]; simp [num, digW_zero])
      go_wp2
      go_ret
      exact ⟨by rw [HE.out]; rfl, rfl⟩
    · have hj : j < l.length := by omega
      obtain ⟨b, off, rfl, hcell⟩ := HR.out.cell hj
      obtain ⟨x, hx⟩ : ∃ x, l[j] = x := ⟨_, rfl⟩
      rw [hx] at hcell
      have e1 : decide ((0 : Int) < ((j + 1 : Nat) : Int)) = true := decide_eq_true (by omega)
      by_cases h0 : x = 0
      · have e2 : ((x : Int) == 0) = true := by rw [h0]; rfl
        have e2' : (x == 0) = true := by rw [h0]; rfl
        have HN2 := Lib.hid (take_drop_zero hj HN.out (hx.trans h0))
        clear hx h0
        go_wp2_with (refine wpList_hiW rfl (.tmp 15) (.tmp 18) rfl (some ⟨b, off, none⟩) (j + 1) c j (by omega) (by omega) rfl (by go_num) ?_)
        go_round
        case rel => exact ⟨j, rfl, by omega, HN2⟩
        case measure => simp
      · have e2 : ((x : Int) == 0) = false := by rw [beq_eq_false_iff_ne]; omega
        have e2' : (x == 0) = false := by rw [beq_eq_false_iff_ne]; exact h0
        have ht : Trim (l.take (j + 1)) := by
          unfold Trim
          rw [List.take_succ_eq_append_getElem hj, hx]
          simp [h0]
        have HE := Lib.hid (show j + 1 = (digW (num l)).length by rw [← trim_take HD.out HN.out ht, List.length_take]; omega)
        clear hx h0 ht
        go_wp2
        go_ret
        exact ⟨by rw [← HE.out]; rfl, rfl⟩
/-- A row that can be read, of the digits of a number. -/
def NewW (w : World) (n : Nat) (v : Value) : Prop := ∃ A c, v = .slice A (digW n).length c ∧ RdW w A (digW n) ∧ (digW n).length ≤ c
theorem RdW.trim {w : World} {A : Option Addr} {l : List Nat} (h : RdW w A l) (hd : Dig l) : RdW w A (digW (num l)) := by
  obtain ⟨k, hk⟩ : ∃ k, digW (num l) = l.take k := by
    have h1 := dig_digW (num l)
    have h2 := num_digW (num l)
    refine ⟨(digW (num l)).length, num_inj h1 (hd.take _) ?_ ?_⟩
    · rw [List.length_take]
      have := digW_len (num_lt hd)
      omega
    · rw [h2]
      have h3 := num_append (l.take (digW (num l)).length) (l.drop (digW (num l)).length)
      rw [List.take_append_drop] at h3
      have h4 := digW_lt (num l)
      have h5 : (l.take (digW (num l)).length).length = (digW (num l)).length := by
        rw [List.length_take]
        have := digW_len (num_lt hd)
        omega
      rw [h5] at h3
      rcases Nat.eq_zero_or_pos (num (l.drop (digW (num l)).length)) with h0 | h0
      · rw [h0] at h3; omega
      · have : B ^ (digW (num l)).length * 1 ≤ B ^ (digW (num l)).length * num (l.drop (digW (num l)).length) := Nat.mul_le_mul_left _ h0
        omega
  rw [hk]
  unfold RdW ws
  rw [List.map_take]
  exact Rd.take h k
theorem rdW_blk {w : World} {g : Nat} {t : TypeId} {l : List Nat} (h : Blk w g t (ws l)) : RdW w (some ⟨g, 0, none⟩) l := fun _ => ⟨g, 0, rfl, fun k u hu => by rw [Nat.zero_add, h.cell k]; exact hu⟩
end Go.Proofs.YtkjnfobaoaaopaaGreatDoor
