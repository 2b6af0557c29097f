/- Calendar blocks as values; find. -/
import Derived.Test.YtmifpaafpmibmaaDoorC6
namespace Go.Proofs.YtmifpaafpmibmaaDoor
open Go.RowKit Hm Wm Cm

theorem wpList_dst {w : World} {ops : Array Oper} {rest : List Oper} {o : Oper} {a : Act} {Q : Exit → Act → World → Prop} (d : Tmp) (_hd : o.dst = some d) (h : wpList Tryd.prog ops Q (o :: rest) a w) : wpList Tryd.prog ops Q (o :: rest) a w := h
theorem wpList_runG {w : World} {ops : Array Oper} {rest : List Oper} {o : Oper} {a : Act} {Q : Exit → Act → World → Prop} (d : Tmp) (hd : o.dst = some d) (hw : Region.wanted o (yielded ops a.tmps) = true) (v : Value) (hrun : (execOp a.eval o).run Tryd.prog w = .ok (.value v) w) (h : wpList Tryd.prog ops Q rest (a.put (some d) v) w) : wpList Tryd.prog ops Q (o :: rest) a w := by
  refine wpList_want hw fun K hK => ?_
  unfold Oper.wp
  rw [hrun]
  have := hK _ _ h
  rw [← hd] at this
  exact this
section
variable {P : Program} {oi : Oper} {a : Act} {w : World}
theorem exec_build3 (ty : TypeId) (x y z : Operand) (ho : oi.op = .build ty #[(0, x), (1, y), (2, z)]) (p q r v : Value) (hx : a.eval x = p) (hy : a.eval y = q) (hz : a.eval z = r) (hl : (Instr.build ty #[(0, p), (1, q), (2, r)]).run P w = .ok v w) : (execOp a.eval oi).run P w = .ok (.value v) w := by
  subst hx; subst hy; subst hz
  simp [execOp, ho, hl]
theorem exec_build0 (ty : TypeId) (ho : oi.op = .build ty #[]) (v : Value) (hl : (Instr.build ty #[]).run P w = .ok v w) : (execOp a.eval oi).run P w = .ok (.value v) w := by
  simp [execOp, ho, hl]
end

abbrev b3 (l f t : Int) : List Value := [.int .i64 l, .int .i64 f, .int .i64 t]
abbrev bZ : List Value := [.int .i64 0, .int .i64 0, .int .i64 0]
def bV (l f t : Int) : Value := .agg #[.int .i64 l, .int .i64 f, .int .i64 t]
theorem b_one (l f t : Int) : ∀ v ∈ b3 l f t, v.oneCell' = true := by
  intro v hv
  simp at hv
  rcases hv with rfl | rfl | rfl <;> rfl
theorem bn_size : (Tryd.prog.info? 23).map (·.size) = some 3 := by kernel_rfl
theorem bn_zero : (Tryd.prog.info? 23).map (·.zero) = some (some (.agg bZ.toArray)) := by kernel_rfl
theorem bn_build (l f t : Int) (W : World) : (Instr.build 23 #[(0, .int .i64 l), (1, .int .i64 f), (2, .int .i64 t)]).run Tryd.prog W = .ok (.agg #[.int .i64 l, .int .i64 f, .int .i64 t]) W := by kernel_rfl
theorem bn_nil (W : World) : (Instr.build 23 #[]).run Tryd.prog W = .ok (.agg #[.int .i64 0, .int .i64 0, .int .i64 0]) W := by kernel_rfl
theorem bn_f0 (g : Nat) (W : World) : (Instr.fieldAt 23 (.pointer (some ⟨g, 0, none⟩)) 0).run Tryd.prog W = .ok (.pointer (some ⟨g, 0, none⟩)) W := by kernel_rfl
theorem bn_f1 (g : Nat) (W : World) : (Instr.fieldAt 23 (.pointer (some ⟨g, 0, none⟩)) 1).run Tryd.prog W = .ok (.pointer (some ⟨g, 1, none⟩)) W := by kernel_rfl
theorem bn_f2 (g : Nat) (W : World) : (Instr.fieldAt 23 (.pointer (some ⟨g, 0, none⟩)) 2).run Tryd.prog W = .ok (.pointer (some ⟨g, 2, none⟩)) W := by kernel_rfl
set_option maxRecDepth 100000 in
set_option maxHeartbeats 400000 in
theorem bin_at (l f k a b : Int) (w : World) (ha : f = a) (hb : f + k = b) (h0 : 0 ≤ f) (h1 : f ≤ 1000000000) (h2 : 0 ≤ k) (h3 : k ≤ 1000000000) : Calls Tryd.prog 33 #[.int .i64 l, .int .i64 f, .int .i64 k] w fun e w' => e = .returned (bV l a b) ∧ Below w.heap.size w w' := by
  subst ha hb
  have HK := Lib.hid (Blk.new w 23 (b3 l f (f + k)))
  have HB := Lib.hid ((Below.refl w.heap.size w).alloc (Nat.le_refl _) (.cells (b3 l f (f + k)).toArray 23))
  go_enter Tryd.func33, Tryd.ntmps33
  go_wp2
  exact bodyPost_ret (results_blk rfl _ _ w.heap.size _ (b3 l f (f + k)) _ rfl HK.out Tryd.underlying23 rfl bn_size) rfl ⟨rfl, HB.out⟩
/-- The block of a level as a value. -/
def fV (L t : Nat) : Value := bV L (fl L t : Nat) (nx L t : Nat)
set_option maxRecDepth 100000 in
set_option maxHeartbeats 1000000 in
theorem find_low (L t : Nat) (w : World) (hL : L ≤ 2) (ht : t < M) : Calls Tryd.prog 22 #[.int .i64 L, .int .i64 t] w fun e w' => e = .returned (fV L t) ∧ Below w.heap.size w w' := by
  have hM : M = 1402560 := rfl
  have h3 : L = 0 ∨ L = 1 ∨ L = 2 := by omega
  have HZ := Lib.hid (Blk.new w 23 bZ)
  have HW := Lib.hid ((Below.refl w.heap.size w).alloc (Nat.le_refl _) (.cells bZ.toArray 23))
  have h4 : t % 4 ≤ t := Nat.mod_le _ _
  have h96 : t % 96 ≤ t := Nat.mod_le _ _
  rcases h3 with rfl | rfl | rfl
  · go_enter Tryd.func22, Tryd.ntmps22
    go_wp2_with fail
    refine (bin_at _ _ _ ((t : Nat) : Int) ((t + 1 : Nat) : Int) _ (by omega) (by omega) (by omega) (by omega) (by omega) (by omega)).mono ?_
    rintro e w1 ⟨rfl, hb⟩
    replace HZ := Lib.hid (HZ.out.next hb)
    replace HW := Lib.hid (HW.out.trans (hb.mono HW.out.size))
    clear hb
    go_wp2_with (first | (refine wpList_store_all rfl 23 (.tmp 4) (.tmp 18) rfl w.heap.size _ bZ (b3 0 ((t : Nat) : Int) ((t + 1 : Nat) : Int)) rfl rfl HZ.out rfl bn_size (b_one _ _ _) ?_; intro w9 HK9 ho9; have HO9 := Lib.hid ho9; clear ho9))
    exact bodyPost_ret (results_blk rfl _ _ w.heap.size _ (b3 0 ((t : Nat) : Int) ((t + 1 : Nat) : Int)) _ rfl HK9.out Tryd.underlying23 rfl bn_size) rfl ⟨rfl, HW.out.trans (HO9.out.below (Nat.le_refl _))⟩
  · go_enter Tryd.func22, Tryd.ntmps22
    go_wp2_with fail
    refine (bin_at _ _ _ ((t - t % 4 : Nat) : Int) ((t - t % 4 + 4 : Nat) : Int) _ (by omega) (by omega) (by omega) (by omega) (by omega) (by omega)).mono ?_
    rintro e w1 ⟨rfl, hb⟩
    replace HZ := Lib.hid (HZ.out.next hb)
    replace HW := Lib.hid (HW.out.trans (hb.mono HW.out.size))
    clear hb
    go_wp2_with (first | (refine wpList_store_all rfl 23 (.tmp 4) (.tmp 26) rfl w.heap.size _ bZ (b3 1 ((t - t % 4 : Nat) : Int) ((t - t % 4 + 4 : Nat) : Int)) rfl rfl HZ.out rfl bn_size (b_one _ _ _) ?_; intro w9 HK9 ho9; have HO9 := Lib.hid ho9; clear ho9))
    exact bodyPost_ret (results_blk rfl _ _ w.heap.size _ (b3 1 ((t - t % 4 : Nat) : Int) ((t - t % 4 + 4 : Nat) : Int)) _ rfl HK9.out Tryd.underlying23 rfl bn_size) rfl ⟨rfl, HW.out.trans (HO9.out.below (Nat.le_refl _))⟩
  · go_enter Tryd.func22, Tryd.ntmps22
    go_wp2_with fail
    refine (bin_at _ _ _ ((t - t % 96 : Nat) : Int) ((t - t % 96 + 96 : Nat) : Int) _ (by omega) (by omega) (by omega) (by omega) (by omega) (by omega)).mono ?_
    rintro e w1 ⟨rfl, hb⟩
    replace HZ := Lib.hid (HZ.out.next hb)
    replace HW := Lib.hid (HW.out.trans (hb.mono HW.out.size))
    clear hb
    go_wp2_with (first | (refine wpList_store_all rfl 23 (.tmp 4) (.tmp 32) rfl w.heap.size _ bZ (b3 2 ((t - t % 96 : Nat) : Int) ((t - t % 96 + 96 : Nat) : Int)) rfl rfl HZ.out rfl bn_size (b_one _ _ _) ?_; intro w9 HK9 ho9; have HO9 := Lib.hid ho9; clear ho9))
    exact bodyPost_ret (results_blk rfl _ _ w.heap.size _ (b3 2 ((t - t % 96 : Nat) : Int) ((t - t % 96 + 96 : Nat) : Int)) _ rfl HK9.out Tryd.underlying23 rfl bn_size) rfl ⟨rfl, HW.out.trans (HO9.out.below (Nat.le_refl _))⟩
end Go.Proofs.YtmifpaafpmibmaaDoor
