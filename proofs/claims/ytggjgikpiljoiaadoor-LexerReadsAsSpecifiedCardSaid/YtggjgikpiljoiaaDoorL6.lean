/- A token is added. -/
import Derived.Test.YtggjgikpiljoiaaDoorL5
import Derived.Deep.DeepCutAuto
namespace Go.Proofs.YtggjgikpiljoiaaDoor
open Go.RowKit Hm Wm Lx

theorem fa_api_Token_1_0 (g : Nat) (W : World) : (Instr.fieldAt 33 (.pointer (some ⟨g, 0, none⟩)) 1).run Tryd.prog W = .ok (.pointer (some ⟨g, 1, none⟩)) W := by kernel_rfl
theorem fa_lexer_reader_2_0 (g : Nat) (W : World) : (Instr.fieldAt 46 (.pointer (some ⟨g, 0, none⟩)) 2).run Tryd.prog W = .ok (.pointer (some ⟨g, 2, none⟩)) W := by kernel_rfl
theorem flat___api_Token (W : World) : (isAgg 23).run Tryd.prog W = .ok false W := by kernel_rfl
section
variable {ops : Array Oper} {rest : List Oper} {o op : Oper} {a : Act} {w : World} {Q : Exit → Act → World → Prop} {K : Act → World → Prop}
theorem run_store_at (ty : TypeId) (g o : Nat) (t : TypeId) (cur : List Value) (v : Value) (hb : Blk w g t cur) (hl : o < cur.length) (hi : (Tryd.prog.info? ty).map (·.size) = some 1) (h1 : v.oneCell' = true) (hv : v.cells = #[v]) :
    (Instr.storeAt ty (.pointer (some ⟨g, o, none⟩)) v).run Tryd.prog w = .ok () (w.setRow g (cur.set o v).toArray) := by
  have hs := run_storeCells_at Tryd.prog g o t [v] 0 cur.toArray w hb (by simp; omega) (by intro u hu; rw [List.mem_singleton.1 hu]; exact h1)
  have hsp : splice cur o [v] = cur.set o v := by
    unfold splice
    rw [List.set_eq_take_append_cons_drop, if_pos hl]
    simp
  cases hq : Tryd.prog.info? ty with
  | none => rw [hq] at hi; cases hi
  | some i =>
    have hsz : i.size = 1 := by rw [hq] at hi; simpa using hi
    have e : (splice cur o [v]).toArray = (cur.toArray.toList.take (o + 0) ++ [v] ++ cur.toArray.toList.drop (o + 0 + [v].length)).toArray := by simp [splice]
    rw [← hsp, e, ← hs]
    simp [Instr.storeAt, Instr.sureAddr, storeVar, sizeOf, typeInfo, hq, hv, hsz]
theorem wp_store_at (ty : TypeId) (x y : Operand) (ho : op.op = .store ty x y) (g o : Nat) (t : TypeId) (cur : List Value) (v : Value) (hx : a.eval x = .pointer (some ⟨g, o, none⟩)) (hy : a.eval y = v) (hb : Blk w g t cur) (hl : o < cur.length)
    (hi : (Tryd.prog.info? ty).map (·.size) = some 1) (h1 : v.oneCell' = true) (hv : v.cells = #[v]) (h : ∀ w', Blk w' g t (cur.set o v) → Only g w w' → K (a.put op.dst undef) w') : op.wp Tryd.prog a w K Q := by
  have hrun := run_store_at ty g o t cur v hb hl hi h1 hv
  unfold Oper.wp execOp
  simp only [ho, hx, hy, Sem.run_bind, hrun, Result.andThen_ok]
  exact h _ (setRow_heap w g _ _ t _ hb) (Only.setRow w g _)
theorem wpList_store_at (hgd : op.guard = none) (ty : TypeId) (x y : Operand) (ho : op.op = .store ty x y) (g o : Nat) (t : TypeId) (cur : List Value) (v : Value) (hx : a.eval x = .pointer (some ⟨g, o, none⟩)) (hy : a.eval y = v) (hb : Blk w g t cur) (hl : o < cur.length)
    (hi : (Tryd.prog.info? ty).map (·.size) = some 1) (h1 : v.oneCell' = true) (hv : v.cells = #[v]) (h : ∀ w', Hid (Blk w' g t (cur.set o v)) → Only g w w' → wpList Tryd.prog ops Q rest (a.put op.dst undef) w') : wpList Tryd.prog ops Q (op :: rest) a w :=
  wpList_plain hgd fun _ hK => wp_store_at ty x y ho g o t cur v hx hy hb hl hi h1 hv fun w' e1 e2 => hK _ _ (h w' e1 e2)
end
theorem Row.far {W W' : World} {base g : Nat} {v : Value} {l : List TI} (h : Row W base v l) (ho : Only g W W') (hg : ∀ k, some k = v.ownBlock → k ≠ g) : Row W' base v l := by
  refine ⟨⟨h.1.1, ?_⟩, h.2⟩
  rcases h.1.2 with h0 | ⟨b, cap, cur, hv, h1, h2, h3⟩
  · exact .inl h0
  · refine .inr ⟨b, cap, cur, hv, h1, ?_, h3⟩
    rw [ho.block b (hg b (by rw [hv]; rfl))]
    exact h2
theorem Row.old {W : World} {base : Nat} {v : Value} {l : List TI} (h : Row W base v l) : ∀ k, some k = v.ownBlock → base ≤ k ∧ k < W.heap.size := fun k hk => World.ownsRow.lt h.1 k hk.symm
theorem one_tok (w : World) (xs : List Value) : ∃ W, W = w.alloc (.cells xs.toArray 33) ∧ Blk W w.heap.size 33 xs ∧ Below w.heap.size w W ∧ w.heap.size < W.heap.size := ⟨_, rfl, Blk.new w _ _, (Below.refl _ _).alloc (Nat.le_refl _) _, by simp⟩
theorem rd_ne : 46 ≠ 33 := by decide
/-- What behind a method of the reader is: it stands at p, has read T, and nothing else has turned. -/
def Rst (g base : Nat) (l : List UInt8) (p : Nat) (T : List TI) (w w' : World) : Prop :=
  (∃ v, Blk w' g 46 [.string (sb l), .int .i64 p, v] ∧ Row w' base v T) ∧ KeepsX g w w' ∧ Below base w w'
def AddP (g base : Nat) (l : List UInt8) (p : Nat) (T : List TI) (w : World) (e : Ending) (w' : World) : Prop := e = .returned (.tuple #[]) ∧ Rst g base l p T w w'
theorem keepsX_new {g h : Nat} {X Y Z : World} (hk : KeepsX g X Y) (ho : Only h Y Z) (hn : X.heap.size ≤ h) : KeepsX g X Z :=
  ⟨by rw [ho.size]; exact hk.1, fun k o h1 h2 h3 => (ho.block k (by have := (Array.getElem?_eq_some_iff.1 h1).1; omega)).trans (hk.2 k o h1 h2 h3)⟩
theorem ts_size : (Tryd.prog.info? 23).map (·.size) = some 1 := by kernel_rfl
set_option maxRecDepth 100000 in
set_option maxHeartbeats 800000 in
theorem add_any (g base p n : Nat) (l : List UInt8) (v : Value) (T : List TI) (x : TI) (w : World) (hR : Blk w g 46 [.string (sb l), .int .i64 p, v]) (hT : Row w base v T) (hg : base ≤ g) (hp : p ≤ 1000000) (hn : n ≤ 1000000) (hl : T.length ≤ 1000000) :
    Calls Tryd.prog 17 #[.pointer (some ⟨g, 0, none⟩), .agg #[.int .i64 x.k, .int .i64 x.a, .string x.s, .int .i64 x.v], .int .i64 n] w (AddP g base l (p + n) (T ++ [⟨x.k, p, x.s, x.v⟩]) w) := by
  have hgl : g < w.heap.size := hR.lt
  obtain ⟨W0, hW0, kX, kB, kS⟩ := one_tok w [.int .i64 x.k, .int .i64 x.a, .string x.s, .int .i64 x.v]
  have hold := hT.old
  have HR := Lib.hid (hR.next kB)
  have HT := Lib.hid (hT.below kB)
  have HX := Lib.hid kX
  have HK := Lib.hid ((Keeps.below kB).x g)
  have HB := Lib.hid (kB.mono (show base ≤ w.heap.size by omega))
  have HO := Lib.hid (show ∀ k, some k = v.ownBlock → k ≠ w.heap.size from fun k hk => by have := (hold k hk).2; omega)
  have HS := Lib.hid kS
  clear hR hT hold kX kB kS
  go_enter Tryd.func17, Tryd.ntmps17
  go_upto_region 1 with fail
  try rw [← hW0]
  clear hW0
  go_wp2_with (first | (refine wpList_dst 8 rfl ?_; refine wpList_run 8 rfl rfl _ (exec_fieldAddr 46 (.tmp 7) 1 rfl _ _ rfl (fa_lexer_reader_1_0 _ _)) ?_; go_frame) | (refine wpList_dst 9 rfl ?_; refine wpList_run 9 rfl rfl _ (exec_load 3 (.tmp 8) rfl _ (.int .i64 p) rfl (run_load_cell int_flat (HR.out.cell 1))) ?_; go_frame) | (refine wpList_dst 10 rfl ?_; refine wpList_run 10 rfl rfl _ (exec_fieldAddr 33 (.tmp 4) 1 rfl _ _ rfl (fa_api_Token_1_0 _ _)) ?_; go_frame) | (refine wpList_store_at rfl 3 (.tmp 10) (.tmp 9) rfl w.heap.size 1 33 [.int .i64 x.k, .int .i64 x.a, .string x.s, .int .i64 x.v] (.int .i64 p) rfl rfl HX.out (by simp) int_size rfl rfl ?_; intro w2 HX2 ho2; replace HR := Lib.hid (ho2.blk HR.out (by omega)); replace HT := Lib.hid (HT.out.far ho2 HO.out); replace HK := Lib.hid (keepsX_new HK.out ho2 (Nat.le_refl _)); replace HB := Lib.hid (HB.out.trans (ho2.below (by omega))); replace HS := Lib.hid (show w.heap.size < w2.heap.size by rw [ho2.size]; exact HS.out); clear ho2 HX HO))
  refine late_begin (S := TillQ 10 (fun W => Blk W g 46 [.string (sb l), .int .i64 p, v] ∧ Blk W w.heap.size 33 [.int .i64 x.k, .int .i64 p, .string x.s, .int .i64 x.v])) (by kernel_rfl) ?_
  have hR0 := HR.out.drew
  have hX0 : Blk w2.drew w.heap.size 33 [.int .i64 x.k, .int .i64 p, .string x.s, .int .i64 x.v] := HX2.out.drew
  have hT0 := HT.out.below (Below.refl _ _).drew
  have hK0 := HK.out.trans ((Keeps.below (Below.refl _ _).drew).x g)
  have hB0 := HB.out.drew
  have hs0 : w.heap.size < w2.drew.heap.size := HS.out
  generalize w2.drew = u0 at hR0 hX0 hT0 hK0 hB0 hs0 ⊢
  clear HR HX2 HT HK HB HS
  have hS0 : ∀ {Ls}, TillQ 10 (fun W => Blk W g 46 [.string (sb l), .int .i64 p, v] ∧ Blk W w.heap.size 33 [.int .i64 x.k, .int .i64 p, .string x.s, .int .i64 x.v]) Ls u0 := fun _ => ⟨hR0, hX0⟩
  refine late_take [10] (i := 0) (some 11) rfl rfl (by first | rfl | kernel_rfl) (by kernel_rfl) (by kernel_rfl) (by kernel_rfl) (by kernel_rfl) (by kernel_rfl) (fun Ls W h => h.off (by decide)) (.pointer (some ⟨g, 0, none⟩)) (fun _ _ _ h => h) (fun Ls W hl0 hW => exec_move (.tmp 0) rfl _ rfl) hS0 hS0 ?_
  go_frame
  refine late_take [10] (i := 1) (some 12) rfl rfl (by first | rfl | kernel_rfl) (by kernel_rfl) (by kernel_rfl) (by kernel_rfl) (by kernel_rfl) (by kernel_rfl) (fun Ls W h => h.off (by decide)) (.pointer (some ⟨g, 0, none⟩)) (fun _ _ _ h => h) (fun Ls W hl0 hW => exec_move (.tmp 0) rfl _ rfl) hS0 hS0 ?_
  go_frame
  refine late_take [10] (i := 2) (some 13) rfl rfl (by first | rfl | kernel_rfl) (by kernel_rfl) (by kernel_rfl) (by kernel_rfl) (by kernel_rfl) (by kernel_rfl) (fun Ls W h => h.off (by decide)) (.pointer (some ⟨g, 0, none⟩)) (fun _ _ _ h => h) (fun Ls W hl0 hW => exec_nilCheck _ rfl (some ⟨g, 0, none⟩) rfl) hS0 hS0 ?_
  go_frame
  refine late_take [10] (i := 3) (some 14) rfl rfl (by first | rfl | kernel_rfl) (by kernel_rfl) (by kernel_rfl) (by kernel_rfl) (by kernel_rfl) (by kernel_rfl) (fun Ls W h => h.off (by decide)) (.pointer (some ⟨g, 2, none⟩)) (fun _ _ _ h => h) (fun Ls W hl0 hW => exec_fieldAddr 46 (.tmp 13) 2 rfl _ _ rfl (fa_lexer_reader_2_0 _ _)) hS0 hS0 ?_
  go_frame
  refine late_take [10] (i := 4) (some 15) rfl rfl (by first | rfl | kernel_rfl) (by kernel_rfl) (by kernel_rfl) (by kernel_rfl) (by kernel_rfl) (by kernel_rfl) (fun Ls W h => h.off (by decide)) (v) (fun _ _ _ h => h) (fun Ls W hl0 hW => exec_load 23 (.tmp 14) rfl _ (v) rfl (run_load_cell flat___api_Token ((hW (hl0 10 (by simp))).1.cell 2))) hS0 hS0 ?_
  go_frame
  refine late_take [10] (i := 5) (some 16) rfl rfl (by first | rfl | kernel_rfl) (by kernel_rfl) (by kernel_rfl) (by kernel_rfl) (by kernel_rfl) (by kernel_rfl) (fun Ls W h => h.off (by decide)) (vT ⟨x.k, p, x.s, x.v⟩) (fun _ _ _ h => h) (fun Ls W hl0 hW => exec_load 33 (.tmp 4) rfl _ (vT ⟨x.k, p, x.s, x.v⟩) rfl (run_load_part W 33 _ 0 4 _ [.int .i64 x.k, .int .i64 p, .string x.s, .int .i64 x.v] _ (hW (hl0 10 (by simp))).2 (by simp) Tryd.underlying33 rfl tk_size)) hS0 hS0 ?_
  go_frame
  obtain ⟨v5, w5, r1, r2, r3, r4⟩ := run_pushT 23 u0 base v T ⟨x.k, p, x.s, x.v⟩ hT0 (by omega) (by omega)
  refine late_one (i := 6) (by kernel_rfl) (op_runG (some 17) rfl rfl (by first | rfl | kernel_rfl) (.slice (some ⟨u0.heap.size, 0, none⟩) 1 1) (u0.alloc (.cells (cT ⟨x.k, p, x.s, x.v⟩).toArray 33)) (exec_buildS 23 1 #[(0, .tmp 16)] rfl #[(0, vT ⟨x.k, p, x.s, x.v⟩)] rfl _ (run_buildT _ _)) ?_)
  refine ⟨fun _ => ⟨hR0.alloc _, hX0.alloc _⟩, ?_⟩
  go_frame
  refine late_one (i := 7) (by kernel_rfl) (op_runG (some 18) rfl rfl (by first | rfl | kernel_rfl) v5 w5 (exec_push (.tmp 15) (.tmp 17) rfl _ _ v5 rfl rfl r1) ?_)
  have hR5 := r3.blk hR0 (.inl rd_ne)
  have hX5 := r3.blk hX0 (.inr rfl)
  have hS5 : ∀ {Ls}, TillQ 10 (fun W => Blk W g 46 [.string (sb l), .int .i64 p, v] ∧ Blk W w.heap.size 33 [.int .i64 x.k, .int .i64 p, .string x.s, .int .i64 x.v]) Ls w5 := fun _ => ⟨hR5, hX5⟩
  refine ⟨hS5, ?_⟩
  go_frame
  refine late_one (i := 8) (by kernel_rfl) (op_valueG (some 19) rfl rfl (by first | rfl | kernel_rfl) (.pointer (some ⟨g, 0, none⟩)) (exec_nilCheck _ rfl (some ⟨g, 0, none⟩) rfl) ⟨hS5, ?_⟩)
  go_frame
  refine late_one (i := 9) (by kernel_rfl) (op_valueG (some 20) rfl rfl (by first | rfl | kernel_rfl) (.pointer (some ⟨g, 2, none⟩)) (exec_fieldAddr 46 (.tmp 19) 2 rfl _ _ rfl (fa_lexer_reader_2_0 _ _)) ⟨hS5, ?_⟩)
  go_frame
  refine late_one (i := 10) (by kernel_rfl) (op_wp rfl rfl (wp_store_at 23 (.tmp 20) (.tmp 18) rfl g 2 46 [.string (sb l), .int .i64 p, v] v5 rfl rfl hR5 (by simp) ts_size r2.one.1 r2.one.2 (fun w6 hk6 ho6 => ⟨fun h => absurd h (by decide), late_done (by kernel_rfl) ?_ _⟩)))
  go_frame
  have HR := Lib.hid (show Blk w6 g 46 [.string (sb l), .int .i64 p, v5] from hk6)
  have HT := Lib.hid (r2.only ho6 hR5 rd_ne)
  have HK := Lib.hid ((hK0.trans (r3.x g)).trans (KeepsX.only ho6))
  have HB := Lib.hid ((hB0.trans r4).trans (ho6.below hg))
  have HV := Lib.hid r2.one
  clear hk6 ho6 hS5 hX5 hR5 r1 r2 r3 r4 hS0 hR0 hX0 hT0 hK0 hB0 hs0
  go_wp2_with (first | (refine wpList_dst 23 rfl ?_; refine wpList_run 23 rfl rfl _ (exec_fieldAddr 46 (.tmp 22) 1 rfl _ _ rfl (fa_lexer_reader_1_0 _ _)) ?_; go_frame) | (refine wpList_dst 24 rfl ?_; refine wpList_run 24 rfl rfl _ (exec_load 3 (.tmp 23) rfl _ (.int .i64 p) rfl (run_load_cell int_flat (HR.out.cell 1))) ?_; go_frame) | (refine wpList_dst 28 rfl ?_; refine wpList_run 28 rfl rfl _ (exec_fieldAddr 46 (.tmp 27) 1 rfl _ _ rfl (fa_lexer_reader_1_0 _ _)) ?_; go_frame) | (refine wpList_store_at rfl 3 (.tmp 28) (.tmp 26) rfl g 1 46 [.string (sb l), .int .i64 p, v5] (.int .i64 ((p : Int) + n)) rfl rfl HR.out (by simp) int_size rfl rfl ?_; intro w7 HR7 ho7; replace HT := Lib.hid (HT.out.only ho7 HR.out rd_ne); replace HK := Lib.hid (HK.out.trans (KeepsX.only ho7)); replace HB := Lib.hid (HB.out.trans (ho7.below hg)); clear ho7 HR))
  go_end0
  exact ⟨rfl, ⟨v5, HR7.out, HT.out⟩, HK.out, HB.out⟩
end Go.Proofs.YtggjgikpiljoiaaDoor
