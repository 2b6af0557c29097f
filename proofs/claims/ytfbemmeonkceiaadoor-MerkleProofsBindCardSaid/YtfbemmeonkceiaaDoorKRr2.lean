/- The reference's with. -/
import Derived.Test.YtfbemmeonkceiaaDoorKRr1
namespace Go.Proofs.YtfbemmeonkceiaaDoor
open Go.RowKit Hm Wm

theorem exec_emptyD {oi : Oper} {a : Act} {w : World} (ho : oi.op = .buildSlice 22 0 #[]) : (execOp a.eval oi).run Tryd.prog w = .ok (.value (.slice (some ⟨w.heap.size, 0, none⟩) 0 0)) (w.alloc (.cells #[] 31)) := by
  obtain ⟨i0, hi, hz0, hz1, hz2⟩ := info_parts dg_info
  have e : ∀ f : Nat → Value, Array.map f (Array.range 0) = #[] := fun f => Array.eq_empty_of_size_eq_zero (by rw [Array.size_map, Array.size_range])
  have hrun : (Instr.buildSlice 22 0 #[]).run Tryd.prog w = .ok (.slice (some ⟨w.heap.size, 0, none⟩) 0 0) (w.alloc (.cells #[] 31)) := by
    simp [Instr.buildSlice, run_underlying ds_under, sizeOf, typeInfo, hi, newRow, Instr.fill, e]
  unfold execOp
  simp only [ho, List.map_toArray, List.map_nil, Sem.run_bind, hrun, Result.andThen_ok]
  rfl
/-- An own row of digests is appended to. -/
theorem exec_appD {oi : Oper} {a : Act} {w : World} (s x : Operand) (ho : oi.op = .call { callee := .builtin .append, args := #[s, x], argTypes := #[22, 22] })
    (base : Nat) (v : Value) (l : List Dg) (hs : a.eval s = v) (hown : w.ownsRow base 31 16 v l.length (dl l)) (B : Option Addr) (c : Nat) (r : List Dg) (hx : a.eval x = .slice B r.length c) (hr : RdD w B r) (hb : base ≤ w.heap.size) (hl : l.length + r.length ≤ 1000000) :
    ∃ v' w', (execOp a.eval oi).run Tryd.prog w = .ok (.value v') w' ∧ w'.ownsRow base 31 16 v' (l ++ r).length (dl (l ++ r)) ∧ Below base w w' ∧ (∀ k t cs, v.ownBlock ≠ some k → Blk w k t cs → Blk w' k t cs) := by
  obtain ⟨i0, hi, hz0, hz1, hz2⟩ := info_parts dg_info
  by_cases hrn : r = []
  · subst hrn
    have hrun : (Builtin.append_ #[22, 22] oi.type #[v, .slice B 0 c]).run Tryd.prog w = .ok v w := by
      rcases hown.2 with ⟨rfl, _⟩ | ⟨g, cap, cur, rfl, _, _, hnc, _⟩
      · cases B <;> simp [Builtin.append_, run_underlying ds_under, sizeOf, typeInfo, hi, Builtin.lenOf, Builtin.firstCells, loadCells, loadCellsFrom]
      · cases B <;> simp [Builtin.append_, run_underlying ds_under, sizeOf, typeInfo, hi, Builtin.lenOf, Builtin.firstCells, hnc, storeCells, loadCells, loadCellsFrom]
    refine ⟨v, w, ?_, by rw [List.append_nil]; exact hown, Below.refl _ _, fun _ _ _ _ h => h⟩
    unfold execOp
    simp only [ho, resolve, invoke, builtin, Sem.run_bind, Sem.run_pure, Result.andThen_ok, List.map_toArray, List.map_cons, List.map_nil, hs, hx, List.length_nil, hrun]
  · have hrne : dl r ≠ [] := by intro e; apply hrn; have := dl_len r; rw [e] at this; exact List.eq_nil_of_length_eq_zero (by simp at this; omega)
    obtain ⟨b, rfl, hd⟩ := Rd.news hr hrne
    obtain ⟨v', w', hrun, h2, h3, _⟩ := run_append_own_at (P := Tryd.prog) w base 22 oi.type 31 i0 _ 16 16 ds_under hi hz0 hz1 hz2 rfl (by decide) v l.length (dl l) hown
      b r.length c (dl r) (by rw [dl_len]) hd (dl_oneCell r) (by unfold maxLen; omega) (by omega) hb
    refine ⟨v', w', ?_, by rw [List.length_append, dl_app]; exact h2, (Below.refl base w).grown h3 hb (fun k hk => (World.ownsRow.lt hown k hk).1), fun k t cs hk hkb => (h3.block k hkb.lt (fun e => hk e.symm)).trans hkb⟩
    unfold execOp
    simp only [ho, resolve, invoke, builtin, Sem.run_bind, Sem.run_pure, Result.andThen_ok, List.map_toArray, List.map_cons, List.map_nil, hs, hx, hrun]
theorem opG_make {P : Program} {oi : Oper} {a : Act} {w : World} {Q : Exit → Act → World → Prop} {K : Act → World → Prop} (d : Option Tmp) (hd : oi.dst = d) (v : Value) (w' : World) (hrun : (execOp a.eval oi).run P w = .ok (.value v) w') (h : K (a.put d v) w') : oi.wp P a w K Q := by
  subst hd
  unfold Oper.wp
  rw [hrun]
  exact h
theorem below_size {base : Nat} {w w' : World} (h : Below base w w') (hb : base ≤ w.heap.size) : base ≤ w'.heap.size := Nat.le_trans hb h.size
theorem opG_appD {oi : Oper} {a : Act} {w : World} {Q : Exit → Act → World → Prop} {K : Act → World → Prop} (d : Option Tmp) (hd : oi.dst = d) (s x : Operand) (ho : oi.op = .call { callee := .builtin .append, args := #[s, x], argTypes := #[22, 22] })
    (base : Nat) (v : Value) (l : List Dg) (hs : a.eval s = v) (hown : w.ownsRow base 31 16 v l.length (dl l)) (B : Option Addr) (c : Nat) (r : List Dg) (hx : a.eval x = .slice B r.length c) (hr : RdD w B r) (hb : base ≤ w.heap.size) (hl : l.length + r.length ≤ 1000000)
    (h : ∀ v' w', w'.ownsRow base 31 16 v' (l ++ r).length (dl (l ++ r)) → Below base w w' → (∀ k t cs, v.ownBlock ≠ some k → Blk w k t cs → Blk w' k t cs) → K (a.put d v') w') : oi.wp Tryd.prog a w K Q := by
  obtain ⟨v', w', hrun, h1, h2, h3⟩ := exec_appD s x ho base v l hs hown B c r hx hr hb hl
  exact opG_make d hd v' w' hrun (h v' w' h1 h2 h3)
theorem rd_one (w : World) (d : Dg) : RdD (w.alloc (.cells (dc d).toArray 31)) (some ⟨w.heap.size, 0, none⟩) [d] := by
  have := Rd.of_new w (dl [d]) 31
  rw [dl_one] at this
  unfold RdD
  rw [dl_one]
  exact this
theorem rdD_blk {w w' : World} {b : Nat} {t : TypeId} {d : Dg} (hk : Blk w b t (dc d)) (h : ∀ k t cs, Blk w k t cs → k = b → Blk w' k t cs) : RdD w' (some ⟨b, 0, none⟩) [d] := by
  intro _
  refine ⟨b, 0, rfl, fun k u hu => ?_⟩
  rw [Nat.zero_add, (h b t _ hk rfl).cell k]
  rw [dl_one] at hu
  exact hu

set_option maxRecDepth 1000000 in
set_option maxHeartbeats 4000000 in
theorem rwith_any (A : Option Addr) (c : Nat) (l : List Dg) (d : Dg) (w : World) (hr : RdD w A l) (hl : l.length ≤ 100000) :
    Calls Tryd.prog 62 #[.slice A l.length c, dv d] w fun e w' => ∃ v, e = .returned v ∧ NewD w' (l ++ [d]) v ∧ Below w.heap.size w w' := by
  have hb0 := (Below.refl w.heap.size w).alloc (Nat.le_refl _) (.cells (dc d).toArray 31)
  have HK := Lib.hid (Blk.new w 31 (dc d))
  have HR := Lib.hid (hr.below hb0)
  have HB := Lib.hid hb0
  clear hr hb0
  unfold dv
  go_enter Tryd.func62, Tryd.ntmps62
  go_wp2
  generalize w.alloc (.cells (dc d).toArray 31) = wr at HK HR HB ⊢
  refine wp_region_held_drew (S := fun W => Below wr.heap.size wr W) (by kernel_rfl) (Below.refl _ _).drew (fun hS => ?_)
  generalize wr.drew = w1 at hS ⊢
  refine reg_takeG (i := 1) (some 6) rfl rfl rfl (by kernel_rfl) (by kernel_rfl) (by kernel_rfl) (.slice A l.length c) (fun _ _ _ h => h) (fun W hW => exec_move (.tmp 0) rfl _ rfl) hS ?_
  go_frame
  refine reg_takeG (i := 3) (some 8) rfl rfl rfl (by kernel_rfl) (by kernel_rfl) (by kernel_rfl) (dv d) (fun _ _ _ h => h) (fun W hW => exec_loadB (.tmp 3) rfl rfl (HK.out.next hW)) hS ?_
  go_frame
  have hz := hS.size
  refine reg_twoG (i := 0) (k := 4) rfl rfl rfl rfl (by kernel_rfl) ?_ ?_
  · refine opG_make (some 5) rfl _ _ (exec_emptyD rfl) ?_
    have hO := own_emptyD w1
    have hb2 := (Below.refl w1.heap.size w1).alloc (Nat.le_refl _) (.cells #[] 31)
    have hS2 := hS.trans (hb2.mono hz)
    refine ⟨hS2, ?_⟩
    go_frame
    generalize w1.alloc (.cells #[] 31) = w2 at hO hb2 hS2 ⊢
    have hz2 := hb2.size
    refine reg_twoG (i := 2) (k := 4) rfl rfl rfl rfl (by kernel_rfl) ?_ ?_
    · refine opG_appD (some 7) rfl (.tmp 5) (.tmp 6) rfl w1.heap.size _ [] rfl hO A c l rfl (HR.out.below hS2) hz2 (by simp; omega) ?_
      intro v7 w3 hO3 hb3 _
      rw [List.nil_append] at hO3
      have hS3 := hS2.trans (hb3.mono hz)
      have hz3 := below_size hb3 hz2
      refine ⟨hS3, ?_⟩
      go_frame
      refine reg_makeG (i := 4) (some 9) rfl rfl rfl (by kernel_rfl) (.slice (some ⟨w3.heap.size, 0, none⟩) 1 1) _ (exec_buildD1 (.tmp 8) rfl d rfl) (hS3.alloc hS3.size _) ?_
      go_frame
      have hR9 := rd_one w3 d
      have hb4 := (Below.refl w3.heap.size w3).alloc (Nat.le_refl _) (.cells (dc d).toArray 31)
      have hS4 := hS3.trans (hb4.mono hS3.size)
      have hO4 := own_below hO3 hb4
      have hz4 := Nat.le_trans hz3 hb4.size
      generalize w3.alloc (.cells (dc d).toArray 31) = w4 at hR9 hb4 hS4 hO4 hz4 ⊢
      refine reg_oneG (i := 5) rfl rfl (by kernel_rfl) ?_
      refine opG_appD (some 10) rfl (.tmp 7) (.tmp 9) rfl w1.heap.size v7 l rfl hO4 _ 1 [d] rfl hR9 hz4 (by simp; omega) ?_
      intro v10 w5 hO5 hb5 _
      have hS5 := hS4.trans (hb5.mono hz)
      refine ⟨hS5, ?_⟩
      go_frame
      refine reg_valueG (i := 6) (some 4) rfl rfl rfl (by kernel_rfl) v10 (exec_assign (.tmp 10) rfl _ rfl) hS5 ?_
      go_frame
      refine wpAnyH_done (by kernel_rfl) ?_ _
      have HN := Lib.hid (newD_of_row hO5)
      have HF := Lib.hid (HB.out.trans (hS5.mono HB.out.size))
      clear hS hz hO hb2 hS2 hz2 hO3 hb3 hS3 hz3 hR9 hb4 hS4 hO4 hz4 hO5 hb5 hS5
      go_wp2
      go_ret
      exact ⟨v10, rfl, HN.out, HF.out⟩
    · refine opG_make (some 9) rfl (.slice (some ⟨w2.heap.size, 0, none⟩) 1 1) _ (exec_buildD1 (.tmp 8) rfl d rfl) ?_
      have hK9 := Blk.new w2 31 (dc d)
      have hb3 := (Below.refl w2.heap.size w2).alloc (Nat.le_refl _) (.cells (dc d).toArray 31)
      have hS3 := hS2.trans (hb3.mono hS2.size)
      have hO3 := own_below hO hb3
      have hz3 := Nat.le_trans hz2 hb3.size
      refine ⟨hS3, ?_⟩
      go_frame
      generalize w2.alloc (.cells (dc d).toArray 31) = w3 at hK9 hb3 hS3 hO3 hz3 ⊢
      refine reg_oneG (i := 2) rfl rfl (by kernel_rfl) ?_
      refine opG_appD (some 7) rfl (.tmp 5) (.tmp 6) rfl w1.heap.size _ [] rfl hO3 A c l rfl (HR.out.below hS3) hz3 (by simp; omega) ?_
      intro v7 w4 hO4 hb4 hk4
      rw [List.nil_append] at hO4
      have hS4 := hS3.trans (hb4.mono hz)
      have hz4 := below_size hb4 hz3
      have hR9 := rdD_blk hK9 (fun k t cs hk hkb => hk4 k t cs (by rw [hkb]; exact own_lt_ne hO (Nat.le_refl _)) hk)
      refine ⟨hS4, ?_⟩
      go_frame
      refine reg_oneG (i := 5) rfl rfl (by kernel_rfl) ?_
      refine opG_appD (some 10) rfl (.tmp 7) (.tmp 9) rfl w1.heap.size v7 l rfl hO4 _ 1 [d] rfl hR9 hz4 (by simp; omega) ?_
      intro v10 w5 hO5 hb5 _
      have hS5 := hS4.trans (hb5.mono hz)
      refine ⟨hS5, ?_⟩
      go_frame
      refine reg_valueG (i := 6) (some 4) rfl rfl rfl (by kernel_rfl) v10 (exec_assign (.tmp 10) rfl _ rfl) hS5 ?_
      go_frame
      refine wpAnyH_done (by kernel_rfl) ?_ _
      have HN := Lib.hid (newD_of_row hO5)
      have HF := Lib.hid (HB.out.trans (hS5.mono HB.out.size))
      clear hS hz hO hb2 hS2 hz2 hK9 hO3 hb3 hS3 hz3 hR9 hb4 hk4 hS4 hO4 hz4 hO5 hb5 hS5
      go_wp2
      go_ret
      exact ⟨v10, rfl, HN.out, HF.out⟩
  · refine opG_make (some 9) rfl (.slice (some ⟨w1.heap.size, 0, none⟩) 1 1) _ (exec_buildD1 (.tmp 8) rfl d rfl) ?_
    have hK9 := Blk.new w1 31 (dc d)
    have hb2 := (Below.refl w1.heap.size w1).alloc (Nat.le_refl _) (.cells (dc d).toArray 31)
    have hS2 := hS.trans (hb2.mono hz)
    have hz2 := hb2.size
    refine ⟨hS2, ?_⟩
    go_frame
    generalize w1.alloc (.cells (dc d).toArray 31) = w2 at hK9 hb2 hS2 hz2 ⊢
    refine reg_makeG (i := 0) (some 5) rfl rfl rfl (by kernel_rfl) _ _ (exec_emptyD rfl) (hS2.alloc hS2.size _) ?_
    go_frame
    have hO := own_lower (own_emptyD w2) hz2
    have hb3 := (Below.refl w2.heap.size w2).alloc (Nat.le_refl _) (.cells #[] 31)
    have hS3 := hS2.trans (hb3.mono hS2.size)
    have hz3 := Nat.le_trans hz2 hb3.size
    have hK9' := hK9.next hb3
    have hne : (Value.slice (some ⟨w2.heap.size, 0, none⟩) 0 0).ownBlock ≠ some w1.heap.size := by
      have := hK9.lt
      intro he
      simp only [Value.ownBlock, Option.some.injEq] at he
      omega
    generalize w2.alloc (.cells #[] 31) = w3 at hO hb3 hS3 hz3 hK9' ⊢
    refine reg_oneG (i := 2) rfl rfl (by kernel_rfl) ?_
    refine opG_appD (some 7) rfl (.tmp 5) (.tmp 6) rfl w1.heap.size _ [] rfl hO A c l rfl (HR.out.below hS3) hz3 (by simp; omega) ?_
    intro v7 w4 hO4 hb4 hk4
    rw [List.nil_append] at hO4
    have hS4 := hS3.trans (hb4.mono hz)
    have hz4 := below_size hb4 hz3
    have hR9 := rdD_blk hK9' (fun k t cs hk hkb => hk4 k t cs (by rw [hkb]; exact hne) hk)
    refine ⟨hS4, ?_⟩
    go_frame
    refine reg_oneG (i := 5) rfl rfl (by kernel_rfl) ?_
    refine opG_appD (some 10) rfl (.tmp 7) (.tmp 9) rfl w1.heap.size v7 l rfl hO4 _ 1 [d] rfl hR9 hz4 (by simp; omega) ?_
    intro v10 w5 hO5 hb5 _
    have hS5 := hS4.trans (hb5.mono hz)
    refine ⟨hS5, ?_⟩
    go_frame
    refine reg_valueG (i := 6) (some 4) rfl rfl rfl (by kernel_rfl) v10 (exec_assign (.tmp 10) rfl _ rfl) hS5 ?_
    go_frame
    refine wpAnyH_done (by kernel_rfl) ?_ _
    have HN := Lib.hid (newD_of_row hO5)
    have HF := Lib.hid (HB.out.trans (hS5.mono HB.out.size))
    clear hS hz hO hb2 hS2 hz2 hK9 hK9' hne hb3 hS3 hz3 hR9 hb4 hk4 hS4 hO4 hz4 hO5 hb5 hS5
    go_wp2
    go_ret
    exact ⟨v10, rfl, HN.out, HF.out⟩
end Go.Proofs.YtfbemmeonkceiaaDoor
