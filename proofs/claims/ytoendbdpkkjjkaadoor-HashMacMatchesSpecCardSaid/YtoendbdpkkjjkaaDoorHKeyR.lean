/- The reference's block of a key, combined blocks and keyed hash. -/
import Derived.Test.YtoendbdpkkjjkaaDoorHRSum
import Derived.Deep.AppendSrc
namespace Go.Proofs.YtoendbdpkkjjkaaDoor
open Go.RowKit Hm Wm

/-- An own row of bytes whose mark, if it bears one, lies behind its cells. -/
def OwnF (w : World) (base : Nat) (v : Value) (l : List UInt8) : Prop :=
  ∃ g cap cur fr, v = .slice (some ⟨g, 0, none⟩) l.length cap ∧ base ≤ g ∧ w.heap[g]? = some (.cells cur 5 fr) ∧ (fr.2 ≤ fr.1 ∨ cur.size ≤ fr.1) ∧ l.length ≤ cap ∧ cap ≤ maxLen ∧ cur.size = cap ∧ cur.toList.take l.length = bc l
theorem OwnF.next {w w' : World} {base : Nat} {v : Value} {l : List UInt8} (h : OwnF w base v l) (hb : Below w.heap.size w w') : OwnF w' base v l := by
  obtain ⟨g, cap, cur, fr, hv, hg, hh, rest⟩ := h
  exact ⟨g, cap, cur, fr, hv, hg, (hb.block g (Array.getElem?_eq_some_iff.1 hh).1).trans hh, rest⟩
theorem OwnF.out {w : World} {base : Nat} {v : Value} {l : List UInt8} (h : OwnF w base v l) : ∃ A c, v = .slice A l.length c ∧ Rd w A (bc l) ∧ l.length ≤ c := by
  obtain ⟨g, cap, cur, fr, rfl, _, hh, _, hle, _, hs, ht⟩ := h
  refine ⟨_, cap, rfl, fun _ => ⟨g, 0, rfl, fun k u hu => ?_⟩, hle⟩
  rw [cell_of_row w g (0 + k) cur _ fr hh, Nat.zero_add, ← Array.getElem?_toList]
  rw [← ht, List.getElem?_take] at hu
  split at hu
  · exact hu
  · cases hu
theorem run_pushF {w : World} (ty : TypeId) (base : Nat) (v : Value) (l : List UInt8) (h : OwnF w base v l) (b : UInt8) (hb : base ≤ w.heap.size) (hl : l.length ≤ 1000000) :
    ∃ v' w', (Builtin.append_ #[22, 22] ty #[v, .slice (some ⟨w.heap.size, 0, none⟩) 1 1]).run Tryd.prog (w.alloc (.cells #[.int .u8 b.toNat] 5)) = .ok v' w' ∧ OwnF w' base v' (l ++ [b]) ∧ Below base w w' := by
  obtain ⟨i0, hi, hz0, hz1, hz2⟩ := info_parts u8_info
  obtain ⟨g, cap, cur, fr, rfl, hg, hh, hfr, hle, hm, hs, ht⟩ := h
  have hu : Tryd.prog.underlying 22 = some (.slice 5) := Tryd.underlying22
  have hlt : g < w.heap.size := (Array.getElem?_eq_some_iff.1 hh).1
  obtain ⟨wa, hwa⟩ : ∃ wa, w.alloc (.cells #[.int .u8 b.toNat] 5) = wa := ⟨_, rfl⟩
  have hha : wa.heap[g]? = some (.cells cur 5 fr) := by rw [← hwa]; exact (Below.heap_alloc w _ g hlt).trans hh
  have hcn : wa.cell? ⟨w.heap.size, 0, none⟩ = some (.int .u8 b.toNat) := by rw [← hwa, cell_of_row _ w.heap.size 0 _ _ (0, 0) (heap_alloc_new w _)]; rfl
  have hnews : ∀ j u, [Value.int .u8 b.toNat][j]? = some u → wa.cell? ((⟨w.heap.size, 0, none⟩ : Addr).add j) = some u := by
    intro j u hj
    rcases j with _ | j
    · rw [Addr.add_mid, Nat.zero_add, hcn]; simpa using hj
    · simp at hj
  have hone : ∀ u ∈ [Value.int .u8 b.toNat], u.oneCell' = true := by intro u hu; simp at hu; subst hu; rfl
  have hba : Below base w wa := by rw [← hwa]; exact (Below.refl base w).alloc hb _
  have hsa : wa.heap.size = w.heap.size + 1 := by rw [← hwa]; simp
  rw [hwa]
  by_cases hroom : l.length + 1 ≤ cap
  · have hsrc : Src Tryd.prog i0.size 22 (.slice (some ⟨w.heap.size, 0, none⟩) 1 1) 1 [.int .u8 b.toNat] wa := Src.ofSlice wa hu ⟨w.heap.size, 0, none⟩ 1 1 _ (by rw [hz1]; rfl) hnews hone
    have hrun := run_append_room_src (P := Tryd.prog) wa 22 22 ty 5 i0 hu hi g 0 l.length cap _ 1 _ hsrc hroom
      (by
        intro j hj
        simp at hj
        subst hj
        rw [hz1, cell_of_row wa g _ cur _ fr hha]
        simp; omega)
      (by
        intro j hj
        simp at hj
        subst hj
        rw [hz1]
        simp [World.frozen?, hha]
        omega)
    rw [hz1, Nat.zero_add, Nat.mul_one] at hrun
    have hset : wa.setCells g l.length [.int .u8 b.toNat] = wa.setCell ⟨g, l.length, none⟩ (.int .u8 b.toNat) := rfl
    rw [hset] at hrun
    refine ⟨_, _, hrun, ⟨g, cap, cur.setIfInBounds l.length (.int .u8 b.toNat), fr, by rw [List.length_append]; rfl, hg, ?_, by rw [Array.size_setIfInBounds]; exact hfr, by rw [List.length_append]; exact hroom, hm, by rw [Array.size_setIfInBounds]; exact hs, ?_⟩, hba.setCell (p := ⟨g, l.length, none⟩) hg _⟩
    · simp [World.setCell, Array.getElem?_modify, hha]
    · rw [Array.toList_setIfInBounds, List.length_append, bc_app, ← ht]
      have hlc : l.length < cur.toList.length := by simp; omega
      show (cur.toList.set l.length _).take (l.length + 1) = _
      rw [List.take_succ_eq_append_getElem (by simp; omega), List.take_set_of_le (Nat.le_refl _)]
      simp [bc]
  · have holds : ∀ j u, (bc l)[j]? = some u → wa.cell? ((⟨g, 0, none⟩ : Addr).add j) = some u := by
      intro j u hj
      rw [Addr.add_mid, Nat.zero_add, cell_of_row wa g j cur _ fr hha, ← Array.getElem?_toList]
      rw [← ht, List.getElem?_take] at hj
      split at hj
      · exact hj
      · cases hj
    have hrun := run_append_grow (P := Tryd.prog) wa 22 ty 5 i0 _ hu hi hz0 ⟨g, 0, none⟩ l.length cap (bc l) (by rw [bc_len, hz1, Nat.mul_one]) holds ⟨w.heap.size, 0, none⟩ 1 1 [.int .u8 b.toNat] (by rw [hz1]; rfl) hnews (by omega) (by omega) (growslice_fits (by omega) (by rw [hz2]; omega))
    have hge := grownCap_ge wa (l.length + 1) cap 5
    have hcm := grownCap_le_maxLen wa (l.length + 1) cap 5 (by unfold maxLen; omega)
    refine ⟨_, _, hrun, ⟨wa.heap.size, _, _, (0, 0), by rw [List.length_append]; rfl, by omega, heap_alloc_new wa.drew _, Or.inl (Nat.le_refl _), by rw [List.length_append]; exact hge, hcm, ?_, ?_⟩, ?_⟩
    · simp [size_zeroCells, Value.cells, bc_len]; omega
    · simp only [Array.toList_append, List.append_assoc]
      rw [← List.append_assoc, List.length_append]
      show List.take _ ((bc l ++ bc [b]) ++ _) = _
      rw [← bc_app, List.take_append_of_le_length (by rw [bc_len, List.length_append]; exact Nat.le_refl _), List.take_of_length_le (by rw [bc_len, List.length_append]; exact Nat.le_refl _)]
    · exact (hba.drew).alloc (by show base ≤ wa.heap.size; omega) _
theorem wpList_pushF {w : World} {ops : Array Oper} {rest : List Oper} {o : Oper} {a : Act} {Q : Exit → Act → World → Prop} (hgd : o.guard = none) (s x : Operand)
    (ho : o.op = .call { callee := .builtin .append, args := #[s, x], argTypes := #[22, 22] })
    (base : Nat) (v : Value) (l : List UInt8) (hs : a.eval s = v) (hown : OwnF w base v l) (u : Int) (b : UInt8) (hu : u = b.toNat) (hb : base ≤ w.heap.size) (hl : l.length ≤ 1000000)
    (hx : a.eval x = .slice (some ⟨w.heap.size, 0, none⟩) 1 1)
    (h : ∀ v' w', OwnF w' base v' (l ++ [b]) → Below base w w' → wpList Tryd.prog ops Q rest (a.put o.dst v') w') :
    wpList Tryd.prog ops Q (o :: rest) a (w.alloc (.cells #[.int .u8 u] 5)) := by
  subst hu
  obtain ⟨v', w', hrun, h1, h2⟩ := run_pushF o.type base v l hown b hb hl
  refine wpList_plain hgd fun K hK => ?_
  unfold Oper.wp execOp
  simp only [ho, resolve, invoke, builtin, Sem.run_bind, Sem.run_pure, Result.andThen_ok, List.map_toArray, List.map_cons, List.map_nil, hs, hx, hrun]
  exact hK _ _ (h v' w' h1 h2)
/-- A string turned into bytes: what the call owns. -/
theorem run_bytesF (w : World) (s : ByteArray) (hs : s.size ≤ 1000000) : ∃ v w', (convert 9 22 (.string s)).run Tryd.prog w = .ok v w' ∧ OwnF w' w.heap.size v s.data.toList ∧ Below w.heap.size w w' := by
  have hl : s.data.toList.length = s.size := Array.length_toList
  have hge := grownCap_ge w s.size 0 5
  refine ⟨.slice (some ⟨w.heap.size, 0, none⟩) s.size (grownCap w s.size 0 5), Lib.bytesWorld w 5 s, Lib.run_convert_string_bytes w 9 22 5 s Tryd.underlying9 Tryd.underlying22 Tryd.underlying5, ?_, ?_⟩
  · refine ⟨w.heap.size, grownCap w s.size 0 5, Lib.bytesCells w 5 s, _, by rw [hl], Nat.le_refl _, Lib.bytesWorld_at_new w _ s, Or.inr (Nat.le_refl _), by rw [hl]; exact hge, grownCap_le_maxLen w s.size 0 5 (by unfold maxLen; omega), ?_, ?_⟩
    · have : s.data.size = s.size := rfl
      simp [Lib.bytesCells]; omega
    · simp only [Lib.bytesCells, Array.toList_append, Array.toList_map]
      rw [List.take_append_of_le_length (by simp), List.take_of_length_le (by simp)]
      rfl
  · exact ⟨rfl, rfl, rfl, by rw [Lib.bytesWorld_size]; omega, fun j hj => Lib.bytesWorld_at_old w _ s j hj⟩
theorem wpList_bytesF {w : World} {ops : Array Oper} {rest : List Oper} {o : Oper} {a : Act} {Q : Exit → Act → World → Prop} (hw : Region.wanted o (yielded ops a.tmps) = true) (x : Operand) (ho : o.op = .convert 9 22 x) (s : ByteArray) (hx : a.eval x = .string s) (hs : s.size ≤ 1000000)
    (h : ∀ v w', OwnF w' w.heap.size v s.data.toList → Below w.heap.size w w' → wpList Tryd.prog ops Q rest (a.put o.dst v) w') : wpList Tryd.prog ops Q (o :: rest) a w := by
  obtain ⟨v, w', hr, h1, h2⟩ := run_bytesF w s hs
  refine wpList_want hw fun K hK => ?_
  unfold Oper.wp execOp
  simp only [ho, hx, Sem.run_bind, hr, Result.andThen_ok]
  exact hK _ _ (h v w' h1 h2)
end Go.Proofs.YtoendbdpkkjjkaaDoor
