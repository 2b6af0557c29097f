/- Tokens in memory; one is appended to a list. -/
import Derived.Test.YtggjgikpiljoiaaDoorL4
namespace Go.Proofs.YtggjgikpiljoiaaDoor
open Go.RowKit Hm Wm Lx

/-- Tokens as they lie in memory. -/
structure TI where
  k : Int
  a : Int
  s : ByteArray
  v : Int
def cT (x : TI) : List Value := [.int .i64 x.k, .int .i64 x.a, .string x.s, .int .i64 x.v]
def vT (x : TI) : Value := .agg (cT x).toArray
def toT (t : Tok) : TI := ⟨t.k, t.a, sb t.s, t.v⟩
def zT : List Value := [.int .i64 0, .int .i64 0, .string ByteArray.empty, .int .i64 0]
def tL (l : List TI) : List Value := l.flatMap cT
theorem tL_app (l m : List TI) : tL (l ++ m) = tL l ++ tL m := by simp [tL]
theorem tL_one (x : TI) : tL [x] = cT x := by simp [tL]
theorem tL_len (l : List TI) : (tL l).length = l.length * 4 := by
  induction l with
  | nil => rfl
  | cons x l ih =>
    have : tL (x :: l) = cT x ++ tL l := by simp [tL]
    rw [this, List.length_append, ih]
    simp [cT]
    omega
theorem t_one (x : TI) : ∀ v ∈ cT x, v.oneCell' = true := by
  intro v hv
  simp only [cT, List.mem_cons, List.not_mem_nil, or_false] at hv
  rcases hv with rfl | rfl | rfl | rfl <;> rfl
theorem tk_info : (Tryd.prog.info? 33).map (fun i => (i.zero, i.size, i.bytes)) = some (some (.agg zT.toArray), 4, 40) := by kernel_rfl
theorem ts_under : Tryd.prog.underlying 23 = some (.slice 33) := Tryd.underlying23
theorem tk_size : (Tryd.prog.info? 33).map (·.size) = some 4 := by kernel_rfl
theorem tk_zero : (Tryd.prog.info? 33).map (·.zero) = some (some (.agg zT.toArray)) := by kernel_rfl
theorem run_buildT (w : World) (x : TI) : (Instr.buildSlice 23 1 #[(0, vT x)]).run Tryd.prog w = .ok (.slice (some ⟨w.heap.size, 0, none⟩) 1 1) (w.alloc (.cells (cT x).toArray 33)) := by kernel_rfl
/-- What an append to a list of tokens leaves as it is. -/
def isC : Obj → Bool
  | .cells _ _ _ => true
  | _ => false
def Kq (o : Obj) : Prop := isC o = false ∨ ∃ cs T fr, o = .cells cs T fr ∧ (T ≠ 33 ∨ cs.size = 4)
def Keeps (W W' : World) : Prop := W.heap.size ≤ W'.heap.size ∧ ∀ (k : Nat) (o : Obj), W.heap[k]? = some o → Kq o → W'.heap[k]? = some o
theorem Keeps.trans {X Y Z : World} (h : Keeps X Y) (k : Keeps Y Z) : Keeps X Z := ⟨Nat.le_trans h.1 k.1, fun i o h1 h2 => k.2 i o (h.2 i o h1 h2) h2⟩
theorem Keeps.below {W W' : World} (h : Below W.heap.size W W') : Keeps W W' := ⟨h.size, fun k _ h1 _ => (h.block k (Array.getElem?_eq_some_iff.1 h1).1).trans h1⟩
theorem Keeps.blk {W W' : World} {g : Nat} {T : TypeId} {cs : List Value} (h : Keeps W W') (hb : Blk W g T cs) (hs : T ≠ 33 ∨ cs.length = 4) : Blk W' g T cs :=
  h.2 g _ hb (.inr ⟨_, _, _, rfl, by simpa using hs⟩)
/-- The same but for one block. -/
def KeepsX (g : Nat) (W W' : World) : Prop := W.heap.size ≤ W'.heap.size ∧ ∀ (k : Nat) (o : Obj), W.heap[k]? = some o → Kq o → k ≠ g → W'.heap[k]? = some o
theorem KeepsX.refl (g : Nat) (W : World) : KeepsX g W W := ⟨Nat.le_refl _, fun _ _ h _ _ => h⟩
theorem KeepsX.trans {g : Nat} {X Y Z : World} (h : KeepsX g X Y) (k : KeepsX g Y Z) : KeepsX g X Z := ⟨Nat.le_trans h.1 k.1, fun i o h1 h2 h3 => k.2 i o (h.2 i o h1 h2 h3) h2 h3⟩
theorem Keeps.x {W W' : World} (g : Nat) (h : Keeps W W') : KeepsX g W W' := ⟨h.1, fun k o h1 h2 _ => h.2 k o h1 h2⟩
theorem KeepsX.only {g : Nat} {W W' : World} (h : Only g W W') : KeepsX g W W' := ⟨Nat.le_of_eq h.size.symm, fun k _ h1 _ h3 => (h.block k h3).trans h1⟩
theorem KeepsX.blk {W W' : World} {g k : Nat} {T : TypeId} {cs : List Value} (h : KeepsX g W W') (hb : Blk W k T cs) (hs : T ≠ 33 ∨ cs.length = 4) (hk : k ≠ g) : Blk W' k T cs :=
  h.2 k _ hb (.inr ⟨_, _, _, rfl, by simpa using hs⟩) hk
def Row (W : World) (base : Nat) (v : Value) (l : List TI) : Prop := W.ownsRow base 33 4 v l.length (tL l) ∧ (l = [] → v = .slice none 0 0)
theorem Row.nil (W : World) (base : Nat) : Row W base (.slice none 0 0) [] := ⟨World.ownsRow_nil _ _ _ _, fun _ => rfl⟩
theorem Row.form {W : World} {base : Nat} {v : Value} {l : List TI} (h : Row W base v l) : ∃ A c, v = .slice A l.length c ∧ l.length ≤ c := by
  rcases h.1.2 with ⟨rfl, h0⟩ | ⟨g, cap, cur, rfl, _, _, h1, _⟩
  · exact ⟨none, 0, by rw [h0], by omega⟩
  · exact ⟨_, cap, rfl, h1⟩
theorem Row.one {W : World} {base : Nat} {v : Value} {l : List TI} (h : Row W base v l) : v.oneCell' = true ∧ v.cells = #[v] := by
  obtain ⟨A, c, rfl, _⟩ := h.form
  exact ⟨rfl, rfl⟩
theorem Row.below {W W' : World} {base : Nat} {v : Value} {l : List TI} (h : Row W base v l) (hb : Below W.heap.size W W') : Row W' base v l := ⟨own_below h.1 hb, h.2⟩
theorem Row.only {W W' : World} {base g : Nat} {v : Value} {l : List TI} {T : TypeId} {cs : List Value} (h : Row W base v l) (ho : Only g W W') (hg : Blk W g T cs) (hT : T ≠ 33) : Row W' base v l := by
  refine ⟨⟨h.1.1, ?_⟩, h.2⟩
  rcases h.1.2 with h0 | ⟨b, cap, cur, hv, h1, h2, h3⟩
  · exact .inl h0
  · refine .inr ⟨b, cap, cur, hv, h1, ?_, h3⟩
    rw [ho.block b ?_]
    · exact h2
    · rintro rfl
      rw [show W.heap[b]? = some _ from hg] at h2
      injection h2 with h2
      injection h2 with _ e _
      exact hT e
set_option maxRecDepth 100000 in
/-- One token is appended: rows with room are written, all else stays. -/
theorem run_pushT (ty : TypeId) (W : World) (base : Nat) (v : Value) (l : List TI) (x : TI) (h : Row W base v l) (hb : base ≤ W.heap.size) (hl : l.length ≤ 2000000) :
    ∃ v' w', (Builtin.append_ #[23, 23] ty #[v, .slice (some ⟨W.heap.size, 0, none⟩) 1 1]).run Tryd.prog (W.alloc (.cells (cT x).toArray 33)) = .ok v' w' ∧ Row w' base v' (l ++ [x]) ∧ Keeps W w' ∧ Below base W w' := by
  obtain ⟨i0, hi, hz0, hz1, hz2⟩ := info_parts tk_info
  obtain ⟨W1, hW1⟩ : ∃ W1, W.alloc (.cells (cT x).toArray 33) = W1 := ⟨_, rfl⟩
  have hown : W1.ownsRow base 33 4 v l.length (tL l) := by rw [← hW1]; exact World.ownsRow.alloc h.1 _
  have hx : Blk W1 W.heap.size 33 (cT x) := by rw [← hW1]; exact Blk.new W _ _
  have hb1 : Below W.heap.size W W1 := by rw [← hW1]; exact (Below.refl _ _).alloc (Nat.le_refl _) _
  have hcell : ∀ j u, (cT x)[j]? = some u → W1.cell? ((⟨W.heap.size, 0, none⟩ : Addr).add j) = some u := by
    intro j u hu
    rw [Addr.add_mid, Nat.zero_add, hx.cell j]
    exact hu
  have hs1 := hb1.size
  have hrun := run_append_own (P := Tryd.prog) W1 base 23 ty 33 i0 (.agg zT.toArray) 4 40 ts_under hi hz0 hz1 hz2 rfl (by decide) v l.length (tL l) hown ⟨W.heap.size, 0, none⟩ 1 1 (cT x) rfl hcell (t_one x) (by unfold maxLen; omega) (by omega) (by omega)
  obtain ⟨v', w', r1, r2, r3, r4⟩ := hrun
  have hrow : Row w' base v' (l ++ [x]) := ⟨by rw [List.length_append, tL_app, tL_one]; exact r2, fun e => by simp at e⟩
  have hbel : Below base W w' := ((hb1.mono hb).grown r3 (by omega) (fun k hk => (World.ownsRow.lt h.1 k hk).1))
  rw [hW1]
  refine ⟨v', w', r1, hrow, ?_, hbel⟩
  refine (Keeps.below hb1).trans ⟨r3.size, fun k o hk hq => ?_⟩
  by_cases hne : some k ≠ v.ownBlock
  · exact (r3.block k (Array.getElem?_eq_some_iff.1 hk).1 hne).trans hk
  · have hne' : some k = v.ownBlock := Classical.not_not.1 hne
    rcases hown.2 with ⟨rfl, _⟩ | ⟨g, cap, cur, rfl, hbg, hg, hnc, hcm, hcs, htake⟩
    · simp [Value.ownBlock] at hne'
    · obtain rfl : k = g := by simpa [Value.ownBlock] using hne'
      rw [hg] at hk
      injection hk with hk
      subst hk
      rcases hq with hq | ⟨cs, T, fr, e, hq⟩
      · cases hq
      · injection e with e1 e2 e3
        subst e1 e2
        have hsz : cur.size = 4 := by
          rcases hq with hq | hq
          · exact absurd rfl hq
          · exact hq
        have hl0 : l ≠ [] := by
          intro e
          have := h.2 e
          cases this
        have hl1 : 0 < l.length := List.length_pos_iff.2 hl0
        have hcap : cap = 1 := by omega
        have hfull : cap < l.length + 1 := by omega
        have holds : ∀ j u, (tL l)[j]? = some u → W1.cell? ((⟨k, 0, none⟩ : Addr).add j) = some u := World.ownsRow.cells (g := k) hown rfl
        have hr := run_append_grow (P := Tryd.prog) W1 23 ty 33 i0 (.agg zT.toArray) ts_under hi hz0 ⟨k, 0, none⟩ l.length cap (tL l) (by rw [hz1, tL_len]) holds ⟨W.heap.size, 0, none⟩ 1 1 (cT x) (by rw [hz1]; rfl) hcell hfull (by omega) (growslice_fits (by omega) (by rw [hz2]; omega))
        rw [hr] at r1
        injection r1 with r1 r1'
        rw [← r1']
        exact (Below.heap_alloc W1.drew _ k (Array.getElem?_eq_some_iff.1 hg).1).trans hg
theorem exec_push {oi : Oper} {a : Act} {w w' : World} (s y : Operand) (ho : oi.op = .call { callee := .builtin .append, args := #[s, y], argTypes := #[23, 23] }) (vs vy v' : Value) (hs : a.eval s = vs) (hy : a.eval y = vy)
    (hrun : (Builtin.append_ #[23, 23] oi.type #[vs, vy]).run Tryd.prog w = .ok v' w') : (execOp a.eval oi).run Tryd.prog w = .ok (.value v') w' := by
  subst hs hy
  simp [execOp, ho, resolve, invoke, builtin, hrun, Result.andThen]
end Go.Proofs.YtggjgikpiljoiaaDoor
