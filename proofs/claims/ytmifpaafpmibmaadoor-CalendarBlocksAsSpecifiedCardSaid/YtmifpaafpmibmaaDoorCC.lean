/- Blocks appended to a list. -/
import Derived.Test.YtmifpaafpmibmaaDoorCB
import Derived.Great.BuildSlice
namespace Go.Proofs.YtmifpaafpmibmaaDoor
open Go.RowKit Hm Wm Cm
attribute [local go_sem] Oper.semAt_some

/-- The cells of a list of blocks. -/
def bL (l : List Bk) : List Value := l.flatMap fun x => b3 (x.1 : Nat) (x.2.1 : Nat) (x.2.2 : Nat)
theorem bL_app (l m : List Bk) : bL (l ++ m) = bL l ++ bL m := by simp [bL]
theorem bL_one (x : Bk) : bL [x] = b3 (x.1 : Nat) (x.2.1 : Nat) (x.2.2 : Nat) := by simp [bL]
theorem bL_len (l : List Bk) : (bL l).length = l.length * 3 := by
  induction l with
  | nil => rfl
  | cons x l ih =>
    have : bL (x :: l) = b3 (x.1 : Nat) (x.2.1 : Nat) (x.2.2 : Nat) ++ bL l := by simp [bL]
    rw [this, List.length_append, ih]
    simp
    omega
theorem bn_info : (Tryd.prog.info? 23).map (fun i => (i.zero, i.size, i.bytes)) = some (some (.agg bZ.toArray), 3, 24) := by kernel_rfl
theorem bs_under : Tryd.prog.underlying 33 = some (.slice 23) := Tryd.underlying33
theorem run_buildB (w : World) (l f t : Int) : (Instr.buildSlice 33 1 #[(0, .agg #[.int .i64 l, .int .i64 f, .int .i64 t])]).run Tryd.prog w = .ok (.slice (some ⟨w.heap.size, 0, none⟩) 1 1) (w.alloc (.cells #[.int .i64 l, .int .i64 f, .int .i64 t] 23)) := by kernel_rfl
theorem run_store_var {w : World} {g : Nat} {T : TypeId} {v0 : Value} (ty : TypeId) (v : Value) (hb : Blk w g T [v0]) (hi : (Tryd.prog.info? ty).map (·.size) = some 1) (h1 : v.oneCell' = true) (hv : v.cells = #[v]) :
    (Instr.storeAt ty (.pointer (some ⟨g, 0, none⟩)) v).run Tryd.prog w = .ok () (w.setRow g #[v]) := by
  have h := run_storeCells_at Tryd.prog g 0 T [v] 0 #[v0] w hb (by simp) (by intro u hu; rw [List.mem_singleton.1 hu]; exact h1)
  cases hq : Tryd.prog.info? ty with
  | none => simp [hq] at hi
  | some i =>
    have hs : i.size = 1 := by simpa [hq] using hi
    simp at h
    simp [Instr.storeAt, Instr.sureAddr, storeVar, sizeOf, typeInfo, hq, hv, hs, h]

/-- What an append to a list of blocks leaves as it is. -/
def Kq (o : Obj) : Prop := o.isCells = false ∨ ∃ cs T fr, o = .cells cs T fr ∧ (T ≠ 23 ∨ cs.size = 3)
def Keeps (W W' : World) : Prop := W.heap.size ≤ W'.heap.size ∧ ∀ (k : Nat) (o : Obj), W.heap[k]? = some o → Kq o → W'.heap[k]? = some o
theorem int_ne : 3 ≠ 23 := by decide
theorem Sm.kq {o : Obj} (h : Sm o) : Kq o := by
  obtain ⟨cs, T, rfl, h | h⟩ := h
  · subst h; exact .inr ⟨cs, _, _, rfl, .inl int_ne⟩
  · exact .inr ⟨cs, _, _, rfl, .inr h.2⟩
theorem Keeps.trans {X Y Z : World} (h : Keeps X Y) (k : Keeps Y Z) : Keeps X Z := ⟨Nat.le_trans h.1 k.1, fun i o h1 h2 => k.2 i o (h.2 i o h1 h2) h2⟩
theorem Keeps.below {W W' : World} (h : Below W.heap.size W W') : Keeps W W' := ⟨h.size, fun k _ h1 _ => (h.block k (Array.getElem?_eq_some_iff.1 h1).1).trans h1⟩
theorem Keeps.others {W W' : World} (h : Keeps W W') : KeepsOthers W W' := ⟨h.1, fun k o h1 h2 => h.2 k o h1 (.inl h2)⟩
theorem Keeps.kp {B : Nat} {gs : Nat → Prop} {W W' : World} (h : Keeps W W') (hb : Below B W W') : Kp B gs W W' := ⟨hb, fun k o h1 h2 _ => h.2 k o h1 h2.kq⟩
theorem Keeps.blk {W W' : World} {g : Nat} {T : TypeId} {cs : List Value} (h : Keeps W W') (hb : Blk W g T cs) (hs : T ≠ 23 ∨ cs.length = 3) : Blk W' g T cs :=
  h.2 g _ hb (.inr ⟨_, _, _, rfl, by simpa using hs⟩)
def Row (W : World) (base : Nat) (v : Value) (l : List Bk) : Prop := W.ownsRow base 23 3 v l.length (bL l) ∧ (l = [] → v = .slice none 0 0)
theorem Row.nil (W : World) (base : Nat) : Row W base (.slice none 0 0) [] := ⟨World.ownsRow_nil _ _ _ _, fun _ => rfl⟩
theorem Row.form {W : World} {base : Nat} {v : Value} {l : List Bk} (h : Row W base v l) : ∃ A c, v = .slice A l.length c ∧ l.length ≤ c := by
  rcases h.1.2 with ⟨rfl, h0⟩ | ⟨g, cap, cur, rfl, _, _, h1, _⟩
  · exact ⟨none, 0, by rw [h0], by omega⟩
  · exact ⟨_, cap, rfl, h1⟩
/-- One block is appended: rows with room are written, all else stays. -/
theorem run_pushB (ty : TypeId) (W : World) (base : Nat) (v : Value) (l : List Bk) (x : Bk) (h : Row W base v l) (hb : base ≤ W.heap.size) (hl : l.length ≤ 2000000) :
    ∃ v' w', (Builtin.append_ #[33, 33] ty #[v, .slice (some ⟨W.heap.size, 0, none⟩) 1 1]).run Tryd.prog (W.alloc (.cells #[.int .i64 (x.1 : Nat), .int .i64 (x.2.1 : Nat), .int .i64 (x.2.2 : Nat)] 23)) = .ok v' w' ∧ Row w' base v' (l ++ [x]) ∧ Keeps W w' ∧ Below base W w' := by
  obtain ⟨i0, hi, hz0, hz1, hz2⟩ := info_parts bn_info
  obtain ⟨W1, hW1⟩ : ∃ W1, W.alloc (.cells #[.int .i64 (x.1 : Nat), .int .i64 (x.2.1 : Nat), .int .i64 (x.2.2 : Nat)] 23) = W1 := ⟨_, rfl⟩
  have hown : W1.ownsRow base 23 3 v l.length (bL l) := by rw [← hW1]; exact World.ownsRow.alloc h.1 _
  have hx : Blk W1 W.heap.size 23 (b3 (x.1 : Nat) (x.2.1 : Nat) (x.2.2 : Nat)) := by rw [← hW1]; exact Blk.new W _ _
  have hb1 : Below W.heap.size W W1 := by rw [← hW1]; exact (Below.refl _ _).alloc (Nat.le_refl _) _
  have hcell : ∀ j u, (b3 (x.1 : Nat) (x.2.1 : Nat) (x.2.2 : Nat))[j]? = some u → W1.cell? ((⟨W.heap.size, 0, none⟩ : Addr).add j) = some u := by
    intro j u hu
    rw [Addr.add_mid, Nat.zero_add, hx.cell j]
    exact hu
  have hs1 := hb1.size
  have hrun := run_append_own (P := Tryd.prog) W1 base 33 ty 23 i0 (.agg bZ.toArray) 3 24 bs_under hi hz0 hz1 hz2 rfl (by decide) v l.length (bL l) hown ⟨W.heap.size, 0, none⟩ 1 1 (b3 (x.1 : Nat) (x.2.1 : Nat) (x.2.2 : Nat)) rfl hcell (b_one _ _ _) (by unfold maxLen; omega) (by omega) (by omega)
  obtain ⟨v', w', r1, r2, r3, r4⟩ := hrun
  have hrow : Row w' base v' (l ++ [x]) := ⟨by rw [List.length_append, bL_app, bL_one]; exact r2, fun e => by simp at e⟩
  have hbel : Below base W w' := ((hb1.mono hb).grown r3 (by omega) (fun k hk => (World.ownsRow.lt h.1 k hk).1))
  rw [hW1]
  refine ⟨v', w', r1, hrow, ?_, hbel⟩
  refine (Keeps.below hb1).trans ⟨r3.size, fun k o hk hq => ?_⟩
  by_cases hne : some k ≠ v.ownBlock
  · exact (r3.block k (Array.getElem?_eq_some_iff.1 hk).1 hne).trans hk
  · have hne' : some k = v.ownBlock := Classical.not_not.1 hne
    rcases hown.2 with ⟨rfl, _⟩ | ⟨g, cap, cur, rfl, hbg, hg, hnc, hcm, hcs, htake⟩
    · simp [Value.ownBlock] at hne'
    · obtain rfl : k = g := by simpa [Value.ownBlock] using hne'
      rw [hg] at hk
      injection hk with hk
      subst hk
      rcases hq with hq | ⟨cs, T, fr, e, hq⟩
      · cases hq
      · injection e with e1 e2 e3
        subst e1 e2
        have hsz : cur.size = 3 := by
          rcases hq with hq | hq
          · exact absurd rfl hq
          · exact hq
        have hl0 : l ≠ [] := by
          intro e
          have := h.2 e
          cases this
        have hl1 : 0 < l.length := List.length_pos_iff.2 hl0
        have hcap : cap = 1 := by omega
        have hfull : cap < l.length + 1 := by omega
        have holds : ∀ j u, (bL l)[j]? = some u → W1.cell? ((⟨k, 0, none⟩ : Addr).add j) = some u := World.ownsRow.cells (g := k) hown rfl
        have hr := run_append_grow (P := Tryd.prog) W1 33 ty 23 i0 (.agg bZ.toArray) bs_under hi hz0 ⟨k, 0, none⟩ l.length cap (bL l) (by rw [hz1, bL_len]) holds ⟨W.heap.size, 0, none⟩ 1 1 (b3 (x.1 : Nat) (x.2.1 : Nat) (x.2.2 : Nat)) (by rw [hz1]; rfl) hcell hfull (by omega) (growslice_fits (by omega) (by rw [hz2]; omega))
        rw [hr] at r1
        injection r1 with r1 r1'
        rw [← r1']
        exact (Below.heap_alloc W1.drew _ k (Array.getElem?_eq_some_iff.1 hg).1).trans hg
end Go.Proofs.YtmifpaafpmibmaaDoor
