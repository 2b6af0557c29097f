/- The walk of MerkleProofsAreAccepted. -/
import Derived.Test.YtfbemmeonkceiaaDoorKAcc
namespace Go.Proofs.YtfbemmeonkceiaaDoor
open Go.RowKit Hm Wm

/-- The path of a proof of Consistency. -/
noncomputable def pathC (l : List Dg) (m : Nat) : List Dg := if m = 0 then [] else consD l m true
theorem consP_any (l : List Dg) (A : Option Addr) (c m : Nat) (w : World) (hg : All w) (hr : RdD w A l) (hc : l.length ≤ c) (hn : l.length ≤ 40) (hm : m ≤ l.length) :
    Calls Tryd.prog 11 #[.slice A l.length c, .int .i64 m] w fun e w' => ∃ v, e = .returned (.tuple #[v, .int .i64 0]) ∧ NewD w' (pathC l m) v ∧ Below w.heap.size w w' := by
  unfold pathC
  by_cases h0 : m = 0
  · subst h0
    rw [if_pos rfl]
    refine (cons_zero l A c w).mono ?_
    rintro e w' ⟨rfl, rfl⟩
    exact ⟨_, rfl, ⟨none, 0, rfl, Rd.nil _ _, Nat.le_refl _⟩, Below.refl _ _⟩
  · rw [if_neg h0]
    exact cons_any l A c m w hg.1 hr hc (by omega) (by omega) hm
theorem ccP_any (l : List Dg) (m : Nat) (old root : Dg) (A : Option Addr) (c : Nat) (w : World) (hg : All w) (hr : RdD w A (pathC l m)) (hn : l.length ≤ 40) (hm : m ≤ l.length) :
    Calls Tryd.prog 30 #[.int .i64 m, .int .i64 l.length, dv old, dv root, .slice A (pathC l m).length c] w fun e w' => e = .returned (.bool (ccB l m old root)) ∧ Below w.heap.size w w' := by
  unfold pathC at hr ⊢
  unfold ccB
  by_cases h0 : m = 0
  · subst h0
    rw [if_pos rfl, if_pos rfl]
    exact cc_zero l.length old root A c [] w hg.1 (by omega)
  · rw [if_neg h0] at hr ⊢
    rw [if_neg h0]
    exact cc_any m l.length old root A c _ w hg.1 hr (by omega) hm (by omega)

set_option maxRecDepth 1000000 in
set_option maxHeartbeats 4000000 in
theorem walkAcc_out (A : Option Addr) (n c : Nat) (i m z : Int) (other : Dg) (w : World) (hg : All w) (h : n = 0 ∨ 40 < n) :
    Calls Tryd.prog 6 #[.slice A n c, .int .u8 i, .int .u8 m, .int .u64 z, dv other] w fun e w' => e = .returned (.bool true) ∧ Below w.heap.size w w' := by
  have hb0 := (Below.refl w.heap.size w).alloc (Nat.le_refl _) (.cells (dc other).toArray 31)
  have HS := Lib.hid (sanity_any _ (hg.next hb0))
  have HB0 := Lib.hid hb0
  clear hb0 hg
  unfold dv
  rcases h with rfl | h
  · go_enter Tryd.func6, Tryd.ntmps6
    go_wp2_with fail
    refine HS.out.mono ?_
    rintro e w1 ⟨rfl, hb⟩
    have HB := Lib.hid (HB0.out.trans (hb.mono HB0.out.size))
    clear hb
    go_wp2
    go_ret
    exact ⟨rfl, HB.out⟩
  · have d0 : ((n : Int) == 0) = false := by rw [beq_eq_false_iff_ne]; omega
    have d0' : (n == 0) = false := by rw [beq_eq_false_iff_ne]; omega
    have d1 : decide ((40 : Int) < (n : Int)) = true := decide_eq_true (by omega)
    clear h
    go_enter Tryd.func6, Tryd.ntmps6
    go_wp2_with fail
    refine HS.out.mono ?_
    rintro e w1 ⟨rfl, hb⟩
    have HB := Lib.hid (HB0.out.trans (hb.mono HB0.out.size))
    clear hb
    go_wp2
    go_ret
    exact ⟨rfl, HB.out⟩

/-- Own rows of other elements stay. -/
def Keeps (base : Nat) (e : TypeId) (w w' : World) : Prop := ∀ (t : TypeId) (size : Nat) (v : Value) (n : Nat) (xs : List Value), t ≠ e → w.ownsRow base t size v n xs → w'.ownsRow base t size v n xs
theorem keeps_grown {w w1 w' : World} {base : Nat} {e : TypeId} {size : Nat} {v : Value} {n : Nat} {xs : List Value} (hown : w.ownsRow base e size v n xs) (hb : Below w.heap.size w w1) (hg : w1.grownBy w' v.ownBlock) : Keeps base e w w' := by
  intro t s2 v2 n2 ys hne h
  refine ⟨h.1, ?_⟩
  rcases h.2 with h0 | ⟨g, cap, cur, rfl, hbg, hgg, rest⟩
  · exact .inl h0
  · have hlt : g < w.heap.size := (Array.getElem?_eq_some_iff.1 hgg).1
    refine .inr ⟨g, cap, cur, rfl, hbg, ?_, rest⟩
    have h1 := hb.block g hlt
    refine (hg.block g (Nat.lt_of_lt_of_le hlt hb.size) ?_).trans (h1.trans hgg)
    intro he
    rcases hown.2 with ⟨rfl, _⟩ | ⟨g3, cap3, cur3, rfl, _, hg3, _⟩
    · cases he
    · simp only [Value.ownBlock, Option.some.injEq] at he
      subst he
      rw [hgg] at hg3
      injection hg3 with hg3
      injection hg3 with _ h5 _
      exact hne h5
theorem int_under : Tryd.prog.underlying 37 = some (.slice 3) := Tryd.underlying37
theorem run_ints1 (w : World) (x : Int) : (Instr.buildSlice 37 1 #[(0, .int .i64 x)]).run Tryd.prog w = .ok (.slice (some ⟨w.heap.size, 0, none⟩) 1 1) (w.alloc (.cells #[.int .i64 x] 3)) := by
  obtain ⟨i0, hi, hz0, hz1, hz2⟩ := info_parts int_info
  refine run_buildSlice w _ _ 1 _ _ i0 _ int_under hi hz0 (by rw [hz1]; omega) (by rw [hz1]; omega) ?_
  rw [hz1]
  rw [show (Array.map (fun x => (Value.int .i64 0).cells[x % (Value.int .i64 0).cells.size]!) (Array.range (1 * 1))) = #[.int .i64 0] from by kernel_rfl]
  rfl
theorem put_ne {a : Act} {d j : Tmp} {u : Value} (h : (d == j) = false) : (a.put (some d) u).eval (.tmp j) = a.eval (.tmp j) := by
  have h' : d ≠ j := by simpa using h
  simp [Act.put, Act.eval, Array.getElem?_setIfInBounds_ne h']
theorem put_eq {a : Act} {d : Tmp} {u : Value} (h : decide (d < a.tmps.size) = true) : (a.put (some d) u).eval (.tmp d) = u := by
  have h' : d < a.tmps.size := of_decide_eq_true h
  simp [Act.put, Act.eval, h']
section
variable {w : World} {ops : Array Oper} {rest : List Oper} {o1 o2 : Oper} {a : Act} {Q : Exit → Act → World → Prop}
/-- An integer is appended to an own row. -/
theorem wpList_pushI (h1 : o1.guard = none) (h2 : o2.guard = none) (d d2 : Tmp) (hd : o1.dst = some d) (hdd : o2.dst = some d2) (x : Operand) (ho1 : o1.op = .buildSlice 37 1 #[(0, x)]) (j : Tmp)
    (ho2 : o2.op = .call { callee := .builtin .append, args := #[.tmp j, .tmp d], argTypes := #[37, 37] }) (base : Nat) (v : Value) (ps : List Int) (z : Int)
    (hx : a.eval x = .int .i64 z) (hs : a.eval (.tmp j) = v) (hne : (d == j) = false) (hsz : decide (d < a.tmps.size) = true)
    (hown : w.ownsRow base 3 1 v ps.length (ps.map (Value.int .i64))) (hb : base ≤ w.heap.size) (hl : ps.length ≤ 1000)
    (h : ∀ v' w', w'.ownsRow base 3 1 v' (ps ++ [z]).length ((ps ++ [z]).map (Value.int .i64)) → Below base w w' → Keeps base 3 w w' → wpList Tryd.prog ops Q rest ((a.put (some d) (.slice (some ⟨w.heap.size, 0, none⟩) 1 1)).put (some d2) v') w') :
    wpList Tryd.prog ops Q (o1 :: o2 :: rest) a w := by
  obtain ⟨i0, hi, hz0, hz1, hz2⟩ := info_parts int_info
  have hal := (Below.refl w.heap.size w).alloc (Nat.le_refl _) (.cells #[.int .i64 z] 3)
  refine wpList_plain h1 fun K hK => ?_
  unfold Oper.wp execOp
  simp only [ho1, List.map_toArray, List.map_cons, List.map_nil, hx, Sem.run_bind, run_ints1, Result.andThen_ok]
  refine hK _ _ ?_
  rw [hd]
  refine wpList_append_own _ h2 (.tmp j) (.tmp d) 37 ho2 base 3 i0 (.int .i64 0) 1 8 int_under hi hz0 hz1 hz2 rfl (by decide) v ps.length (ps.map (Value.int .i64)) ((put_ne hne).trans hs) (World.ownsRow.alloc hown _)
    ⟨w.heap.size, 0, none⟩ 1 1 [.int .i64 z] (put_eq hsz) (by simp) ?_ (by intro u hu; rw [List.mem_singleton.1 hu]; rfl) (by unfold maxLen; omega) (by omega) (by simp; omega) ?_
  · intro j u hu
    rw [Addr.add_mid, Nat.zero_add, (Blk.new w 3 [.int .i64 z]).cell j]
    exact hu
  · intro v' w' ho hg _
    rw [hdd]
    refine h v' w' ?_ ?_ (keeps_grown hown hal hg)
    · rw [List.length_append, List.map_append]; exact ho
    · exact ((Below.refl base w).alloc hb _).grown hg (by simp; omega) (fun k hk => (World.ownsRow.lt hown k hk).1)
/-- A digest is appended to an own row. -/
theorem wpList_pushD (h1 : o1.guard = none) (h2 : o2.guard = none) (d d2 : Tmp) (hd : o1.dst = some d) (hdd : o2.dst = some d2) (x : Operand) (ho1 : o1.op = .buildSlice 22 1 #[(0, x)]) (j : Tmp)
    (ho2 : o2.op = .call { callee := .builtin .append, args := #[.tmp j, .tmp d], argTypes := #[22, 22] }) (base : Nat) (v : Value) (l : List Dg) (e : Dg)
    (hx : a.eval x = dv e) (hs : a.eval (.tmp j) = v) (hne : (d == j) = false) (hsz : decide (d < a.tmps.size) = true)
    (hown : w.ownsRow base 31 16 v l.length (dl l)) (hb : base ≤ w.heap.size) (hl : l.length ≤ 1000)
    (h : ∀ v' w', w'.ownsRow base 31 16 v' (l ++ [e]).length (dl (l ++ [e])) → Below base w w' → Keeps base 31 w w' → wpList Tryd.prog ops Q rest ((a.put (some d) (.slice (some ⟨w.heap.size, 0, none⟩) 1 1)).put (some d2) v') w') :
    wpList Tryd.prog ops Q (o1 :: o2 :: rest) a w := by
  obtain ⟨i0, hi, hz0, hz1, hz2⟩ := info_parts dg_info
  have hal := (Below.refl w.heap.size w).alloc (Nat.le_refl _) (.cells (dc e).toArray 31)
  have hrun := run_buildD w [e] (by simp) (by simp)
  rw [dl_one] at hrun
  have hrun' : (Instr.buildSlice 22 1 #[(0, dv e)]).run Tryd.prog w = .ok (.slice (some ⟨w.heap.size, 0, none⟩) 1 1) (w.alloc (.cells (dc e).toArray 31)) := hrun
  refine wpList_plain h1 fun K hK => ?_
  unfold Oper.wp execOp
  simp only [ho1, List.map_toArray, List.map_cons, List.map_nil, hx, Sem.run_bind, hrun', Result.andThen_ok]
  refine hK _ _ ?_
  rw [hd]
  refine wpList_append_own _ h2 (.tmp j) (.tmp d) 22 ho2 base 31 i0 (.agg (zb 16).toArray) 16 16 ds_under hi hz0 hz1 hz2 rfl (by decide) v l.length (dl l) ((put_ne hne).trans hs) (World.ownsRow.alloc hown _)
    ⟨w.heap.size, 0, none⟩ 1 1 (dc e) (put_eq hsz) (by rw [dc_len]) ?_ (dc_one e) (by unfold maxLen; omega) (by omega) (by simp; omega) ?_
  · intro j u hu
    rw [Addr.add_mid, Nat.zero_add, (Blk.new w 31 (dc e)).cell j]
    exact hu
  · intro v' w' ho hg _
    rw [hdd]
    refine h v' w' ?_ ?_ (keeps_grown hown hal hg)
    · rw [List.length_append, dl_app, dl_one]; exact ho
    · exact ((Below.refl base w).alloc hb _).grown hg (by simp; omega) (fun k hk => (World.ownsRow.lt hown k hk).1)
end
theorem wpList_atD {w : World} {ops : Array Oper} {rest : List Oper} {o : Oper} {a : Act} {Q : Exit → Act → World → Prop} (hgd : o.guard = none) (x y : Operand) (ho : o.op = .indexAddr 22 x y) (b off n c k : Nat) (hk : k < n) (hx : a.eval x = .slice (some ⟨b, off, none⟩) n c) (hy : a.eval y = .int .i64 k)
    (h : wpList Tryd.prog ops Q rest (a.put o.dst (.pointer (some ⟨b, off + k * 16, none⟩))) w) : wpList Tryd.prog ops Q (o :: rest) a w := by
  have hrun := exec_atD (w := w) x y ho b off n c k hk hx hy
  refine wpList_plain hgd fun K hK => ?_
  unfold Oper.wp
  rw [hrun]
  exact hK _ _ h
theorem newI_of_row {w' : World} {base : Nat} {v : Value} {ps : List Int} (h : w'.ownsRow base 3 1 v ps.length (ps.map (Value.int .i64))) : ∃ A c, v = .slice A ps.length c ∧ RdI w' A ps ∧ ps.length ≤ c := by
  rcases h.2 with ⟨rfl, h0⟩ | ⟨g, cap, cur, rfl, h2, h3, h4, h5, h6⟩
  · obtain rfl : ps = [] := List.eq_nil_of_length_eq_zero h0
    exact ⟨none, 0, rfl, Rd.nil _ _, Nat.le_refl _⟩
  · exact ⟨_, cap, rfl, Rd.of_row h, h4⟩

theorem exec_not {P : Program} {oi : Oper} {a : Act} {w : World} (t : TypeId) (x : Operand) (ho : oi.op = .unOp .not t x) (b : Bool) (hx : a.eval x = .bool b) : (execOp a.eval oi).run P w = .ok (.value (.bool (!b))) w := by
  unfold execOp
  simp only [ho, hx]
  simp [go_sem]
theorem exec_neqB {P : Program} {oi : Oper} {a : Act} {w : World} (t : TypeId) (x y : Operand) (rt : TypeId) (ho : oi.op = .binOp .neq t x y rt) (hu : P.underlying t = some .bool) (m n : Bool) (hx : a.eval x = .bool m) (hy : a.eval y = .bool n) : (execOp a.eval oi).run P w = .ok (.value (.bool (!(m == n)))) w :=
  exec_bin .neq t rt x y ho _ _ _ hx hy (by simp [go_sem]) (run_neq_bool w t m n hu)
theorem exec_eqB {P : Program} {oi : Oper} {a : Act} {w : World} (t : TypeId) (x y : Operand) (rt : TypeId) (ho : oi.op = .binOp .eql t x y rt) (hu : P.underlying t = some .bool) (m n : Bool) (hx : a.eval x = .bool m) (hy : a.eval y = .bool n) : (execOp a.eval oi).run P w = .ok (.value (.bool (m == n))) w :=
  exec_bin .eql t rt x y ho _ _ _ hx hy (by simp [go_sem]) (run_eql_bool w t m n hu)
/-- An operation that its guard forbids. -/
theorem reg_skipG {P : Program} {md : Region.Mode} {ops : Array Oper} {Q : Exit → Act → World → Prop} {S : World → Prop} {i fuel : Nat} {oi : Oper} {listed : Array Bool} {a : Act} {w : World} (d : Option Tmp) (hi : ops[i]? = some oi) (hd : oi.dst = d) (hw : Region.wanted oi (yielded ops a.tmps) = false) (hs : Region.noSelect ops = true) (hf : Region.free md ops listed i = true) (hr : (Region.ready md ops listed).contains i = true)
    (hQ : ∀ c a w, Q (.panic c) (a.put d undef) w → Q (.panic c) a w) (hS : S w)
    (h : wpAnyH P md ops Q S fuel (listed.setIfInBounds i true) (a.put d undef) w) : wpAnyH P md ops Q S (fuel + 1) listed a w := by
  subst hd
  exact wpAnyH_take hi hs hf hr hQ (.inr ⟨hw, rfl⟩) hS h
/-- What stands in the loop over the powers. -/
def PowR (f : Nat) (v : Value) : Prop := ∃ q e : Nat, v = .int .i64 q ∧ Hid (q = 2 ^ e ∧ (e = 0 ∨ 2 ^ (e - 1) < f)) ∧ 1 ≤ q ∧ q ≤ 80
/-- The elements at positions. -/
def selD (l : List Dg) (ps : List Int) : List Dg := ps.map fun p => l.getD p.toNat dz
theorem selD_len (l : List Dg) (ps : List Int) : (selD l ps).length = ps.length := List.length_map _
theorem selD_snoc (l : List Dg) (ps : List Int) (p : Int) : selD l (ps ++ [p]) = selD l ps ++ [l.getD p.toNat dz] := List.map_append
/-- What stands in the loop over the positions. -/
def SelR (l : List Dg) (v4 : World) (pv fv kv : Value) (wr : World) : Prop := ∃ (k : Nat) (ps : List Int), kv = .int .i64 k ∧ k ≤ l.length ∧ Hid (Below v4.heap.size v4 wr) ∧ Hid (wr.ownsRow v4.heap.size 3 1 pv ps.length (ps.map (Value.int .i64))) ∧ Hid (wr.ownsRow v4.heap.size 31 16 fv (selD l ps).length (dl (selD l ps))) ∧ Hid ((∀ p ∈ ps, -1 < p ∧ p < k) ∧ ps.Pairwise (· < ·) ∧ ps.length ≤ k)
theorem sel_more {ps : List Int} {k : Nat} (h : (∀ p ∈ ps, -1 < p ∧ p < (k : Int)) ∧ ps.Pairwise (· < ·) ∧ ps.length ≤ k) : (∀ p ∈ ps ++ [(k : Int)], -1 < p ∧ p < ((k + 1 : Nat) : Int)) ∧ (ps ++ [(k : Int)]).Pairwise (· < ·) ∧ (ps ++ [(k : Int)]).length ≤ k + 1 := by
  obtain ⟨h1, h2, h3⟩ := h
  refine ⟨?_, ?_, by simp; omega⟩
  · intro p hp
    rcases List.mem_append.1 hp with hp | hp
    · have := h1 p hp; omega
    · rw [List.mem_singleton.1 hp]; omega
  · rw [List.pairwise_append]
    exact ⟨h2, List.pairwise_singleton _ _, fun a ha b hb => by rw [List.mem_singleton.1 hb]; exact (h1 a ha).2⟩
theorem sel_same {ps : List Int} {k : Nat} (h : (∀ p ∈ ps, -1 < p ∧ p < (k : Int)) ∧ ps.Pairwise (· < ·) ∧ ps.length ≤ k) : (∀ p ∈ ps, -1 < p ∧ p < ((k + 1 : Nat) : Int)) ∧ ps.Pairwise (· < ·) ∧ ps.length ≤ k + 1 :=
  ⟨fun p hp => by have := h.1 p hp; omega, h.2.1, by omega⟩

set_option maxRecDepth 1000000 in
set_option maxHeartbeats 4000000 in
theorem walkAcc_in (A : Option Addr) (c : Nat) (l : List Dg) (i m z : Nat) (other : Dg) (w : World) (hg : All w) (hr : RdD w A l) (hc : l.length ≤ c) (hn1 : 1 ≤ l.length) (hn : l.length ≤ 40) (hi : i < 256) (hm : m < 256) :
    Calls Tryd.prog 6 #[.slice A l.length c, .int .u8 i, .int .u8 m, .int .u64 z, dv other] w fun e w' => e = .returned (.bool true) ∧ Below w.heap.size w w' := by
  have d0 : ((l.length : Int) == 0) = false := by rw [beq_eq_false_iff_ne]; omega
  have d0' : (l.length == 0) = false := by rw [beq_eq_false_iff_ne]; omega
  have d1 : decide ((40 : Int) < (l.length : Int)) = false := decide_eq_false (by omega)
  obtain ⟨p, hp⟩ : ∃ p : Nat, i % l.length = p := ⟨_, rfl⟩
  have hpl : p < l.length := by rw [← hp]; exact Nat.mod_lt _ hn1
  have hp2 : (i : Int) % (l.length : Int) = (p : Int) := by rw [← hp]; simp
  obtain ⟨f, hf⟩ : ∃ f : Nat, m % (l.length + 1) = f := ⟨_, rfl⟩
  have hfl : f ≤ l.length := by have := Nat.mod_lt m (show 0 < l.length + 1 by omega); omega
  have hf2 : (m : Int) % ((l.length : Int) + 1) = (f : Int) := by rw [← hf]; simp
  have i0 : (0 : Int) ≤ (i : Int) := by omega
  have i1 : (i : Int) ≤ 255 := by omega
  have m0 : (0 : Int) ≤ (m : Int) := by omega
  have m1 : (m : Int) ≤ 255 := by omega
  have n0 : (1 : Int) ≤ (l.length : Int) := by omega
  have n1 : (l.length : Int) ≤ 40 := by omega
  have hsl : ∀ W, (Instr.sliceAt 22 (.slice A l.length c) none (some (.int .i64 f)) none).run Tryd.prog W = .ok (.slice A f c) W := run_hiD A l.length c f hfl hc
  have hb0 := (Below.refl w.heap.size w).alloc (Nat.le_refl _) (.cells (dc other).toArray 31)
  have KO := Lib.hid (Blk.new w 31 (dc other))
  have GL := Lib.hid (hg.next hb0)
  have R := Lib.hid (hr.next hb0)
  have B := Lib.hid hb0
  have HCC := Lib.hid hc
  clear hb0 hg hr hp hf hi hm
  unfold dv
  go_enter Tryd.func6, Tryd.ntmps6
  go_wp2_with fail
  simp only [hp2, hf2]
  clear hp2 hf2 i0 i1 m0 m1
  generalize w.alloc (.cells (dc other).toArray 31) = w0 at KO GL R B ⊢
  refine (root_any l.length l A c _ (Nat.le_refl _) HCC.out (by omega) GL.out.1 R.out).mono ?_
  rintro e v1 ⟨rfl, hb⟩
  replace GL := Lib.hid (GL.out.next hb)
  replace R := Lib.hid (R.out.next hb)
  replace KO := Lib.hid (KO.out.next hb)
  replace B := Lib.hid (B.out.trans (hb.mono B.out.size))
  clear hb
  obtain ⟨rt, hrt⟩ : ∃ rt, rootD l = rt := ⟨_, rfl⟩
  rw [hrt]
  have HRT := Lib.hid hrt
  clear hrt
  go_wp2_with (refine wpList_var rfl rfl 31 14 rfl rfl rfl (.tmp 45) rfl (zb 16) (dc rt) dg_zero rfl rfl (dd_len _) (dd_size _) (dc_one _) ?_; intro x1 K14 D; replace GL := Lib.hid (GL.out.next D.out); replace R := Lib.hid (R.out.next D.out); replace KO := Lib.hid (KO.out.next D.out); replace B := Lib.hid (B.out.trans (D.out.mono B.out.size)); clear D)
  have e1 : (l.take f).length = f := by rw [List.length_take]; omega
  have hcall := root_any f (l.take f) A c x1 (by omega) (by omega) (by omega) GL.out.1 (R.out.take f)
  rw [e1] at hcall
  refine hcall.mono ?_
  rintro e v2 ⟨rfl, hb⟩
  replace GL := Lib.hid (GL.out.next hb)
  replace R := Lib.hid (R.out.next hb)
  replace KO := Lib.hid (KO.out.next hb)
  replace K14 := Lib.hid (K14.out.next hb)
  replace B := Lib.hid (B.out.trans (hb.mono B.out.size))
  clear hb hcall e1
  obtain ⟨od, hod⟩ : ∃ od, rootD (l.take f) = od := ⟨_, rfl⟩
  rw [hod]
  have HOD := Lib.hid hod
  clear hod
  go_wp2_with (refine wpList_var rfl rfl 31 15 rfl rfl rfl (.tmp 49) rfl (zb 16) (dc od) dg_zero rfl rfl (dd_len _) (dd_size _) (dc_one _) ?_; intro x2 K15 D; replace GL := Lib.hid (GL.out.next D.out); replace R := Lib.hid (R.out.next D.out); replace KO := Lib.hid (KO.out.next D.out); replace K14 := Lib.hid (K14.out.next D.out); replace B := Lib.hid (B.out.trans (D.out.mono B.out.size)); clear D)
  refine (incl_any l A c p _ GL.out.1 R.out HCC.out (by omega) hpl).mono ?_
  rintro e v3 ⟨r, rfl, ⟨A16, c16, rfl, h16, -⟩, hb⟩
  replace GL := Lib.hid (GL.out.next hb)
  replace R := Lib.hid (R.out.next hb)
  replace KO := Lib.hid (KO.out.next hb)
  replace K14 := Lib.hid (K14.out.next hb)
  replace K15 := Lib.hid (K15.out.next hb)
  replace B := Lib.hid (B.out.trans (hb.mono B.out.size))
  have R16 := Lib.hid h16
  clear hb h16
  go_wp2_with fail
  refine (consP_any l A c f _ GL.out R.out HCC.out hn hfl).mono ?_
  rintro e v4 ⟨r, rfl, ⟨A18, c18, rfl, h18, -⟩, hb⟩
  replace GL := Lib.hid (GL.out.next hb)
  replace R := Lib.hid (R.out.next hb)
  replace KO := Lib.hid (KO.out.next hb)
  replace K14 := Lib.hid (K14.out.next hb)
  replace K15 := Lib.hid (K15.out.next hb)
  replace R16 := Lib.hid (R16.out.next hb)
  replace B := Lib.hid (B.out.trans (hb.mono B.out.size))
  have R18 := Lib.hid h18
  clear hb h18
  go_wp2_with fail
  go_loopw [20, 21, 22] (SelR l v4) (fun _ _ kv _ => l.length - (intOf kv).toNat)
  case atStart => exact ⟨0, [], rfl, Nat.zero_le _, Below.refl _ _, World.ownsRow_nil _ _ _ _, World.ownsRow_nil _ _ _ _, by simp, List.Pairwise.nil, Nat.le_refl _⟩
  case round =>
    obtain ⟨k, ps, rfl, hk, HW, HP, HF, HS⟩ := hrel
    by_cases hlt : k < l.length
    · have d3 : decide ((k : Int) < (l.length : Int)) = true := decide_eq_true (by omega)
      have k64 : decide ((k : Int) < 64) = true := decide_eq_true (by omega)
      obtain ⟨d, hd⟩ : ∃ d, l[k]? = some d := ⟨l[k], List.getElem?_eq_getElem hlt⟩
      obtain ⟨b4, o4, rfl, hc4⟩ := R.out.at hd
      have HC4 := Lib.hid hc4
      have hgd : l.getD ((k : Int).toNat) dz = d := by rw [Int.toNat_natCast, List.getD_eq_getElem?_getD, hd]; rfl
      have HGD := Lib.hid hgd
      have HPL := Lib.hid (show ps.length ≤ 1000 by have := HS.out.2.2; omega)
      clear hd hc4 hgd
      go_wp2_with (first | (refine wpList_pushI rfl rfl 74 75 rfl rfl (.tmp 73) rfl 72 rfl v4.heap.size u20 ps (k : Int) rfl rfl rfl (by kernel_rfl) HP.out HW.out.size HPL.out ?_; intro vI wI hoI hbI hkI; have HPI := Lib.hid hoI; have HFI := Lib.hid (hkI _ _ _ _ _ (by decide) HF.out); have HWI := Lib.hid (HW.out.trans hbI); clear hoI hbI hkI) | (refine wpList_atD rfl (.tmp 77) (.tmp 78) rfl b4 o4 l.length c k hlt rfl rfl ?_) | (refine wpList_loadD rfl (.tmp 79) rfl b4 (o4 + k * 16) rfl d (range_below' HC4.out HWI.out) ?_) | (refine wpList_pushD rfl rfl 81 82 rfl rfl (.tmp 80) rfl 76 rfl v4.heap.size u21 (selD l ps) d rfl rfl rfl (by kernel_rfl) HFI.out HWI.out.size (by rw [selD_len]; exact HPL.out) ?_; intro vD wD hoD hbD hkD; have HFD := Lib.hid hoD; have HPD := Lib.hid (hkD _ _ _ _ _ (by decide) HPI.out); have HWD := Lib.hid (HWI.out.trans hbD); clear hoD hbD hkD))
      all_goals
        go_roundw
        case rel =>
          first
            | exact ⟨k + 1, ps ++ [(k : Int)], by go_num, by omega, HWD, HPD, Lib.hid (by have h := HFD.out; rw [← HGD.out, ← selD_snoc] at h; exact h), Lib.hid (sel_more HS.out)⟩
            | exact ⟨k + 1, ps, by go_num, by omega, HW, HP, HF, Lib.hid (sel_same HS.out)⟩
        case measure => simp [intOf]; omega
    · obtain rfl : k = l.length := by omega
      have d3 : decide ((l.length : Int) < (l.length : Int)) = false := decide_eq_false (by omega)
      obtain ⟨A20, c20, rfl, h20, hc20⟩ := newI_of_row HP.out
      obtain ⟨A21, c21, rfl, h21, hc21⟩ := newD_of_row HF.out
      have hHW := HW.out
      replace GL := Lib.hid (GL.out.next hHW)
      replace R := Lib.hid (R.out.next hHW)
      replace KO := Lib.hid (KO.out.next hHW)
      replace K14 := Lib.hid (K14.out.next hHW)
      replace K15 := Lib.hid (K15.out.next hHW)
      replace R16 := Lib.hid (R16.out.next hHW)
      replace R18 := Lib.hid (R18.out.next hHW)
      replace B := Lib.hid (B.out.trans (hHW.mono B.out.size))
      have R20 := Lib.hid h20
      have R21 := Lib.hid h21
      have HASC := Lib.hid (asc_of (l.length : Int) ps (-1) HS.out.1 HS.out.2.1)
      have HWK : Hid (wlkD 0 l.length ps (selD l ps) 0 (manyD l 0 ps) = (rootD l, (manyD l 0 ps).length)) := wlk_ok hn1 HS.out.1 HS.out.2.1
      have HC20 := Lib.hid hc20
      have HC21 := Lib.hid hc21
      have HPL := Lib.hid HS.out.2.2
      clear hHW HW HP HF h20 h21 hc20 hc21 HS
      go_wp2_with fail
      refine (many_any l A c ps A20 c20 _ GL.out.1 R.out HCC.out (by omega) R20.out HC20.out (by have := HPL.out; omega) HASC.out).mono ?_
      rintro e v5 ⟨r, rfl, ⟨A23, c23, rfl, h23, -⟩, hb⟩
      replace GL := Lib.hid (GL.out.next hb)
      replace R := Lib.hid (R.out.next hb)
      replace KO := Lib.hid (KO.out.next hb)
      replace K14 := Lib.hid (K14.out.next hb)
      replace K15 := Lib.hid (K15.out.next hb)
      replace R16 := Lib.hid (R16.out.next hb)
      replace R18 := Lib.hid (R18.out.next hb)
      replace R20 := Lib.hid (R20.out.next hb)
      replace R21 := Lib.hid (R21.out.next hb)
      replace B := Lib.hid (B.out.trans (hb.mono B.out.size))
      have R23 := Lib.hid h23
      clear hb h23
      go_wp2_with fail
      obtain ⟨d, hd⟩ : ∃ d, l[p]? = some d := ⟨l[p], List.getElem?_eq_getElem hpl⟩
      obtain ⟨b4, o4, rfl, hc4⟩ := R.out.at hd
      have HC4 := Lib.hid hc4
      have e1 : (dgEq (oneD d p l.length 0 (inclD l p)).1 rt && decide ((oneD d p l.length 0 (inclD l p)).2 = (inclD l p).length)) = true := by rw [one_ok hd, HRT.out, dgEq_self]; simp
      have e2 : ccB l f od rt = true := by rw [← HOD.out, ← HRT.out]; exact cc_yes hfl _ (.inr rfl)
      have e3 : (dgEq (wlkD 0 l.length ps (selD l ps) 0 (manyD l 0 ps)).1 rt && decide ((wlkD 0 l.length ps (selD l ps) 0 (manyD l 0 ps)).2 = (manyD l 0 ps).length)) = true := by rw [HWK.out, HRT.out, dgEq_self]; simp
      have c1 := fun W (h1 : All W) (h2 : RdD W A16 (inclD l p)) => ci_any d rt p l.length A16 c16 (inclD l p) W h1.1 h2 hpl (by omega)
      have c2 := fun W (h1 : All W) (h2 : RdD W A18 (pathC l f)) => ccP_any l f od rt A18 c18 W h1 h2 hn hfl
      have c3 := fun W (h1 : All W) (h2 : RdD W A23 (manyD l 0 ps)) (h3 : RdI W A20 ps) (h4 : RdD W A21 (selD l ps)) => cm_any l.length rt ps (selD l ps) A20 c20 A21 c21 A23 c23 (manyD l 0 ps) W h1.1 h2 (by omega) HASC.out (selD_len l ps) HC20.out (by have := HPL.out; omega) HC21.out h3 h4
      rw [e1] at c1
      rw [e2] at c2
      rw [e3] at c3
      have HC1 := Lib.hid c1
      have HC2 := Lib.hid c2
      have HC3 := Lib.hid c3
      clear e1 e2 e3 c1 c2 c3 hc4 hd
      refine wp_region_held_drew (S := fun W => Below v5.heap.size v5 W) (by kernel_rfl) (Below.refl _ _).drew (fun hS => ?_)
      generalize v5.drew = w1 at hS ⊢
      refine reg_takeG (i := 0) (some 89) rfl rfl rfl (by kernel_rfl) (by kernel_rfl) (by kernel_rfl) (.int .i64 0) (fun _ _ _ h => h) (fun W hW => exec_move (.tmp 17) rfl _ rfl) hS ?_
      go_frame
      refine reg_valueG (i := 1) (some 90) rfl rfl rfl (by kernel_rfl) (.bool false) (exec_neqI _ (.tmp 89) (.const (.int .i64 0)) _ rfl .i64 0 0 rfl rfl) hS ?_
      go_frame
      refine reg_valueG (i := 2) (some 91) rfl rfl rfl (by kernel_rfl) (.bool false) (exec_move (.tmp 90) rfl _ rfl) hS ?_
      go_frame
      refine reg_valueG (i := 3) (some 92) rfl rfl rfl (by kernel_rfl) (.int .i64 0) (exec_move (.tmp 19) rfl _ rfl) hS ?_
      go_frame
      refine reg_valueG (i := 4) (some 93) rfl rfl rfl (by kernel_rfl) (.bool false) (exec_neqI _ (.tmp 92) (.const (.int .i64 0)) _ rfl .i64 0 0 rfl rfl) hS ?_
      go_frame
      refine reg_valueG (i := 5) (some 94) rfl rfl rfl (by kernel_rfl) (.bool false) (exec_pickF (.tmp 91) (.const (.bool true)) (.tmp 93) rfl _ rfl rfl) hS ?_
      go_frame
      refine reg_valueG (i := 6) (some 95) rfl rfl rfl (by kernel_rfl) (.bool false) (exec_move (.tmp 94) rfl _ rfl) hS ?_
      go_frame
      refine reg_valueG (i := 7) (some 96) rfl rfl rfl (by kernel_rfl) (.int .i64 0) (exec_move (.tmp 24) rfl _ rfl) hS ?_
      go_frame
      refine reg_valueG (i := 8) (some 97) rfl rfl rfl (by kernel_rfl) (.bool false) (exec_neqI _ (.tmp 96) (.const (.int .i64 0)) _ rfl .i64 0 0 rfl rfl) hS ?_
      go_frame
      refine reg_valueG (i := 9) (some 98) rfl rfl rfl (by kernel_rfl) (.bool false) (exec_pickF (.tmp 95) (.const (.bool true)) (.tmp 97) rfl _ rfl rfl) hS ?_
      go_frame
      refine reg_valueG (i := 10) (some 99) rfl rfl rfl (by kernel_rfl) (.bool false) (exec_move (.tmp 98) rfl _ rfl) hS ?_
      go_frame
      refine reg_takeG (i := 11) (some 100) rfl rfl rfl (by kernel_rfl) (by kernel_rfl) (by kernel_rfl) (.slice (some ⟨b4, o4, none⟩) l.length c) (fun _ _ _ h => h) (fun W hW => exec_move (.tmp 0) rfl _ rfl) hS ?_
      go_frame
      refine reg_takeG (i := 12) (some 101) rfl rfl rfl (by kernel_rfl) (by kernel_rfl) (by kernel_rfl) (.int .i64 p) (fun _ _ _ h => h) (fun W hW => exec_move (.tmp 12) rfl _ rfl) hS ?_
      go_frame
      refine reg_takeG (i := 13) (some 102) rfl rfl rfl (by kernel_rfl) (by kernel_rfl) (by kernel_rfl) (.pointer (some ⟨b4, o4 + p * 16, none⟩)) (fun _ _ _ h => h) (fun W hW => exec_atD (.tmp 100) (.tmp 101) rfl b4 o4 l.length c p hpl rfl rfl) hS ?_
      go_frame
      refine reg_takeG (i := 14) (some 103) rfl rfl rfl (by kernel_rfl) (by kernel_rfl) (by kernel_rfl) (dv d) (fun _ _ _ h => h) (fun W hW => exec_loadD (.tmp 102) rfl _ _ d rfl (range_below' HC4.out hW)) hS ?_
      go_frame
      refine reg_takeG (i := 15) (some 104) rfl rfl rfl (by kernel_rfl) (by kernel_rfl) (by kernel_rfl) (.int .i64 p) (fun _ _ _ h => h) (fun W hW => exec_move (.tmp 12) rfl _ rfl) hS ?_
      go_frame
      refine reg_takeG (i := 16) (some 105) rfl rfl rfl (by kernel_rfl) (by kernel_rfl) (by kernel_rfl) (.int .i64 l.length) (fun _ _ _ h => h) (fun W hW => exec_move (.tmp 11) rfl _ rfl) hS ?_
      go_frame
      refine reg_takeG (i := 17) (some 106) rfl rfl rfl (by kernel_rfl) (by kernel_rfl) (by kernel_rfl) (.slice A16 (inclD l p).length c16) (fun _ _ _ h => h) (fun W hW => exec_move (.tmp 16) rfl _ rfl) hS ?_
      go_frame
      refine reg_takeG (i := 18) (some 107) rfl rfl rfl (by kernel_rfl) (by kernel_rfl) (by kernel_rfl) (dv rt) (fun _ _ _ h => h) (fun W hW => exec_loadB (.tmp 14) rfl rfl (K14.out.next hW)) hS ?_
      go_frame
      refine reg_callG (i := 19) (some 108) rfl rfl rfl (by kernel_rfl) rfl Tryd.func29 (by kernel_rfl) (by kernel_rfl) #[dv d, .int .i64 p, .int .i64 l.length, .slice A16 (inclD l p).length c16, dv rt] rfl (HC1.out w1 (GL.out.next hS) (R16.out.next hS)) ?_
      rintro e w2 ⟨rfl, hb⟩
      have hS2 := hS.trans (hb.mono hS.size)
      refine ⟨_, rfl, hS2, ?_⟩
      go_frame
      clear hb
      refine reg_valueG (i := 20) (some 109) rfl rfl rfl (by kernel_rfl) (.bool false) (exec_not _ (.tmp 108) rfl true rfl) hS2 ?_
      go_frame
      refine reg_valueG (i := 21) (some 110) rfl rfl rfl (by kernel_rfl) (.bool false) (exec_pickF (.tmp 99) (.const (.bool true)) (.tmp 109) rfl _ rfl rfl) hS2 ?_
      go_frame
      refine reg_valueG (i := 22) (some 111) rfl rfl rfl (by kernel_rfl) (.bool false) (exec_move (.tmp 110) rfl _ rfl) hS2 ?_
      go_frame
      refine reg_takeG (i := 23) (some 112) rfl rfl rfl (by kernel_rfl) (by kernel_rfl) (by kernel_rfl) (.int .i64 f) (fun _ _ _ h => h) (fun W hW => exec_move (.tmp 13) rfl _ rfl) hS2 ?_
      go_frame
      refine reg_takeG (i := 24) (some 113) rfl rfl rfl (by kernel_rfl) (by kernel_rfl) (by kernel_rfl) (.int .i64 l.length) (fun _ _ _ h => h) (fun W hW => exec_move (.tmp 11) rfl _ rfl) hS2 ?_
      go_frame
      refine reg_takeG (i := 25) (some 114) rfl rfl rfl (by kernel_rfl) (by kernel_rfl) (by kernel_rfl) (dv od) (fun _ _ _ h => h) (fun W hW => exec_loadB (.tmp 15) rfl rfl (K15.out.next hW)) hS2 ?_
      go_frame
      refine reg_takeG (i := 26) (some 115) rfl rfl rfl (by kernel_rfl) (by kernel_rfl) (by kernel_rfl) (dv rt) (fun _ _ _ h => h) (fun W hW => exec_loadB (.tmp 14) rfl rfl (K14.out.next hW)) hS2 ?_
      go_frame
      refine reg_takeG (i := 27) (some 116) rfl rfl rfl (by kernel_rfl) (by kernel_rfl) (by kernel_rfl) (.slice A18 (pathC l f).length c18) (fun _ _ _ h => h) (fun W hW => exec_move (.tmp 18) rfl _ rfl) hS2 ?_
      go_frame
      refine reg_callG (i := 28) (some 117) rfl rfl rfl (by kernel_rfl) rfl Tryd.func30 (by kernel_rfl) (by kernel_rfl) #[.int .i64 f, .int .i64 l.length, dv od, dv rt, .slice A18 (pathC l f).length c18] rfl (HC2.out w2 (GL.out.next hS2) (R18.out.next hS2)) ?_
      rintro e w3 ⟨rfl, hb⟩
      have hS3 := hS2.trans (hb.mono hS2.size)
      refine ⟨_, rfl, hS3, ?_⟩
      go_frame
      clear hb
      refine reg_valueG (i := 29) (some 118) rfl rfl rfl (by kernel_rfl) (.bool false) (exec_not _ (.tmp 117) rfl true rfl) hS3 ?_
      go_frame
      refine reg_valueG (i := 30) (some 119) rfl rfl rfl (by kernel_rfl) (.bool false) (exec_pickF (.tmp 111) (.const (.bool true)) (.tmp 118) rfl _ rfl rfl) hS3 ?_
      go_frame
      refine reg_valueG (i := 31) (some 120) rfl rfl rfl (by kernel_rfl) (.bool false) (exec_move (.tmp 119) rfl _ rfl) hS3 ?_
      go_frame
      refine reg_takeG (i := 32) (some 121) rfl rfl rfl (by kernel_rfl) (by kernel_rfl) (by kernel_rfl) (.int .i64 l.length) (fun _ _ _ h => h) (fun W hW => exec_move (.tmp 11) rfl _ rfl) hS3 ?_
      go_frame
      refine reg_takeG (i := 33) (some 122) rfl rfl rfl (by kernel_rfl) (by kernel_rfl) (by kernel_rfl) (.slice A20 ps.length c20) (fun _ _ _ h => h) (fun W hW => exec_move (.tmp 20) rfl _ rfl) hS3 ?_
      go_frame
      refine reg_takeG (i := 34) (some 123) rfl rfl rfl (by kernel_rfl) (by kernel_rfl) (by kernel_rfl) (.slice A21 (selD l ps).length c21) (fun _ _ _ h => h) (fun W hW => exec_move (.tmp 21) rfl _ rfl) hS3 ?_
      go_frame
      refine reg_takeG (i := 35) (some 124) rfl rfl rfl (by kernel_rfl) (by kernel_rfl) (by kernel_rfl) (.slice A23 (manyD l 0 ps).length c23) (fun _ _ _ h => h) (fun W hW => exec_move (.tmp 23) rfl _ rfl) hS3 ?_
      go_frame
      refine reg_takeG (i := 36) (some 125) rfl rfl rfl (by kernel_rfl) (by kernel_rfl) (by kernel_rfl) (dv rt) (fun _ _ _ h => h) (fun W hW => exec_loadB (.tmp 14) rfl rfl (K14.out.next hW)) hS3 ?_
      go_frame
      refine reg_callG (i := 37) (some 126) rfl rfl rfl (by kernel_rfl) rfl Tryd.func23 (by kernel_rfl) (by kernel_rfl) #[.int .i64 l.length, .slice A20 ps.length c20, .slice A21 (selD l ps).length c21, .slice A23 (manyD l 0 ps).length c23, dv rt] rfl (HC3.out w3 (GL.out.next hS3) (R23.out.next hS3) (R20.out.next hS3) (R21.out.next hS3)) ?_
      rintro e w4 ⟨rfl, hb⟩
      have hS4 := hS3.trans (hb.mono hS3.size)
      refine ⟨_, rfl, hS4, ?_⟩
      go_frame
      clear hb
      refine reg_valueG (i := 38) (some 127) rfl rfl rfl (by kernel_rfl) (.bool false) (exec_not _ (.tmp 126) rfl true rfl) hS4 ?_
      go_frame
      refine reg_valueG (i := 39) (some 128) rfl rfl rfl (by kernel_rfl) (.bool false) (exec_pickF (.tmp 120) (.const (.bool true)) (.tmp 127) rfl _ rfl rfl) hS4 ?_
      go_frame
      refine wpAnyH_done (by kernel_rfl) ?_ _
      replace GL := Lib.hid (GL.out.next hS4)
      replace R := Lib.hid (R.out.next hS4)
      replace KO := Lib.hid (KO.out.next hS4)
      replace K14 := Lib.hid (K14.out.next hS4)
      replace K15 := Lib.hid (K15.out.next hS4)
      replace R16 := Lib.hid (R16.out.next hS4)
      replace R18 := Lib.hid (R18.out.next hS4)
      replace R20 := Lib.hid (R20.out.next hS4)
      replace R21 := Lib.hid (R21.out.next hS4)
      replace R23 := Lib.hid (R23.out.next hS4)
      replace B := Lib.hid (B.out.trans (hS4.mono B.out.size))
      clear hS hS2 hS3 hS4 HC1 HC2 HC3 HC4
      go_wp2_with fail
      go_loop [25] (PowR f) (fun v => (200 - intOf v).toNat)
      case atStart => exact ⟨1, 0, rfl, ⟨rfl, .inl rfl⟩, Nat.le_refl _, by omega⟩
      case round =>
        obtain ⟨q, e, rfl, HQ, hq1, hq2⟩ := hrel
        by_cases hlt : q < f
        · have d3 : decide ((q : Int) < (f : Int)) = true := decide_eq_true (by omega)
          have b0 : (0 : Int) ≤ (q : Int) := by omega
          have b1 : (q : Int) ≤ 80 := by omega
          go_wp2
          go_round
          case rel => exact ⟨2 * q, e + 1, by go_num, ⟨by rw [HQ.out.1, Nat.pow_succ]; omega, .inr (by rw [Nat.add_sub_cancel, ← HQ.out.1]; exact hlt)⟩, by omega, by omega⟩
          case measure => simp [intOf]; omega
        · have d3 : decide ((q : Int) < (f : Int)) = false := decide_eq_false (by omega)
          clear d0 d0' d1 n0 n1 hsl

          go_wp2_with fail
          obtain ⟨wx, hwx⟩ : ∃ wx, wx = w4 := ⟨_, rfl⟩
          rw [← hwx] at GL R KO K14 K15 R16 R18 R20 R21 R23 B ⊢
          clear hwx
          by_cases hqf : q = f
          case neg =>
            have dne : ((q : Int) != (f : Int)) = true := by rw [bne_iff_ne]; omega
            have hco : ccB l f other rt = dgEq other od := by rw [← HOD.out, ← HRT.out]; exact cc_old hfl (.inr (pow_not HQ.out.2 (by rw [← HQ.out.1]; omega) (by rw [← HQ.out.1]; omega))) other
            have co := fun W (h1 : All W) (h2 : RdD W A18 (pathC l f)) => ccP_any l f other rt A18 c18 W h1 h2 hn hfl
            rw [hco] at co
            have HCO := Lib.hid co
            clear hco co
            refine wp_region_held_drew (S := fun W => Below wx.heap.size wx W) (by kernel_rfl) (Below.refl _ _).drew (fun hS => ?_)
            generalize wx.drew = w1 at hS ⊢
            refine reg_takeG (i := 0) (some 134) rfl rfl rfl (by kernel_rfl) (by kernel_rfl) (by kernel_rfl) (.int .i64 q) (fun _ _ _ h => h) (fun W hW => exec_move (.tmp 25) rfl _ rfl) hS ?_
            go_frame
            refine reg_takeG (i := 1) (some 135) rfl rfl rfl (by kernel_rfl) (by kernel_rfl) (by kernel_rfl) (.int .i64 f) (fun _ _ _ h => h) (fun W hW => exec_move (.tmp 13) rfl _ rfl) hS ?_
            go_frame
            have hne := fun (oi : Oper) (a : Act) (rt : TypeId) (h : oi.op = .binOp .neq 3 (.tmp 134) (.tmp 135) rt) (hx : a.eval (.tmp 134) = .int .i64 q) (hy : a.eval (.tmp 135) = .int .i64 f) => exec_neqI (P := Tryd.prog) (w := w1) _ (.tmp 134) (.tmp 135) rt h .i64 (q : Int) (f : Int) hx hy
            rw [dne] at hne
            refine reg_valueG (i := 2) (some 136) rfl rfl rfl (by kernel_rfl) (.bool true) (hne _ _ _ rfl rfl rfl) hS ?_
            go_frame
            clear hne
            refine reg_valueG (i := 3) (some 137) rfl rfl rfl (by kernel_rfl) (.bool true) (exec_move (.tmp 136) rfl _ rfl) hS ?_
            go_frame
            refine reg_skipG (i := 4) (some 138) rfl rfl rfl (by kernel_rfl) (by kernel_rfl) (by kernel_rfl) (fun _ _ _ h => h) hS ?_
            go_frame
            refine reg_skipG (i := 5) (some 139) rfl rfl rfl (by kernel_rfl) (by kernel_rfl) (by kernel_rfl) (fun _ _ _ h => h) hS ?_
            go_frame
            refine reg_skipG (i := 6) (some 140) rfl rfl rfl (by kernel_rfl) (by kernel_rfl) (by kernel_rfl) (fun _ _ _ h => h) hS ?_
            go_frame
            refine reg_valueG (i := 7) (some 141) rfl rfl rfl (by kernel_rfl) (.bool true) (exec_pick (.tmp 137) (.const (.bool true)) (.tmp 140) rfl _ rfl rfl) hS ?_
            go_frame
            refine reg_valueG (i := 8) (some 142) rfl rfl rfl (by kernel_rfl) (.bool true) (exec_move (.tmp 141) rfl _ rfl) hS ?_
            go_frame
            refine reg_takeG (i := 9) (some 143) rfl rfl rfl (by kernel_rfl) (by kernel_rfl) (by kernel_rfl) (.int .i64 f) (fun _ _ _ h => h) (fun W hW => exec_move (.tmp 13) rfl _ rfl) hS ?_
            go_frame
            refine reg_takeG (i := 10) (some 144) rfl rfl rfl (by kernel_rfl) (by kernel_rfl) (by kernel_rfl) (.int .i64 l.length) (fun _ _ _ h => h) (fun W hW => exec_move (.tmp 11) rfl _ rfl) hS ?_
            go_frame
            refine reg_takeG (i := 11) (some 145) rfl rfl rfl (by kernel_rfl) (by kernel_rfl) (by kernel_rfl) (dv other) (fun _ _ _ h => h) (fun W hW => exec_loadB (.tmp 9) rfl rfl (KO.out.next hW)) hS ?_
            go_frame
            refine reg_takeG (i := 12) (some 146) rfl rfl rfl (by kernel_rfl) (by kernel_rfl) (by kernel_rfl) (dv rt) (fun _ _ _ h => h) (fun W hW => exec_loadB (.tmp 14) rfl rfl (K14.out.next hW)) hS ?_
            go_frame
            refine reg_takeG (i := 13) (some 147) rfl rfl rfl (by kernel_rfl) (by kernel_rfl) (by kernel_rfl) (.slice A18 (pathC l f).length c18) (fun _ _ _ h => h) (fun W hW => exec_move (.tmp 18) rfl _ rfl) hS ?_
            go_frame
            refine reg_takeG (i := 15) (some 149) rfl rfl rfl (by kernel_rfl) (by kernel_rfl) (by kernel_rfl) (dv other) (fun _ _ _ h => h) (fun W hW => exec_loadB (.tmp 9) rfl rfl (KO.out.next hW)) hS ?_
            go_frame
            refine reg_takeG (i := 16) (some 150) rfl rfl rfl (by kernel_rfl) (by kernel_rfl) (by kernel_rfl) (dv od) (fun _ _ _ h => h) (fun W hW => exec_loadB (.tmp 15) rfl rfl (K15.out.next hW)) hS ?_
            go_frame
            refine reg_takeG (i := 17) (some 151) rfl rfl rfl (by kernel_rfl) (by kernel_rfl) (by kernel_rfl) (.bool (dgEq other od)) (fun _ _ _ h => h) (fun W hW => exec_eqD (.tmp 149) (.tmp 150) _ rfl other od rfl rfl) hS ?_
            go_frame
            refine reg_callG (i := 14) (some 148) rfl rfl rfl (by kernel_rfl) rfl Tryd.func30 (by kernel_rfl) (by kernel_rfl) #[.int .i64 f, .int .i64 l.length, dv other, dv rt, .slice A18 (pathC l f).length c18] rfl (HCO.out w1 (GL.out.next hS) (R18.out.next hS)) ?_
            rintro e w2 ⟨rfl, hb⟩
            have hS2 := hS.trans (hb.mono hS.size)
            refine ⟨_, rfl, hS2, ?_⟩
            go_frame
            clear hb
            refine reg_valueG (i := 18) (some 152) rfl rfl rfl (by kernel_rfl) (.bool (!(dgEq other od == dgEq other od))) (exec_neqB _ (.tmp 148) (.tmp 151) _ rfl Tryd.underlying4 _ _ rfl rfl) hS2 ?_
            go_frame
            rw [show (!(dgEq other od == dgEq other od)) = false from by simp]
            refine reg_valueG (i := 19) (some 153) rfl rfl rfl (by kernel_rfl) (.bool false) (exec_pick (.tmp 142) (.tmp 152) (.const (.bool false)) rfl _ rfl rfl) hS2 ?_
            go_frame
            refine wpAnyH_done (by kernel_rfl) ?_ _
            replace GL := Lib.hid (GL.out.next hS2)
            replace R := Lib.hid (R.out.next hS2)
            replace KO := Lib.hid (KO.out.next hS2)
            replace K14 := Lib.hid (K14.out.next hS2)
            replace K15 := Lib.hid (K15.out.next hS2)
            replace R16 := Lib.hid (R16.out.next hS2)
            replace R18 := Lib.hid (R18.out.next hS2)
            replace R20 := Lib.hid (R20.out.next hS2)
            replace R21 := Lib.hid (R21.out.next hS2)
            replace R23 := Lib.hid (R23.out.next hS2)
            replace B := Lib.hid (B.out.trans (hS2.mono B.out.size))
            clear hS hS2
            obtain ⟨wy, hwy⟩ : ∃ wy, wy = w2 := ⟨_, rfl⟩
            rw [← hwy] at GL R KO K14 K15 R16 R18 R20 R21 R23 B ⊢
            clear hwy
            go_wp2_with fail
            by_cases hf0 : f = 0
            case pos =>
              have df0 : ((f : Int) == 0) = true := by rw [hf0]; rfl
              have hsz := Lib.hid (sanity_any)
              refine wp_region_held_drew (S := fun W => Below wy.heap.size wy W) (by kernel_rfl) (Below.refl _ _).drew (fun hS => ?_)
              generalize wy.drew = w1 at hS ⊢
              refine reg_callG (i := 0) (some 154) rfl rfl rfl (by kernel_rfl) rfl Tryd.func9 (by kernel_rfl) (by kernel_rfl) #[] rfl (sanity_any w1 (GL.out.next hS)) ?_
              rintro e w2 ⟨rfl, hb⟩
              have hS2 := hS.trans (hb.mono hS.size)
              refine ⟨_, rfl, hS2, ?_⟩
              go_frame
              clear hb
              refine reg_valueG (i := 1) (some 155) rfl rfl rfl (by kernel_rfl) (.bool true) (exec_move (.tmp 154) rfl _ rfl) hS2 ?_
              go_frame
              refine reg_valueG (i := 2) (some 156) rfl rfl rfl (by kernel_rfl) (.int .i64 f) (exec_move (.tmp 13) rfl _ rfl) hS2 ?_
              go_frame
              have hne := fun (oi : Oper) (a : Act) (W : World) (rt : TypeId) (h : oi.op = .binOp .eql 3 (.tmp 156) (.const (.int .i64 0)) rt) (hx : a.eval (.tmp 156) = .int .i64 f) => exec_eqI (P := Tryd.prog) (w := W) _ (.tmp 156) (.const (.int .i64 0)) rt h .i64 (f : Int) 0 hx rfl
              rw [df0] at hne
              refine reg_valueG (i := 3) (some 157) rfl rfl rfl (by kernel_rfl) (.bool true) (hne _ _ _ _ rfl rfl) hS2 ?_
              go_frame
              clear hne
              refine reg_valueG (i := 4) (some 158) rfl rfl rfl (by kernel_rfl) (.bool true) (exec_move (.tmp 157) rfl _ rfl) hS2 ?_
              go_frame
              refine reg_skipG (i := 5) (some 159) rfl rfl rfl (by kernel_rfl) (by kernel_rfl) (by kernel_rfl) (fun _ _ _ h => h) hS2 ?_
              go_frame
              refine reg_skipG (i := 6) (some 160) rfl rfl rfl (by kernel_rfl) (by kernel_rfl) (by kernel_rfl) (fun _ _ _ h => h) hS2 ?_
              go_frame
              refine reg_skipG (i := 7) (some 161) rfl rfl rfl (by kernel_rfl) (by kernel_rfl) (by kernel_rfl) (fun _ _ _ h => h) hS2 ?_
              go_frame
              refine reg_skipG (i := 8) (some 162) rfl rfl rfl (by kernel_rfl) (by kernel_rfl) (by kernel_rfl) (fun _ _ _ h => h) hS2 ?_
              go_frame
              refine reg_skipG (i := 9) (some 163) rfl rfl rfl (by kernel_rfl) (by kernel_rfl) (by kernel_rfl) (fun _ _ _ h => h) hS2 ?_
              go_frame
              refine reg_skipG (i := 10) (some 164) rfl rfl rfl (by kernel_rfl) (by kernel_rfl) (by kernel_rfl) (fun _ _ _ h => h) hS2 ?_
              go_frame
              refine reg_skipG (i := 11) (some 165) rfl rfl rfl (by kernel_rfl) (by kernel_rfl) (by kernel_rfl) (fun _ _ _ h => h) hS2 ?_
              go_frame
              refine reg_skipG (i := 12) (some 166) rfl rfl rfl (by kernel_rfl) (by kernel_rfl) (by kernel_rfl) (fun _ _ _ h => h) hS2 ?_
              go_frame
              refine reg_skipG (i := 13) (some 167) rfl rfl rfl (by kernel_rfl) (by kernel_rfl) (by kernel_rfl) (fun _ _ _ h => h) hS2 ?_
              go_frame
              refine reg_skipG (i := 14) (some 168) rfl rfl rfl (by kernel_rfl) (by kernel_rfl) (by kernel_rfl) (fun _ _ _ h => h) hS2 ?_
              go_frame
              refine reg_valueG (i := 15) (some 169) rfl rfl rfl (by kernel_rfl) (.bool true) (exec_pick (.tmp 158) (.const (.bool true)) (.tmp 168) rfl _ rfl rfl) hS2 ?_
              go_frame
              refine reg_valueG (i := 16) (some 170) rfl rfl rfl (by kernel_rfl) (.bool true) (exec_pick (.tmp 155) (.tmp 169) (.const (.bool false)) rfl _ rfl rfl) hS2 ?_
              go_frame
              refine reg_valueG (i := 17) (some 10) rfl rfl rfl (by kernel_rfl) (.bool true) (exec_assign (.tmp 170) rfl _ rfl) hS2 ?_
              go_frame
              refine wpAnyH_done (by kernel_rfl) ?_ _
              have HF := Lib.hid (B.out.trans (hS2.mono B.out.size))
              clear hS hS2
              go_wp2
              go_ret
              exact ⟨rfl, HF.out⟩
            case neg =>
              have df0 : ((f : Int) == 0) = false := by rw [beq_eq_false_iff_ne]; omega
              have hcr : ccB l f od other = dgEq other rt := by rw [← HOD.out, ← HRT.out]; exact cc_root hf0 hfl other
              have cr := fun W (h1 : All W) (h2 : RdD W A18 (pathC l f)) => ccP_any l f od other A18 c18 W h1 h2 hn hfl
              rw [hcr] at cr
              have HCR := Lib.hid cr
              clear hcr cr
              have hsz := Lib.hid (sanity_any)
              refine wp_region_held_drew (S := fun W => Below wy.heap.size wy W) (by kernel_rfl) (Below.refl _ _).drew (fun hS => ?_)
              generalize wy.drew = w1 at hS ⊢
              refine reg_callG (i := 0) (some 154) rfl rfl rfl (by kernel_rfl) rfl Tryd.func9 (by kernel_rfl) (by kernel_rfl) #[] rfl (sanity_any w1 (GL.out.next hS)) ?_
              rintro e w2 ⟨rfl, hb⟩
              have hS2 := hS.trans (hb.mono hS.size)
              refine ⟨_, rfl, hS2, ?_⟩
              go_frame
              clear hb
              refine reg_valueG (i := 1) (some 155) rfl rfl rfl (by kernel_rfl) (.bool true) (exec_move (.tmp 154) rfl _ rfl) hS2 ?_
              go_frame
              refine reg_valueG (i := 2) (some 156) rfl rfl rfl (by kernel_rfl) (.int .i64 f) (exec_move (.tmp 13) rfl _ rfl) hS2 ?_
              go_frame
              have hne := fun (oi : Oper) (a : Act) (W : World) (rt : TypeId) (h : oi.op = .binOp .eql 3 (.tmp 156) (.const (.int .i64 0)) rt) (hx : a.eval (.tmp 156) = .int .i64 f) => exec_eqI (P := Tryd.prog) (w := W) _ (.tmp 156) (.const (.int .i64 0)) rt h .i64 (f : Int) 0 hx rfl
              rw [df0] at hne
              refine reg_valueG (i := 3) (some 157) rfl rfl rfl (by kernel_rfl) (.bool false) (hne _ _ _ _ rfl rfl) hS2 ?_
              go_frame
              clear hne
              refine reg_valueG (i := 4) (some 158) rfl rfl rfl (by kernel_rfl) (.bool false) (exec_move (.tmp 157) rfl _ rfl) hS2 ?_
              go_frame
              refine reg_takeG (i := 5) (some 159) rfl rfl rfl (by kernel_rfl) (by kernel_rfl) (by kernel_rfl) (.int .i64 f) (fun _ _ _ h => h) (fun W hW => exec_move (.tmp 13) rfl _ rfl) hS2 ?_
              go_frame
              refine reg_takeG (i := 6) (some 160) rfl rfl rfl (by kernel_rfl) (by kernel_rfl) (by kernel_rfl) (.int .i64 l.length) (fun _ _ _ h => h) (fun W hW => exec_move (.tmp 11) rfl _ rfl) hS2 ?_
              go_frame
              refine reg_takeG (i := 7) (some 161) rfl rfl rfl (by kernel_rfl) (by kernel_rfl) (by kernel_rfl) (dv od) (fun _ _ _ h => h) (fun W hW => exec_loadB (.tmp 15) rfl rfl (K15.out.next hW)) hS2 ?_
              go_frame
              refine reg_takeG (i := 8) (some 162) rfl rfl rfl (by kernel_rfl) (by kernel_rfl) (by kernel_rfl) (dv other) (fun _ _ _ h => h) (fun W hW => exec_loadB (.tmp 9) rfl rfl (KO.out.next hW)) hS2 ?_
              go_frame
              refine reg_takeG (i := 9) (some 163) rfl rfl rfl (by kernel_rfl) (by kernel_rfl) (by kernel_rfl) (.slice A18 (pathC l f).length c18) (fun _ _ _ h => h) (fun W hW => exec_move (.tmp 18) rfl _ rfl) hS2 ?_
              go_frame
              refine reg_takeG (i := 11) (some 165) rfl rfl rfl (by kernel_rfl) (by kernel_rfl) (by kernel_rfl) (dv other) (fun _ _ _ h => h) (fun W hW => exec_loadB (.tmp 9) rfl rfl (KO.out.next hW)) hS2 ?_
              go_frame
              refine reg_takeG (i := 12) (some 166) rfl rfl rfl (by kernel_rfl) (by kernel_rfl) (by kernel_rfl) (dv rt) (fun _ _ _ h => h) (fun W hW => exec_loadB (.tmp 14) rfl rfl (K14.out.next hW)) hS2 ?_
              go_frame
              refine reg_takeG (i := 13) (some 167) rfl rfl rfl (by kernel_rfl) (by kernel_rfl) (by kernel_rfl) (.bool (dgEq other rt)) (fun _ _ _ h => h) (fun W hW => exec_eqD (.tmp 165) (.tmp 166) _ rfl other rt rfl rfl) hS2 ?_
              go_frame
              refine reg_callG (i := 10) (some 164) rfl rfl rfl (by kernel_rfl) rfl Tryd.func30 (by kernel_rfl) (by kernel_rfl) #[.int .i64 f, .int .i64 l.length, dv od, dv other, .slice A18 (pathC l f).length c18] rfl (HCR.out w2 (GL.out.next hS2) (R18.out.next hS2)) ?_
              rintro e w3 ⟨rfl, hb⟩
              have hS3 := hS2.trans (hb.mono hS2.size)
              refine ⟨_, rfl, hS3, ?_⟩
              go_frame
              clear hb
              refine reg_valueG (i := 14) (some 168) rfl rfl rfl (by kernel_rfl) (.bool (dgEq other rt == dgEq other rt)) (exec_eqB _ (.tmp 164) (.tmp 167) _ rfl Tryd.underlying4 _ _ rfl rfl) hS3 ?_
              go_frame
              rw [show (dgEq other rt == dgEq other rt) = true from by simp]
              refine reg_valueG (i := 15) (some 169) rfl rfl rfl (by kernel_rfl) (.bool true) (exec_pickF (.tmp 158) (.const (.bool true)) (.tmp 168) rfl _ rfl rfl) hS3 ?_
              go_frame
              refine reg_valueG (i := 16) (some 170) rfl rfl rfl (by kernel_rfl) (.bool true) (exec_pick (.tmp 155) (.tmp 169) (.const (.bool false)) rfl _ rfl rfl) hS3 ?_
              go_frame
              refine reg_valueG (i := 17) (some 10) rfl rfl rfl (by kernel_rfl) (.bool true) (exec_assign (.tmp 170) rfl _ rfl) hS3 ?_
              go_frame
              refine wpAnyH_done (by kernel_rfl) ?_ _
              have HF := Lib.hid (B.out.trans (hS3.mono B.out.size))
              clear hS hS2 hS3
              go_wp2
              go_ret
              exact ⟨rfl, HF.out⟩
          case pos =>
            have dne : ((q : Int) != (f : Int)) = false := by rw [hqf]; simp
            by_cases hfn : f = l.length
            case pos =>
              have dfn : ((f : Int) == (l.length : Int)) = true := by rw [hfn]; simp
              have hco : ccB l f other rt = dgEq other od := by rw [← HOD.out, ← HRT.out]; exact cc_old hfl (.inl hfn) other
              have co := fun W (h1 : All W) (h2 : RdD W A18 (pathC l f)) => ccP_any l f other rt A18 c18 W h1 h2 hn hfl
              rw [hco] at co
              have HCO := Lib.hid co
              clear hco co
              refine wp_region_held_drew (S := fun W => Below wx.heap.size wx W) (by kernel_rfl) (Below.refl _ _).drew (fun hS => ?_)
              generalize wx.drew = w1 at hS ⊢
              refine reg_takeG (i := 0) (some 134) rfl rfl rfl (by kernel_rfl) (by kernel_rfl) (by kernel_rfl) (.int .i64 q) (fun _ _ _ h => h) (fun W hW => exec_move (.tmp 25) rfl _ rfl) hS ?_
              go_frame
              refine reg_takeG (i := 1) (some 135) rfl rfl rfl (by kernel_rfl) (by kernel_rfl) (by kernel_rfl) (.int .i64 f) (fun _ _ _ h => h) (fun W hW => exec_move (.tmp 13) rfl _ rfl) hS ?_
              go_frame
              have hne := fun (oi : Oper) (a : Act) (rt : TypeId) (h : oi.op = .binOp .neq 3 (.tmp 134) (.tmp 135) rt) (hx : a.eval (.tmp 134) = .int .i64 q) (hy : a.eval (.tmp 135) = .int .i64 f) => exec_neqI (P := Tryd.prog) (w := w1) _ (.tmp 134) (.tmp 135) rt h .i64 (q : Int) (f : Int) hx hy
              rw [dne] at hne
              refine reg_valueG (i := 2) (some 136) rfl rfl rfl (by kernel_rfl) (.bool false) (hne _ _ _ rfl rfl rfl) hS ?_
              go_frame
              clear hne
              refine reg_valueG (i := 3) (some 137) rfl rfl rfl (by kernel_rfl) (.bool false) (exec_move (.tmp 136) rfl _ rfl) hS ?_
              go_frame
              refine reg_takeG (i := 4) (some 138) rfl rfl rfl (by kernel_rfl) (by kernel_rfl) (by kernel_rfl) (.int .i64 f) (fun _ _ _ h => h) (fun W hW => exec_move (.tmp 13) rfl _ rfl) hS ?_
              go_frame
              refine reg_takeG (i := 5) (some 139) rfl rfl rfl (by kernel_rfl) (by kernel_rfl) (by kernel_rfl) (.int .i64 l.length) (fun _ _ _ h => h) (fun W hW => exec_move (.tmp 11) rfl _ rfl) hS ?_
              go_frame
              have hne := fun (oi : Oper) (a : Act) (rt : TypeId) (h : oi.op = .binOp .eql 3 (.tmp 138) (.tmp 139) rt) (hx : a.eval (.tmp 138) = .int .i64 f) (hy : a.eval (.tmp 139) = .int .i64 l.length) => exec_eqI (P := Tryd.prog) (w := w1) _ (.tmp 138) (.tmp 139) rt h .i64 (f : Int) (l.length : Int) hx hy
              rw [dfn] at hne
              refine reg_valueG (i := 6) (some 140) rfl rfl rfl (by kernel_rfl) (.bool true) (hne _ _ _ rfl rfl rfl) hS ?_
              go_frame
              clear hne
              refine reg_valueG (i := 7) (some 141) rfl rfl rfl (by kernel_rfl) (.bool true) (exec_pickF (.tmp 137) (.const (.bool true)) (.tmp 140) rfl _ rfl rfl) hS ?_
              go_frame
              refine reg_valueG (i := 8) (some 142) rfl rfl rfl (by kernel_rfl) (.bool true) (exec_move (.tmp 141) rfl _ rfl) hS ?_
              go_frame
              refine reg_takeG (i := 9) (some 143) rfl rfl rfl (by kernel_rfl) (by kernel_rfl) (by kernel_rfl) (.int .i64 f) (fun _ _ _ h => h) (fun W hW => exec_move (.tmp 13) rfl _ rfl) hS ?_
              go_frame
              refine reg_takeG (i := 10) (some 144) rfl rfl rfl (by kernel_rfl) (by kernel_rfl) (by kernel_rfl) (.int .i64 l.length) (fun _ _ _ h => h) (fun W hW => exec_move (.tmp 11) rfl _ rfl) hS ?_
              go_frame
              refine reg_takeG (i := 11) (some 145) rfl rfl rfl (by kernel_rfl) (by kernel_rfl) (by kernel_rfl) (dv other) (fun _ _ _ h => h) (fun W hW => exec_loadB (.tmp 9) rfl rfl (KO.out.next hW)) hS ?_
              go_frame
              refine reg_takeG (i := 12) (some 146) rfl rfl rfl (by kernel_rfl) (by kernel_rfl) (by kernel_rfl) (dv rt) (fun _ _ _ h => h) (fun W hW => exec_loadB (.tmp 14) rfl rfl (K14.out.next hW)) hS ?_
              go_frame
              refine reg_takeG (i := 13) (some 147) rfl rfl rfl (by kernel_rfl) (by kernel_rfl) (by kernel_rfl) (.slice A18 (pathC l f).length c18) (fun _ _ _ h => h) (fun W hW => exec_move (.tmp 18) rfl _ rfl) hS ?_
              go_frame
              refine reg_takeG (i := 15) (some 149) rfl rfl rfl (by kernel_rfl) (by kernel_rfl) (by kernel_rfl) (dv other) (fun _ _ _ h => h) (fun W hW => exec_loadB (.tmp 9) rfl rfl (KO.out.next hW)) hS ?_
              go_frame
              refine reg_takeG (i := 16) (some 150) rfl rfl rfl (by kernel_rfl) (by kernel_rfl) (by kernel_rfl) (dv od) (fun _ _ _ h => h) (fun W hW => exec_loadB (.tmp 15) rfl rfl (K15.out.next hW)) hS ?_
              go_frame
              refine reg_takeG (i := 17) (some 151) rfl rfl rfl (by kernel_rfl) (by kernel_rfl) (by kernel_rfl) (.bool (dgEq other od)) (fun _ _ _ h => h) (fun W hW => exec_eqD (.tmp 149) (.tmp 150) _ rfl other od rfl rfl) hS ?_
              go_frame
              refine reg_callG (i := 14) (some 148) rfl rfl rfl (by kernel_rfl) rfl Tryd.func30 (by kernel_rfl) (by kernel_rfl) #[.int .i64 f, .int .i64 l.length, dv other, dv rt, .slice A18 (pathC l f).length c18] rfl (HCO.out w1 (GL.out.next hS) (R18.out.next hS)) ?_
              rintro e w2 ⟨rfl, hb⟩
              have hS2 := hS.trans (hb.mono hS.size)
              refine ⟨_, rfl, hS2, ?_⟩
              go_frame
              clear hb
              refine reg_valueG (i := 18) (some 152) rfl rfl rfl (by kernel_rfl) (.bool (!(dgEq other od == dgEq other od))) (exec_neqB _ (.tmp 148) (.tmp 151) _ rfl Tryd.underlying4 _ _ rfl rfl) hS2 ?_
              go_frame
              rw [show (!(dgEq other od == dgEq other od)) = false from by simp]
              refine reg_valueG (i := 19) (some 153) rfl rfl rfl (by kernel_rfl) (.bool false) (exec_pick (.tmp 142) (.tmp 152) (.const (.bool false)) rfl _ rfl rfl) hS2 ?_
              go_frame
              refine wpAnyH_done (by kernel_rfl) ?_ _
              replace GL := Lib.hid (GL.out.next hS2)
              replace R := Lib.hid (R.out.next hS2)
              replace KO := Lib.hid (KO.out.next hS2)
              replace K14 := Lib.hid (K14.out.next hS2)
              replace K15 := Lib.hid (K15.out.next hS2)
              replace R16 := Lib.hid (R16.out.next hS2)
              replace R18 := Lib.hid (R18.out.next hS2)
              replace R20 := Lib.hid (R20.out.next hS2)
              replace R21 := Lib.hid (R21.out.next hS2)
              replace R23 := Lib.hid (R23.out.next hS2)
              replace B := Lib.hid (B.out.trans (hS2.mono B.out.size))
              clear hS hS2
              obtain ⟨wy, hwy⟩ : ∃ wy, wy = w2 := ⟨_, rfl⟩
              rw [← hwy] at GL R KO K14 K15 R16 R18 R20 R21 R23 B ⊢
              clear hwy
              go_wp2_with fail
              by_cases hf0 : f = 0
              case pos =>
                have df0 : ((f : Int) == 0) = true := by rw [hf0]; rfl
                have hsz := Lib.hid (sanity_any)
                refine wp_region_held_drew (S := fun W => Below wy.heap.size wy W) (by kernel_rfl) (Below.refl _ _).drew (fun hS => ?_)
                generalize wy.drew = w1 at hS ⊢
                refine reg_callG (i := 0) (some 154) rfl rfl rfl (by kernel_rfl) rfl Tryd.func9 (by kernel_rfl) (by kernel_rfl) #[] rfl (sanity_any w1 (GL.out.next hS)) ?_
                rintro e w2 ⟨rfl, hb⟩
                have hS2 := hS.trans (hb.mono hS.size)
                refine ⟨_, rfl, hS2, ?_⟩
                go_frame
                clear hb
                refine reg_valueG (i := 1) (some 155) rfl rfl rfl (by kernel_rfl) (.bool true) (exec_move (.tmp 154) rfl _ rfl) hS2 ?_
                go_frame
                refine reg_valueG (i := 2) (some 156) rfl rfl rfl (by kernel_rfl) (.int .i64 f) (exec_move (.tmp 13) rfl _ rfl) hS2 ?_
                go_frame
                have hne := fun (oi : Oper) (a : Act) (W : World) (rt : TypeId) (h : oi.op = .binOp .eql 3 (.tmp 156) (.const (.int .i64 0)) rt) (hx : a.eval (.tmp 156) = .int .i64 f) => exec_eqI (P := Tryd.prog) (w := W) _ (.tmp 156) (.const (.int .i64 0)) rt h .i64 (f : Int) 0 hx rfl
                rw [df0] at hne
                refine reg_valueG (i := 3) (some 157) rfl rfl rfl (by kernel_rfl) (.bool true) (hne _ _ _ _ rfl rfl) hS2 ?_
                go_frame
                clear hne
                refine reg_valueG (i := 4) (some 158) rfl rfl rfl (by kernel_rfl) (.bool true) (exec_move (.tmp 157) rfl _ rfl) hS2 ?_
                go_frame
                refine reg_skipG (i := 5) (some 159) rfl rfl rfl (by kernel_rfl) (by kernel_rfl) (by kernel_rfl) (fun _ _ _ h => h) hS2 ?_
                go_frame
                refine reg_skipG (i := 6) (some 160) rfl rfl rfl (by kernel_rfl) (by kernel_rfl) (by kernel_rfl) (fun _ _ _ h => h) hS2 ?_
                go_frame
                refine reg_skipG (i := 7) (some 161) rfl rfl rfl (by kernel_rfl) (by kernel_rfl) (by kernel_rfl) (fun _ _ _ h => h) hS2 ?_
                go_frame
                refine reg_skipG (i := 8) (some 162) rfl rfl rfl (by kernel_rfl) (by kernel_rfl) (by kernel_rfl) (fun _ _ _ h => h) hS2 ?_
                go_frame
                refine reg_skipG (i := 9) (some 163) rfl rfl rfl (by kernel_rfl) (by kernel_rfl) (by kernel_rfl) (fun _ _ _ h => h) hS2 ?_
                go_frame
                refine reg_skipG (i := 10) (some 164) rfl rfl rfl (by kernel_rfl) (by kernel_rfl) (by kernel_rfl) (fun _ _ _ h => h) hS2 ?_
                go_frame
                refine reg_skipG (i := 11) (some 165) rfl rfl rfl (by kernel_rfl) (by kernel_rfl) (by kernel_rfl) (fun _ _ _ h => h) hS2 ?_
                go_frame
                refine reg_skipG (i := 12) (some 166) rfl rfl rfl (by kernel_rfl) (by kernel_rfl) (by kernel_rfl) (fun _ _ _ h => h) hS2 ?_
                go_frame
                refine reg_skipG (i := 13) (some 167) rfl rfl rfl (by kernel_rfl) (by kernel_rfl) (by kernel_rfl) (fun _ _ _ h => h) hS2 ?_
                go_frame
                refine reg_skipG (i := 14) (some 168) rfl rfl rfl (by kernel_rfl) (by kernel_rfl) (by kernel_rfl) (fun _ _ _ h => h) hS2 ?_
                go_frame
                refine reg_valueG (i := 15) (some 169) rfl rfl rfl (by kernel_rfl) (.bool true) (exec_pick (.tmp 158) (.const (.bool true)) (.tmp 168) rfl _ rfl rfl) hS2 ?_
                go_frame
                refine reg_valueG (i := 16) (some 170) rfl rfl rfl (by kernel_rfl) (.bool true) (exec_pick (.tmp 155) (.tmp 169) (.const (.bool false)) rfl _ rfl rfl) hS2 ?_
                go_frame
                refine reg_valueG (i := 17) (some 10) rfl rfl rfl (by kernel_rfl) (.bool true) (exec_assign (.tmp 170) rfl _ rfl) hS2 ?_
                go_frame
                refine wpAnyH_done (by kernel_rfl) ?_ _
                have HF := Lib.hid (B.out.trans (hS2.mono B.out.size))
                clear hS hS2
                go_wp2
                go_ret
                exact ⟨rfl, HF.out⟩
              case neg =>
                have df0 : ((f : Int) == 0) = false := by rw [beq_eq_false_iff_ne]; omega
                have hcr : ccB l f od other = dgEq other rt := by rw [← HOD.out, ← HRT.out]; exact cc_root hf0 hfl other
                have cr := fun W (h1 : All W) (h2 : RdD W A18 (pathC l f)) => ccP_any l f od other A18 c18 W h1 h2 hn hfl
                rw [hcr] at cr
                have HCR := Lib.hid cr
                clear hcr cr
                have hsz := Lib.hid (sanity_any)
                refine wp_region_held_drew (S := fun W => Below wy.heap.size wy W) (by kernel_rfl) (Below.refl _ _).drew (fun hS => ?_)
                generalize wy.drew = w1 at hS ⊢
                refine reg_callG (i := 0) (some 154) rfl rfl rfl (by kernel_rfl) rfl Tryd.func9 (by kernel_rfl) (by kernel_rfl) #[] rfl (sanity_any w1 (GL.out.next hS)) ?_
                rintro e w2 ⟨rfl, hb⟩
                have hS2 := hS.trans (hb.mono hS.size)
                refine ⟨_, rfl, hS2, ?_⟩
                go_frame
                clear hb
                refine reg_valueG (i := 1) (some 155) rfl rfl rfl (by kernel_rfl) (.bool true) (exec_move (.tmp 154) rfl _ rfl) hS2 ?_
                go_frame
                refine reg_valueG (i := 2) (some 156) rfl rfl rfl (by kernel_rfl) (.int .i64 f) (exec_move (.tmp 13) rfl _ rfl) hS2 ?_
                go_frame
                have hne := fun (oi : Oper) (a : Act) (W : World) (rt : TypeId) (h : oi.op = .binOp .eql 3 (.tmp 156) (.const (.int .i64 0)) rt) (hx : a.eval (.tmp 156) = .int .i64 f) => exec_eqI (P := Tryd.prog) (w := W) _ (.tmp 156) (.const (.int .i64 0)) rt h .i64 (f : Int) 0 hx rfl
                rw [df0] at hne
                refine reg_valueG (i := 3) (some 157) rfl rfl rfl (by kernel_rfl) (.bool false) (hne _ _ _ _ rfl rfl) hS2 ?_
                go_frame
                clear hne
                refine reg_valueG (i := 4) (some 158) rfl rfl rfl (by kernel_rfl) (.bool false) (exec_move (.tmp 157) rfl _ rfl) hS2 ?_
                go_frame
                refine reg_takeG (i := 5) (some 159) rfl rfl rfl (by kernel_rfl) (by kernel_rfl) (by kernel_rfl) (.int .i64 f) (fun _ _ _ h => h) (fun W hW => exec_move (.tmp 13) rfl _ rfl) hS2 ?_
                go_frame
                refine reg_takeG (i := 6) (some 160) rfl rfl rfl (by kernel_rfl) (by kernel_rfl) (by kernel_rfl) (.int .i64 l.length) (fun _ _ _ h => h) (fun W hW => exec_move (.tmp 11) rfl _ rfl) hS2 ?_
                go_frame
                refine reg_takeG (i := 7) (some 161) rfl rfl rfl (by kernel_rfl) (by kernel_rfl) (by kernel_rfl) (dv od) (fun _ _ _ h => h) (fun W hW => exec_loadB (.tmp 15) rfl rfl (K15.out.next hW)) hS2 ?_
                go_frame
                refine reg_takeG (i := 8) (some 162) rfl rfl rfl (by kernel_rfl) (by kernel_rfl) (by kernel_rfl) (dv other) (fun _ _ _ h => h) (fun W hW => exec_loadB (.tmp 9) rfl rfl (KO.out.next hW)) hS2 ?_
                go_frame
                refine reg_takeG (i := 9) (some 163) rfl rfl rfl (by kernel_rfl) (by kernel_rfl) (by kernel_rfl) (.slice A18 (pathC l f).length c18) (fun _ _ _ h => h) (fun W hW => exec_move (.tmp 18) rfl _ rfl) hS2 ?_
                go_frame
                refine reg_takeG (i := 11) (some 165) rfl rfl rfl (by kernel_rfl) (by kernel_rfl) (by kernel_rfl) (dv other) (fun _ _ _ h => h) (fun W hW => exec_loadB (.tmp 9) rfl rfl (KO.out.next hW)) hS2 ?_
                go_frame
                refine reg_takeG (i := 12) (some 166) rfl rfl rfl (by kernel_rfl) (by kernel_rfl) (by kernel_rfl) (dv rt) (fun _ _ _ h => h) (fun W hW => exec_loadB (.tmp 14) rfl rfl (K14.out.next hW)) hS2 ?_
                go_frame
                refine reg_takeG (i := 13) (some 167) rfl rfl rfl (by kernel_rfl) (by kernel_rfl) (by kernel_rfl) (.bool (dgEq other rt)) (fun _ _ _ h => h) (fun W hW => exec_eqD (.tmp 165) (.tmp 166) _ rfl other rt rfl rfl) hS2 ?_
                go_frame
                refine reg_callG (i := 10) (some 164) rfl rfl rfl (by kernel_rfl) rfl Tryd.func30 (by kernel_rfl) (by kernel_rfl) #[.int .i64 f, .int .i64 l.length, dv od, dv other, .slice A18 (pathC l f).length c18] rfl (HCR.out w2 (GL.out.next hS2) (R18.out.next hS2)) ?_
                rintro e w3 ⟨rfl, hb⟩
                have hS3 := hS2.trans (hb.mono hS2.size)
                refine ⟨_, rfl, hS3, ?_⟩
                go_frame
                clear hb
                refine reg_valueG (i := 14) (some 168) rfl rfl rfl (by kernel_rfl) (.bool (dgEq other rt == dgEq other rt)) (exec_eqB _ (.tmp 164) (.tmp 167) _ rfl Tryd.underlying4 _ _ rfl rfl) hS3 ?_
                go_frame
                rw [show (dgEq other rt == dgEq other rt) = true from by simp]
                refine reg_valueG (i := 15) (some 169) rfl rfl rfl (by kernel_rfl) (.bool true) (exec_pickF (.tmp 158) (.const (.bool true)) (.tmp 168) rfl _ rfl rfl) hS3 ?_
                go_frame
                refine reg_valueG (i := 16) (some 170) rfl rfl rfl (by kernel_rfl) (.bool true) (exec_pick (.tmp 155) (.tmp 169) (.const (.bool false)) rfl _ rfl rfl) hS3 ?_
                go_frame
                refine reg_valueG (i := 17) (some 10) rfl rfl rfl (by kernel_rfl) (.bool true) (exec_assign (.tmp 170) rfl _ rfl) hS3 ?_
                go_frame
                refine wpAnyH_done (by kernel_rfl) ?_ _
                have HF := Lib.hid (B.out.trans (hS3.mono B.out.size))
                clear hS hS2 hS3
                go_wp2
                go_ret
                exact ⟨rfl, HF.out⟩
            case neg =>
              have dfn : ((f : Int) == (l.length : Int)) = false := by rw [beq_eq_false_iff_ne]; omega
              refine wp_region_held_drew (S := fun W => Below wx.heap.size wx W) (by kernel_rfl) (Below.refl _ _).drew (fun hS => ?_)
              generalize wx.drew = w1 at hS ⊢
              refine reg_takeG (i := 0) (some 134) rfl rfl rfl (by kernel_rfl) (by kernel_rfl) (by kernel_rfl) (.int .i64 q) (fun _ _ _ h => h) (fun W hW => exec_move (.tmp 25) rfl _ rfl) hS ?_
              go_frame
              refine reg_takeG (i := 1) (some 135) rfl rfl rfl (by kernel_rfl) (by kernel_rfl) (by kernel_rfl) (.int .i64 f) (fun _ _ _ h => h) (fun W hW => exec_move (.tmp 13) rfl _ rfl) hS ?_
              go_frame
              have hne := fun (oi : Oper) (a : Act) (rt : TypeId) (h : oi.op = .binOp .neq 3 (.tmp 134) (.tmp 135) rt) (hx : a.eval (.tmp 134) = .int .i64 q) (hy : a.eval (.tmp 135) = .int .i64 f) => exec_neqI (P := Tryd.prog) (w := w1) _ (.tmp 134) (.tmp 135) rt h .i64 (q : Int) (f : Int) hx hy
              rw [dne] at hne
              refine reg_valueG (i := 2) (some 136) rfl rfl rfl (by kernel_rfl) (.bool false) (hne _ _ _ rfl rfl rfl) hS ?_
              go_frame
              clear hne
              refine reg_valueG (i := 3) (some 137) rfl rfl rfl (by kernel_rfl) (.bool false) (exec_move (.tmp 136) rfl _ rfl) hS ?_
              go_frame
              refine reg_takeG (i := 4) (some 138) rfl rfl rfl (by kernel_rfl) (by kernel_rfl) (by kernel_rfl) (.int .i64 f) (fun _ _ _ h => h) (fun W hW => exec_move (.tmp 13) rfl _ rfl) hS ?_
              go_frame
              refine reg_takeG (i := 5) (some 139) rfl rfl rfl (by kernel_rfl) (by kernel_rfl) (by kernel_rfl) (.int .i64 l.length) (fun _ _ _ h => h) (fun W hW => exec_move (.tmp 11) rfl _ rfl) hS ?_
              go_frame
              have hne := fun (oi : Oper) (a : Act) (rt : TypeId) (h : oi.op = .binOp .eql 3 (.tmp 138) (.tmp 139) rt) (hx : a.eval (.tmp 138) = .int .i64 f) (hy : a.eval (.tmp 139) = .int .i64 l.length) => exec_eqI (P := Tryd.prog) (w := w1) _ (.tmp 138) (.tmp 139) rt h .i64 (f : Int) (l.length : Int) hx hy
              rw [dfn] at hne
              refine reg_valueG (i := 6) (some 140) rfl rfl rfl (by kernel_rfl) (.bool false) (hne _ _ _ rfl rfl rfl) hS ?_
              go_frame
              clear hne
              refine reg_valueG (i := 7) (some 141) rfl rfl rfl (by kernel_rfl) (.bool false) (exec_pickF (.tmp 137) (.const (.bool true)) (.tmp 140) rfl _ rfl rfl) hS ?_
              go_frame
              refine reg_valueG (i := 8) (some 142) rfl rfl rfl (by kernel_rfl) (.bool false) (exec_move (.tmp 141) rfl _ rfl) hS ?_
              go_frame
              refine reg_skipG (i := 9) (some 143) rfl rfl rfl (by kernel_rfl) (by kernel_rfl) (by kernel_rfl) (fun _ _ _ h => h) hS ?_
              go_frame
              refine reg_skipG (i := 10) (some 144) rfl rfl rfl (by kernel_rfl) (by kernel_rfl) (by kernel_rfl) (fun _ _ _ h => h) hS ?_
              go_frame
              refine reg_skipG (i := 11) (some 145) rfl rfl rfl (by kernel_rfl) (by kernel_rfl) (by kernel_rfl) (fun _ _ _ h => h) hS ?_
              go_frame
              refine reg_skipG (i := 12) (some 146) rfl rfl rfl (by kernel_rfl) (by kernel_rfl) (by kernel_rfl) (fun _ _ _ h => h) hS ?_
              go_frame
              refine reg_skipG (i := 13) (some 147) rfl rfl rfl (by kernel_rfl) (by kernel_rfl) (by kernel_rfl) (fun _ _ _ h => h) hS ?_
              go_frame
              refine reg_skipG (i := 14) (some 148) rfl rfl rfl (by kernel_rfl) (by kernel_rfl) (by kernel_rfl) (fun _ _ _ h => h) hS ?_
              go_frame
              refine reg_skipG (i := 15) (some 149) rfl rfl rfl (by kernel_rfl) (by kernel_rfl) (by kernel_rfl) (fun _ _ _ h => h) hS ?_
              go_frame
              refine reg_skipG (i := 16) (some 150) rfl rfl rfl (by kernel_rfl) (by kernel_rfl) (by kernel_rfl) (fun _ _ _ h => h) hS ?_
              go_frame
              refine reg_skipG (i := 17) (some 151) rfl rfl rfl (by kernel_rfl) (by kernel_rfl) (by kernel_rfl) (fun _ _ _ h => h) hS ?_
              go_frame
              refine reg_skipG (i := 18) (some 152) rfl rfl rfl (by kernel_rfl) (by kernel_rfl) (by kernel_rfl) (fun _ _ _ h => h) hS ?_
              go_frame
              refine reg_valueG (i := 19) (some 153) rfl rfl rfl (by kernel_rfl) (.bool false) (exec_pickF (.tmp 142) (.tmp 152) (.const (.bool false)) rfl _ rfl rfl) hS ?_
              go_frame
              refine wpAnyH_done (by kernel_rfl) ?_ _
              replace GL := Lib.hid (GL.out.next hS)
              replace R := Lib.hid (R.out.next hS)
              replace KO := Lib.hid (KO.out.next hS)
              replace K14 := Lib.hid (K14.out.next hS)
              replace K15 := Lib.hid (K15.out.next hS)
              replace R16 := Lib.hid (R16.out.next hS)
              replace R18 := Lib.hid (R18.out.next hS)
              replace R20 := Lib.hid (R20.out.next hS)
              replace R21 := Lib.hid (R21.out.next hS)
              replace R23 := Lib.hid (R23.out.next hS)
              replace B := Lib.hid (B.out.trans (hS.mono B.out.size))
              clear hS
              obtain ⟨wy, hwy⟩ : ∃ wy, wy = w1 := ⟨_, rfl⟩
              rw [← hwy] at GL R KO K14 K15 R16 R18 R20 R21 R23 B ⊢
              clear hwy
              go_wp2_with fail
              by_cases hf0 : f = 0
              case pos =>
                have df0 : ((f : Int) == 0) = true := by rw [hf0]; rfl
                have hsz := Lib.hid (sanity_any)
                refine wp_region_held_drew (S := fun W => Below wy.heap.size wy W) (by kernel_rfl) (Below.refl _ _).drew (fun hS => ?_)
                generalize wy.drew = w1 at hS ⊢
                refine reg_callG (i := 0) (some 154) rfl rfl rfl (by kernel_rfl) rfl Tryd.func9 (by kernel_rfl) (by kernel_rfl) #[] rfl (sanity_any w1 (GL.out.next hS)) ?_
                rintro e w2 ⟨rfl, hb⟩
                have hS2 := hS.trans (hb.mono hS.size)
                refine ⟨_, rfl, hS2, ?_⟩
                go_frame
                clear hb
                refine reg_valueG (i := 1) (some 155) rfl rfl rfl (by kernel_rfl) (.bool true) (exec_move (.tmp 154) rfl _ rfl) hS2 ?_
                go_frame
                refine reg_valueG (i := 2) (some 156) rfl rfl rfl (by kernel_rfl) (.int .i64 f) (exec_move (.tmp 13) rfl _ rfl) hS2 ?_
                go_frame
                have hne := fun (oi : Oper) (a : Act) (W : World) (rt : TypeId) (h : oi.op = .binOp .eql 3 (.tmp 156) (.const (.int .i64 0)) rt) (hx : a.eval (.tmp 156) = .int .i64 f) => exec_eqI (P := Tryd.prog) (w := W) _ (.tmp 156) (.const (.int .i64 0)) rt h .i64 (f : Int) 0 hx rfl
                rw [df0] at hne
                refine reg_valueG (i := 3) (some 157) rfl rfl rfl (by kernel_rfl) (.bool true) (hne _ _ _ _ rfl rfl) hS2 ?_
                go_frame
                clear hne
                refine reg_valueG (i := 4) (some 158) rfl rfl rfl (by kernel_rfl) (.bool true) (exec_move (.tmp 157) rfl _ rfl) hS2 ?_
                go_frame
                refine reg_skipG (i := 5) (some 159) rfl rfl rfl (by kernel_rfl) (by kernel_rfl) (by kernel_rfl) (fun _ _ _ h => h) hS2 ?_
                go_frame
                refine reg_skipG (i := 6) (some 160) rfl rfl rfl (by kernel_rfl) (by kernel_rfl) (by kernel_rfl) (fun _ _ _ h => h) hS2 ?_
                go_frame
                refine reg_skipG (i := 7) (some 161) rfl rfl rfl (by kernel_rfl) (by kernel_rfl) (by kernel_rfl) (fun _ _ _ h => h) hS2 ?_
                go_frame
                refine reg_skipG (i := 8) (some 162) rfl rfl rfl (by kernel_rfl) (by kernel_rfl) (by kernel_rfl) (fun _ _ _ h => h) hS2 ?_
                go_frame
                refine reg_skipG (i := 9) (some 163) rfl rfl rfl (by kernel_rfl) (by kernel_rfl) (by kernel_rfl) (fun _ _ _ h => h) hS2 ?_
                go_frame
                refine reg_skipG (i := 10) (some 164) rfl rfl rfl (by kernel_rfl) (by kernel_rfl) (by kernel_rfl) (fun _ _ _ h => h) hS2 ?_
                go_frame
                refine reg_skipG (i := 11) (some 165) rfl rfl rfl (by kernel_rfl) (by kernel_rfl) (by kernel_rfl) (fun _ _ _ h => h) hS2 ?_
                go_frame
                refine reg_skipG (i := 12) (some 166) rfl rfl rfl (by kernel_rfl) (by kernel_rfl) (by kernel_rfl) (fun _ _ _ h => h) hS2 ?_
                go_frame
                refine reg_skipG (i := 13) (some 167) rfl rfl rfl (by kernel_rfl) (by kernel_rfl) (by kernel_rfl) (fun _ _ _ h => h) hS2 ?_
                go_frame
                refine reg_skipG (i := 14) (some 168) rfl rfl rfl (by kernel_rfl) (by kernel_rfl) (by kernel_rfl) (fun _ _ _ h => h) hS2 ?_
                go_frame
                refine reg_valueG (i := 15) (some 169) rfl rfl rfl (by kernel_rfl) (.bool true) (exec_pick (.tmp 158) (.const (.bool true)) (.tmp 168) rfl _ rfl rfl) hS2 ?_
                go_frame
                refine reg_valueG (i := 16) (some 170) rfl rfl rfl (by kernel_rfl) (.bool true) (exec_pick (.tmp 155) (.tmp 169) (.const (.bool false)) rfl _ rfl rfl) hS2 ?_
                go_frame
                refine reg_valueG (i := 17) (some 10) rfl rfl rfl (by kernel_rfl) (.bool true) (exec_assign (.tmp 170) rfl _ rfl) hS2 ?_
                go_frame
                refine wpAnyH_done (by kernel_rfl) ?_ _
                have HF := Lib.hid (B.out.trans (hS2.mono B.out.size))
                clear hS hS2
                go_wp2
                go_ret
                exact ⟨rfl, HF.out⟩
              case neg =>
                have df0 : ((f : Int) == 0) = false := by rw [beq_eq_false_iff_ne]; omega
                have hcr : ccB l f od other = dgEq other rt := by rw [← HOD.out, ← HRT.out]; exact cc_root hf0 hfl other
                have cr := fun W (h1 : All W) (h2 : RdD W A18 (pathC l f)) => ccP_any l f od other A18 c18 W h1 h2 hn hfl
                rw [hcr] at cr
                have HCR := Lib.hid cr
                clear hcr cr
                have hsz := Lib.hid (sanity_any)
                refine wp_region_held_drew (S := fun W => Below wy.heap.size wy W) (by kernel_rfl) (Below.refl _ _).drew (fun hS => ?_)
                generalize wy.drew = w1 at hS ⊢
                refine reg_callG (i := 0) (some 154) rfl rfl rfl (by kernel_rfl) rfl Tryd.func9 (by kernel_rfl) (by kernel_rfl) #[] rfl (sanity_any w1 (GL.out.next hS)) ?_
                rintro e w2 ⟨rfl, hb⟩
                have hS2 := hS.trans (hb.mono hS.size)
                refine ⟨_, rfl, hS2, ?_⟩
                go_frame
                clear hb
                refine reg_valueG (i := 1) (some 155) rfl rfl rfl (by kernel_rfl) (.bool true) (exec_move (.tmp 154) rfl _ rfl) hS2 ?_
                go_frame
                refine reg_valueG (i := 2) (some 156) rfl rfl rfl (by kernel_rfl) (.int .i64 f) (exec_move (.tmp 13) rfl _ rfl) hS2 ?_
                go_frame
                have hne := fun (oi : Oper) (a : Act) (W : World) (rt : TypeId) (h : oi.op = .binOp .eql 3 (.tmp 156) (.const (.int .i64 0)) rt) (hx : a.eval (.tmp 156) = .int .i64 f) => exec_eqI (P := Tryd.prog) (w := W) _ (.tmp 156) (.const (.int .i64 0)) rt h .i64 (f : Int) 0 hx rfl
                rw [df0] at hne
                refine reg_valueG (i := 3) (some 157) rfl rfl rfl (by kernel_rfl) (.bool false) (hne _ _ _ _ rfl rfl) hS2 ?_
                go_frame
                clear hne
                refine reg_valueG (i := 4) (some 158) rfl rfl rfl (by kernel_rfl) (.bool false) (exec_move (.tmp 157) rfl _ rfl) hS2 ?_
                go_frame
                refine reg_takeG (i := 5) (some 159) rfl rfl rfl (by kernel_rfl) (by kernel_rfl) (by kernel_rfl) (.int .i64 f) (fun _ _ _ h => h) (fun W hW => exec_move (.tmp 13) rfl _ rfl) hS2 ?_
                go_frame
                refine reg_takeG (i := 6) (some 160) rfl rfl rfl (by kernel_rfl) (by kernel_rfl) (by kernel_rfl) (.int .i64 l.length) (fun _ _ _ h => h) (fun W hW => exec_move (.tmp 11) rfl _ rfl) hS2 ?_
                go_frame
                refine reg_takeG (i := 7) (some 161) rfl rfl rfl (by kernel_rfl) (by kernel_rfl) (by kernel_rfl) (dv od) (fun _ _ _ h => h) (fun W hW => exec_loadB (.tmp 15) rfl rfl (K15.out.next hW)) hS2 ?_
                go_frame
                refine reg_takeG (i := 8) (some 162) rfl rfl rfl (by kernel_rfl) (by kernel_rfl) (by kernel_rfl) (dv other) (fun _ _ _ h => h) (fun W hW => exec_loadB (.tmp 9) rfl rfl (KO.out.next hW)) hS2 ?_
                go_frame
                refine reg_takeG (i := 9) (some 163) rfl rfl rfl (by kernel_rfl) (by kernel_rfl) (by kernel_rfl) (.slice A18 (pathC l f).length c18) (fun _ _ _ h => h) (fun W hW => exec_move (.tmp 18) rfl _ rfl) hS2 ?_
                go_frame
                refine reg_takeG (i := 11) (some 165) rfl rfl rfl (by kernel_rfl) (by kernel_rfl) (by kernel_rfl) (dv other) (fun _ _ _ h => h) (fun W hW => exec_loadB (.tmp 9) rfl rfl (KO.out.next hW)) hS2 ?_
                go_frame
                refine reg_takeG (i := 12) (some 166) rfl rfl rfl (by kernel_rfl) (by kernel_rfl) (by kernel_rfl) (dv rt) (fun _ _ _ h => h) (fun W hW => exec_loadB (.tmp 14) rfl rfl (K14.out.next hW)) hS2 ?_
                go_frame
                refine reg_takeG (i := 13) (some 167) rfl rfl rfl (by kernel_rfl) (by kernel_rfl) (by kernel_rfl) (.bool (dgEq other rt)) (fun _ _ _ h => h) (fun W hW => exec_eqD (.tmp 165) (.tmp 166) _ rfl other rt rfl rfl) hS2 ?_
                go_frame
                refine reg_callG (i := 10) (some 164) rfl rfl rfl (by kernel_rfl) rfl Tryd.func30 (by kernel_rfl) (by kernel_rfl) #[.int .i64 f, .int .i64 l.length, dv od, dv other, .slice A18 (pathC l f).length c18] rfl (HCR.out w2 (GL.out.next hS2) (R18.out.next hS2)) ?_
                rintro e w3 ⟨rfl, hb⟩
                have hS3 := hS2.trans (hb.mono hS2.size)
                refine ⟨_, rfl, hS3, ?_⟩
                go_frame
                clear hb
                refine reg_valueG (i := 14) (some 168) rfl rfl rfl (by kernel_rfl) (.bool (dgEq other rt == dgEq other rt)) (exec_eqB _ (.tmp 164) (.tmp 167) _ rfl Tryd.underlying4 _ _ rfl rfl) hS3 ?_
                go_frame
                rw [show (dgEq other rt == dgEq other rt) = true from by simp]
                refine reg_valueG (i := 15) (some 169) rfl rfl rfl (by kernel_rfl) (.bool true) (exec_pickF (.tmp 158) (.const (.bool true)) (.tmp 168) rfl _ rfl rfl) hS3 ?_
                go_frame
                refine reg_valueG (i := 16) (some 170) rfl rfl rfl (by kernel_rfl) (.bool true) (exec_pick (.tmp 155) (.tmp 169) (.const (.bool false)) rfl _ rfl rfl) hS3 ?_
                go_frame
                refine reg_valueG (i := 17) (some 10) rfl rfl rfl (by kernel_rfl) (.bool true) (exec_assign (.tmp 170) rfl _ rfl) hS3 ?_
                go_frame
                refine wpAnyH_done (by kernel_rfl) ?_ _
                have HF := Lib.hid (B.out.trans (hS3.mono B.out.size))
                clear hS hS2 hS3
                go_wp2
                go_ret
                exact ⟨rfl, HF.out⟩

theorem walkAcc (A : Option Addr) (c : Nat) (l : List Dg) (i m z : Nat) (other : Dg) (w : World) (hg : All w) (hr : RdD w A l) (hc : l.length ≤ c) (hi : i < 256) (hm : m < 256) :
    Calls Tryd.prog 6 #[.slice A l.length c, .int .u8 i, .int .u8 m, .int .u64 z, dv other] w fun e w' => e = .returned (.bool true) ∧ Below w.heap.size w w' := by
  by_cases h : l.length = 0 ∨ 40 < l.length
  · exact walkAcc_out A l.length c i m z other w hg h
  · exact walkAcc_in A c l i m z other w hg hr hc (by omega) (by omega) hi hm
end Go.Proofs.YtfbemmeonkceiaaDoor
