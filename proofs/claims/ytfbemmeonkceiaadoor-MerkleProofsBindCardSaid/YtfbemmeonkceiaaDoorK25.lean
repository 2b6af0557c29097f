/- Sanity of the merkle laws: its contract. -/
import Derived.Test.YtfbemmeonkceiaaDoorKSm
namespace Go.Proofs.YtfbemmeonkceiaaDoor
open Go.RowKit Hm Wm

/-- The tables of the program and of the reference. -/
def All (w : World) : Prop := Glob w ∧ Tab64 w ∧ RTab w
theorem All.next {w w' : World} (h : All w) (hb : Below w.heap.size w w') : All w' := ⟨h.1.next hb, h.2.1.next hb, h.2.2.next hb⟩
theorem RdD.next {w w' : World} {A : Option Addr} {l : List Dg} (h : RdD w A l) (hb : Below w.heap.size w w') : RdD w' A l := h.below hb
theorem RdI.next {w w' : World} {A : Option Addr} {ps : List Int} (h : RdI w A ps) (hb : Below w.heap.size w w') : RdI w' A ps := h.below hb
theorem NewD.next {w w' : World} {l : List Dg} {v : Value} (h : NewD w l v) (hb : Below w.heap.size w w') : NewD w' l v := by
  obtain ⟨A, c, rfl, hr, hc⟩ := h
  exact ⟨A, c, rfl, hr.below hb, hc⟩
theorem run_buildD' (w : World) (l : List Dg) (n : Nat) (hn : l.length = n) (h0 : l ≠ []) (hl : l.length ≤ 1000) (parts : Array (Nat × Value)) (hp : parts = (l.zipIdx.map fun p => (p.2, dv p.1)).toArray) :
    ∃ A w', (Instr.buildSlice 22 n parts).run Tryd.prog w = .ok (.slice A n n) w' ∧ RdD w' A l ∧ Below w.heap.size w w' := by
  subst hn; subst hp
  exact ⟨_, _, run_buildD w l h0 hl, Rd.of_new w (dl l) 31, (Below.refl _ _).alloc (Nat.le_refl _) _⟩
/-- A list of digests is written down. -/
theorem wpList_buildD {w : World} {ops : Array Oper} {rest : List Oper} {o : Oper} {a : Act} {Q : Exit → Act → World → Prop} (hw : Region.wanted o (yielded ops a.tmps) = true) (n : Nat) (parts : Array (Nat × Operand)) (ho : o.op = .buildSlice 22 n parts)
    (l : List Dg) (hn : l.length = n) (h0 : l ≠ []) (hl : l.length ≤ 1000) (hp : (parts.toList.map fun p => (p.1, a.eval p.2)) = l.zipIdx.map fun p => (p.2, dv p.1))
    (h : ∀ A w', RdD w' A l → Below w.heap.size w w' → wpList Tryd.prog ops Q rest (a.put o.dst (.slice A n n)) w') : wpList Tryd.prog ops Q (o :: rest) a w := by
  obtain ⟨A, w', hrun, h1, h2⟩ := run_buildD' w l n hn h0 hl (parts.map fun (i, x) => (i, a.eval x)) (by apply Array.ext'; rw [Array.toList_map]; exact hp)
  refine wpList_want hw fun K hK => ?_
  unfold Oper.wp execOp
  simp only [ho, Sem.run_bind, hrun, Result.andThen_ok]
  exact hK _ _ (h A w' h1 h2)

section
variable {P : Program} {md : Region.Mode} {ops : Array Oper} {Q : Exit → Act → World → Prop} {S : World → Prop} {i k fuel : Nat} {oi ok : Oper} {listed : Array Bool} {a : Act} {w : World}
/-- Two operations may come next. -/
theorem reg_twoG (hi : ops[i]? = some oi) (hk : ops[k]? = some ok) (hw : Region.wanted oi (yielded ops a.tmps) = true) (hw2 : Region.wanted ok (yielded ops a.tmps) = true) (hr : Region.ready md ops listed = [i, k])
    (h1 : oi.wp P a w (fun a' w' => S w' ∧ wpAnyH P md ops Q S fuel (listed.setIfInBounds i true) a' w') Q)
    (h2 : ok.wp P a w (fun a' w' => S w' ∧ wpAnyH P md ops Q S fuel (listed.setIfInBounds k true) a' w') Q) : wpAnyH P md ops Q S (fuel + 1) listed a w :=
  wpAnyH_all hr (by simp) fun j hj => by
    simp only [List.mem_cons, List.not_mem_nil, or_false] at hj
    rcases hj with rfl | rfl
    · unfold wpOp
      rw [hi]
      simp only
      rw [if_pos hw]
      exact .inl h1
    · unfold wpOp
      rw [hk]
      simp only
      rw [if_pos hw2]
      exact .inl h2
theorem opG_call {K : Act → World → Prop} (d : Option Tmp) {F : FuncId} {xs : Array Operand} {ts : Array TypeId} (hd : oi.dst = d) (ho : oi.op = .call { callee := .value (.func F), args := xs, argTypes := ts })
    {fn : Func} (hf : P.funcs[F]? = some fn) (hn : (fn.name == "runtime.NumGoroutine") = false) (hb : fn.body.isNone = false) (vs : Array Value) (hvs : xs.toList.map a.eval = vs.toList) {R : Ending → World → Prop} (hc : Calls P F vs w R)
    (h : ∀ e w', R e w' → ∃ v, e = .returned v ∧ K (a.put d v) w') : oi.wp P a w K Q := by
  subst hd
  exact wp_call_fn ho hf hn hb vs hvs hc h
theorem opG_alloc {K : Act → World → Prop} (d : Option Tmp) (hd : oi.dst = d) (t : TypeId) (ho : oi.op = .alloc t) (Z : List Value) (hz : (P.info? t).map (·.zero) = some (some (.agg Z.toArray)))
    (h : K (a.put d (.pointer (some ⟨w.heap.size, 0, none⟩))) (w.alloc (.cells Z.toArray t))) : oi.wp P a w K Q := by
  subst hd
  have hrun := run_alloc_zero (P := P) w t Z hz
  unfold Oper.wp execOp
  simp only [ho, Sem.run_bind, hrun, Result.andThen_ok]
  exact h
theorem reg_allocG (d : Option Tmp) (hi : ops[i]? = some oi) (hd : oi.dst = d) (hw : Region.wanted oi (yielded ops a.tmps) = true) (hr : Region.ready md ops listed = [i]) (t : TypeId) (ho : oi.op = .alloc t) (Z : List Value) (hz : (P.info? t).map (·.zero) = some (some (.agg Z.toArray)))
    (h : S (w.alloc (.cells Z.toArray t)) ∧ wpAnyH P md ops Q S fuel (listed.setIfInBounds i true) (a.put d (.pointer (some ⟨w.heap.size, 0, none⟩))) (w.alloc (.cells Z.toArray t))) : wpAnyH P md ops Q S (fuel + 1) listed a w :=
  reg_oneG hi hw hr (opG_alloc d hd t ho Z hz h)
end
theorem pk_range {W : World} {g : Nat} {s : Int} {v : Value} (hb : Blk W g 43 (pkc s v)) : W.rangeAt g 0 (pkc s v) := by have := hb.range 0 (pkc s v).length; simpa using this
theorem exec_loadP {oi : Oper} {a : Act} {w : World} (x : Operand) (ho : oi.op = .load 43 x) (g : Nat) (s : Int) (v : Value) (hx : a.eval x = .pointer (some ⟨g, 0, none⟩)) (hb : Blk w g 43 (pkc s v)) : (execOp a.eval oi).run Tryd.prog w = .ok (.value (pkV s v)) w :=
  exec_load 43 x ho _ _ hx (run_loadAt_mid w g 0 _ (pkc s v) _ (pk_range hb) Tryd.underlying43 rfl pk_size)
theorem exec_extract {P : Program} {oi : Oper} {a : Act} {w : World} (x : Operand) (j : Nat) (ho : oi.op = .extract x j) (vs : Array Value) (v : Value) (hx : a.eval x = .tuple vs) (hv : vs[j]? = some v) : (execOp a.eval oi).run P w = .ok (.value v) w := by
  simp [execOp, ho, hx, Instr.extract, hv]
theorem exec_eqI {P : Program} {oi : Oper} {a : Act} {w : World} (t : TypeId) (x y : Operand) (rt : TypeId) (ho : oi.op = .binOp .eql t x y rt) (k : IntKind) (m n : Int) (hx : a.eval x = .int k m) (hy : a.eval y = .int k n) : (execOp a.eval oi).run P w = .ok (.value (.bool (m == n))) w :=
  exec_bin .eql t rt x y ho _ _ _ hx hy (by simp [go_sem]) (by simp [go_sem])
theorem exec_sameD {oi : Oper} {a : Act} {w : World} (x y : Operand) (rt : TypeId) (ho : oi.op = .binOp .eql 31 x y rt) (d : Dg) (hx : a.eval x = dv d) (hy : a.eval y = dv d) : (execOp a.eval oi).run Tryd.prog w = .ok (.value (.bool true)) w := by
  have := exec_eqD (w := w) x y rt ho d d hx hy
  rwa [dgEq_iff.2 rfl] at this
theorem int_info : (Tryd.prog.info? 3).map (fun i => (i.zero, i.size, i.bytes)) = some (some (.int .i64 0), 1, 8) := by kernel_rfl
theorem run_ints2 (w : World) (x y : Int) : (Instr.buildSlice 37 2 #[(0, .int .i64 x), (1, .int .i64 y)]).run Tryd.prog w = .ok (.slice (some ⟨w.heap.size, 0, none⟩) 2 2) (w.alloc (.cells #[.int .i64 x, .int .i64 y] 3)) := by
  obtain ⟨i0, hi, hz0, hz1, hz2⟩ := info_parts int_info
  refine run_buildSlice w _ _ 2 _ _ i0 _ Tryd.underlying37 hi hz0 (by rw [hz1]; omega) (by rw [hz1]; omega) ?_
  rw [hz1]
  rw [show (Array.map (fun x => (Value.int .i64 0).cells[x % (Value.int .i64 0).cells.size]!) (Array.range (2 * 1))) = #[.int .i64 0, .int .i64 0] from by kernel_rfl]
  rfl
theorem wpList_ints2 {w : World} {ops : Array Oper} {rest : List Oper} {o : Oper} {a : Act} {Q : Exit → Act → World → Prop} (hw : Region.wanted o (yielded ops a.tmps) = true) (x y : Int) (ho : o.op = .buildSlice 37 2 #[(0, .const (.int .i64 x)), (1, .const (.int .i64 y))])
    (h : ∀ A w', RdI w' A [x, y] → Below w.heap.size w w' → wpList Tryd.prog ops Q rest (a.put o.dst (.slice A 2 2)) w') : wpList Tryd.prog ops Q (o :: rest) a w := by
  refine wpList_want hw fun K hK => ?_
  unfold Oper.wp execOp
  simp only [ho, List.map_toArray, List.map_cons, List.map_nil, Act.eval, Sem.run_bind, run_ints2, Result.andThen_ok]
  exact hK _ _ (h _ _ (rd_fr w #[.int .i64 x, .int .i64 y] _ 3 (0, 0) rfl) ((Below.refl _ _).alloc (Nat.le_refl _) _))
/-- The cells of digests are no cells of peaks. -/
theorem RdD.pk {w w' : World} {A A' : Option Addr} {l : List Dg} {g : Nat} {s : Int} {n c : Nat} (h : RdD w A l) (hb : Blk w g 43 (pkc s (.slice A' n c))) (ho : Only g w w') : RdD w' A l := by
  intro hne
  obtain ⟨b, off, hA, hc⟩ := h hne
  refine ⟨b, off, hA, fun k u hu => ?_⟩
  have h1 := hc k u hu
  have hbg : b ≠ g := by
    rintro rfl
    obtain ⟨d, -, hd⟩ := List.mem_flatMap.1 (List.mem_of_getElem? hu)
    obtain ⟨x, -, rfl⟩ := List.mem_map.1 hd
    rw [hb.cell] at h1
    obtain ⟨m, hm⟩ : ∃ m, off + k = m := ⟨_, rfl⟩
    rw [hm] at h1
    rcases m with _ | _ | j
    · simp [pkc] at h1
    · simp [pkc] at h1
    · simp [pkc] at h1
  rw [World.cell?_of_block (w := w) (ho.block b hbg)]; exact h1

set_option maxRecDepth 1000000 in
set_option maxHeartbeats 4000000 in
theorem sanity_any (w : World) (hg : All w) : Calls Tryd.prog 9 #[] w fun e w' => e = .returned (.bool true) ∧ Below w.heap.size w w' := by
  have GL := Lib.hid hg
  have B := Lib.hid (Below.refl w.heap.size w)
  clear hg
  go_enter Tryd.func9, Tryd.ntmps9
  go_wp2_with fail
  refine (leaf_any { data := #[97] } _ GL.out.1 (by decide)).mono ?_
  rintro e v1 ⟨rfl, hb⟩
  replace GL := Lib.hid (GL.out.next hb)
  replace B := Lib.hid (B.out.trans (hb.mono B.out.size))
  clear hb
  obtain ⟨a, ha⟩ : ∃ a, leafD { data := #[97] } = a := ⟨_, rfl⟩
  rw [ha]
  have La := Lib.hid ha
  clear ha
  go_wp2_with (refine wpList_var rfl rfl 31 1 rfl rfl rfl (.tmp 24) rfl (zb 16) (dc a) dg_zero rfl rfl (dd_len _) (dd_size _) (dc_one _) ?_; intro x1 K1 D; replace GL := Lib.hid (GL.out.next D.out); replace B := Lib.hid (B.out.trans (D.out.mono B.out.size)); clear D)
  refine (leaf_any { data := #[98] } _ GL.out.1 (by decide)).mono ?_
  rintro e v2 ⟨rfl, hb⟩
  replace GL := Lib.hid (GL.out.next hb)
  replace K1 := Lib.hid (K1.out.next hb)
  replace B := Lib.hid (B.out.trans (hb.mono B.out.size))
  clear hb
  obtain ⟨b, hb⟩ : ∃ b, leafD { data := #[98] } = b := ⟨_, rfl⟩
  rw [hb]
  have Lb := Lib.hid hb
  clear hb
  go_wp2_with (refine wpList_var rfl rfl 31 2 rfl rfl rfl (.tmp 25) rfl (zb 16) (dc b) dg_zero rfl rfl (dd_len _) (dd_size _) (dc_one _) ?_; intro x2 K2 D; replace GL := Lib.hid (GL.out.next D.out); replace K1 := Lib.hid (K1.out.next D.out); replace B := Lib.hid (B.out.trans (D.out.mono B.out.size)); clear D)
  refine (leaf_any { data := #[99] } _ GL.out.1 (by decide)).mono ?_
  rintro e v3 ⟨rfl, hb⟩
  replace GL := Lib.hid (GL.out.next hb)
  replace K1 := Lib.hid (K1.out.next hb)
  replace K2 := Lib.hid (K2.out.next hb)
  replace B := Lib.hid (B.out.trans (hb.mono B.out.size))
  clear hb
  obtain ⟨c, hc⟩ : ∃ c, leafD { data := #[99] } = c := ⟨_, rfl⟩
  rw [hc]
  have Lc := Lib.hid hc
  clear hc
  go_wp2_with (first | (refine wpList_var rfl rfl 31 3 rfl rfl rfl (.tmp 26) rfl (zb 16) (dc c) dg_zero rfl rfl (dd_len _) (dd_size _) (dc_one _) ?_; intro x3 K3 D; replace GL := Lib.hid (GL.out.next D.out); replace K1 := Lib.hid (K1.out.next D.out); replace K2 := Lib.hid (K2.out.next D.out); replace B := Lib.hid (B.out.trans (D.out.mono B.out.size)); clear D) | (refine wpList_loadB rfl (.tmp 1) rfl v1.heap.size a rfl K1.out ?_) | (refine wpList_loadB rfl (.tmp 2) rfl v2.heap.size b rfl K2.out ?_) | (refine wpList_loadB rfl (.tmp 3) rfl v3.heap.size c rfl K3.out ?_) | (refine wpList_buildD rfl 3 _ rfl [a, b, c] rfl (by simp) (by simp) rfl ?_; intro AR4 x4 hR4 hb; replace GL := Lib.hid (GL.out.next hb); replace K1 := Lib.hid (K1.out.next hb); replace K2 := Lib.hid (K2.out.next hb); replace K3 := Lib.hid (K3.out.next hb); replace B := Lib.hid (B.out.trans (hb.mono B.out.size)); have R4 := Lib.hid hR4; clear hR4 hb))
  refine (node_any a b _ GL.out.1).mono ?_
  rintro e v5 ⟨rfl, hb⟩
  replace GL := Lib.hid (GL.out.next hb)
  replace K1 := Lib.hid (K1.out.next hb)
  replace K2 := Lib.hid (K2.out.next hb)
  replace K3 := Lib.hid (K3.out.next hb)
  replace R4 := Lib.hid (R4.out.next hb)
  replace B := Lib.hid (B.out.trans (hb.mono B.out.size))
  clear hb
  obtain ⟨ab, hab⟩ : ∃ ab, nodeD a b = ab := ⟨_, rfl⟩
  rw [hab]
  have Lab := Lib.hid hab
  clear hab
  go_wp2_with (first | (refine wpList_var rfl rfl 31 5 rfl rfl rfl (.tmp 33) rfl (zb 16) (dc ab) dg_zero rfl rfl (dd_len _) (dd_size _) (dc_one _) ?_; intro x5 K5 D; replace GL := Lib.hid (GL.out.next D.out); replace K1 := Lib.hid (K1.out.next D.out); replace K2 := Lib.hid (K2.out.next D.out); replace K3 := Lib.hid (K3.out.next D.out); replace R4 := Lib.hid (R4.out.next D.out); replace B := Lib.hid (B.out.trans (D.out.mono B.out.size)); clear D) | (refine wpList_loadB rfl (.tmp 5) rfl v5.heap.size ab rfl K5.out ?_) | (refine wpList_loadB rfl (.tmp 3) rfl v3.heap.size c rfl K3.out ?_))
  refine (node_any ab c _ GL.out.1).mono ?_
  rintro e v6 ⟨rfl, hb⟩
  replace GL := Lib.hid (GL.out.next hb)
  replace K1 := Lib.hid (K1.out.next hb)
  replace K2 := Lib.hid (K2.out.next hb)
  replace K3 := Lib.hid (K3.out.next hb)
  replace R4 := Lib.hid (R4.out.next hb)
  replace K5 := Lib.hid (K5.out.next hb)
  replace B := Lib.hid (B.out.trans (hb.mono B.out.size))
  clear hb
  obtain ⟨rt, hrt⟩ : ∃ rt, nodeD ab c = rt := ⟨_, rfl⟩
  rw [hrt]
  have Lrt := Lib.hid hrt
  clear hrt
  go_wp2_with (refine wpList_var rfl rfl 31 6 rfl rfl rfl (.tmp 36) rfl (zb 16) (dc rt) dg_zero rfl rfl (dd_len _) (dd_size _) (dc_one _) ?_; intro x6 K6 D; replace GL := Lib.hid (GL.out.next D.out); replace K1 := Lib.hid (K1.out.next D.out); replace K2 := Lib.hid (K2.out.next D.out); replace K3 := Lib.hid (K3.out.next D.out); replace R4 := Lib.hid (R4.out.next D.out); replace K5 := Lib.hid (K5.out.next D.out); replace B := Lib.hid (B.out.trans (D.out.mono B.out.size)); clear D)
  have hcall := incl_any [a, b, c] AR4 3 0 _ GL.out.1 R4.out (by simp) (by simp) (by simp)
  rw [s_incl0] at hcall
  refine hcall.mono ?_
  rintro e v7 ⟨r, rfl, ⟨A7, c7, rfl, h7, -⟩, hb⟩
  replace GL := Lib.hid (GL.out.next hb)
  replace K1 := Lib.hid (K1.out.next hb)
  replace K2 := Lib.hid (K2.out.next hb)
  replace K3 := Lib.hid (K3.out.next hb)
  replace R4 := Lib.hid (R4.out.next hb)
  replace K5 := Lib.hid (K5.out.next hb)
  replace K6 := Lib.hid (K6.out.next hb)
  replace B := Lib.hid (B.out.trans (hb.mono B.out.size))
  have R7 : Hid (RdD v7 A7 [b, c]) := h7
  clear hb hcall h7
  go_wp2_with fail
  have hcall := incl_any [a, b, c] AR4 3 2 _ GL.out.1 R4.out (by simp) (by simp) (by simp)
  rw [s_incl2, Lab.out] at hcall
  refine hcall.mono ?_
  rintro e v9 ⟨r, rfl, ⟨A9, c9, rfl, h9, -⟩, hb⟩
  replace GL := Lib.hid (GL.out.next hb)
  replace K1 := Lib.hid (K1.out.next hb)
  replace K2 := Lib.hid (K2.out.next hb)
  replace K3 := Lib.hid (K3.out.next hb)
  replace R4 := Lib.hid (R4.out.next hb)
  replace K5 := Lib.hid (K5.out.next hb)
  replace K6 := Lib.hid (K6.out.next hb)
  replace R7 := Lib.hid (R7.out.next hb)
  replace B := Lib.hid (B.out.trans (hb.mono B.out.size))
  have R9 : Hid (RdD v9 A9 [ab]) := h9
  clear hb hcall h9
  go_wp2_with fail
  have hcall := cons_any [a, b, c] AR4 3 1 _ GL.out.1 R4.out (by simp) (by simp) (by decide) (by simp)
  rw [s_cons1] at hcall
  refine hcall.mono ?_
  rintro e v11 ⟨r, rfl, ⟨A11, c11, rfl, h11, -⟩, hb⟩
  replace GL := Lib.hid (GL.out.next hb)
  replace K1 := Lib.hid (K1.out.next hb)
  replace K2 := Lib.hid (K2.out.next hb)
  replace K3 := Lib.hid (K3.out.next hb)
  replace R4 := Lib.hid (R4.out.next hb)
  replace K5 := Lib.hid (K5.out.next hb)
  replace K6 := Lib.hid (K6.out.next hb)
  replace R7 := Lib.hid (R7.out.next hb)
  replace R9 := Lib.hid (R9.out.next hb)
  replace B := Lib.hid (B.out.trans (hb.mono B.out.size))
  have R11 : Hid (RdD v11 A11 [b, c]) := h11
  clear hb hcall h11
  go_wp2_with fail
  have hcall := cons_any [a, b, c] AR4 3 2 _ GL.out.1 R4.out (by simp) (by simp) (by decide) (by simp)
  rw [s_cons2] at hcall
  refine hcall.mono ?_
  rintro e v13 ⟨r, rfl, ⟨A13, c13, rfl, h13, -⟩, hb⟩
  replace GL := Lib.hid (GL.out.next hb)
  replace K1 := Lib.hid (K1.out.next hb)
  replace K2 := Lib.hid (K2.out.next hb)
  replace K3 := Lib.hid (K3.out.next hb)
  replace R4 := Lib.hid (R4.out.next hb)
  replace K5 := Lib.hid (K5.out.next hb)
  replace K6 := Lib.hid (K6.out.next hb)
  replace R7 := Lib.hid (R7.out.next hb)
  replace R9 := Lib.hid (R9.out.next hb)
  replace R11 := Lib.hid (R11.out.next hb)
  replace B := Lib.hid (B.out.trans (hb.mono B.out.size))
  have R13 : Hid (RdD v13 A13 [c]) := h13
  clear hb hcall h13
  go_wp2_with fail
  have hb := (Below.refl v13.heap.size v13).alloc (Nat.le_refl _) (.cells #[.int .i64 0, .int .i64 2] 3)
  have hri : RdI (v13.alloc (.cells #[.int .i64 0, .int .i64 2] 3)) (some ⟨v13.heap.size, 0, none⟩) [0, 2] := rd_fr v13 #[.int .i64 0, .int .i64 2] _ 3 (0, 0) rfl
  generalize v13.alloc (.cells #[.int .i64 0, .int .i64 2] 3) = x14 at hb hri ⊢
  replace GL := Lib.hid (GL.out.next hb)
  replace K1 := Lib.hid (K1.out.next hb)
  replace K2 := Lib.hid (K2.out.next hb)
  replace K3 := Lib.hid (K3.out.next hb)
  replace R4 := Lib.hid (R4.out.next hb)
  replace K5 := Lib.hid (K5.out.next hb)
  replace K6 := Lib.hid (K6.out.next hb)
  replace R7 := Lib.hid (R7.out.next hb)
  replace R9 := Lib.hid (R9.out.next hb)
  replace R11 := Lib.hid (R11.out.next hb)
  replace R13 := Lib.hid (R13.out.next hb)
  replace B := Lib.hid (B.out.trans (hb.mono B.out.size))
  clear hb
  have hcall := many_any [a, b, c] AR4 3 [0, 2] (some ⟨v13.heap.size, 0, none⟩) 2 _ GL.out.1 R4.out (by simp) (by simp) hri (by simp) (by simp) rfl
  rw [s_many] at hcall
  refine hcall.mono ?_
  rintro e v15 ⟨r, rfl, ⟨A15, c15, rfl, h15, -⟩, hb⟩
  replace GL := Lib.hid (GL.out.next hb)
  replace K1 := Lib.hid (K1.out.next hb)
  replace K2 := Lib.hid (K2.out.next hb)
  replace K3 := Lib.hid (K3.out.next hb)
  replace R4 := Lib.hid (R4.out.next hb)
  replace K5 := Lib.hid (K5.out.next hb)
  replace K6 := Lib.hid (K6.out.next hb)
  replace R7 := Lib.hid (R7.out.next hb)
  replace R9 := Lib.hid (R9.out.next hb)
  replace R11 := Lib.hid (R11.out.next hb)
  replace R13 := Lib.hid (R13.out.next hb)
  replace B := Lib.hid (B.out.trans (hb.mono B.out.size))
  have R15 : Hid (RdD v15 A15 [b]) := h15
  clear hb hcall h15 hri
  go_wp2_with (refine wpList_alloc_zero rfl 43 rfl (pkc 0 (.slice none 0 0)) pk_zero ?_)
  have KP := Lib.hid (Blk.new v15 43 (pkc 0 (.slice none 0 0)))
  have HB := Lib.hid ((Below.refl v15.heap.size v15).alloc (Nat.le_refl _) (.cells (pkc 0 (.slice none 0 0)).toArray 43))
  generalize v15.alloc (.cells (pkc 0 (.slice none 0 0)).toArray 43) = x15 at KP HB ⊢
  go_loopw [18] (fun i wr => ∃ k : Nat, i = .int .i64 k ∧ k ≤ 3 ∧ Hid (Below v15.heap.size v15 wr) ∧ Hid (∃ A c', Blk wr v15.heap.size 43 (pkc k (.slice A (tp a b c k).length c')) ∧ RdD wr A (tp a b c k) ∧ (tp a b c k).length ≤ c')) (fun i _ => 3 - (intOf i).toNat)
  case atStart => exact ⟨0, rfl, by omega, HB, none, 0, KP.out, Rd.nil _ _, Nat.le_refl _⟩
  case round =>
    clear HB KP x15
    obtain ⟨k, rfl, hk, HW, HP⟩ := hrel
    by_cases hlt : k < 3
    · obtain ⟨A, c', hP, hR, hcc⟩ := HP.out
      obtain ⟨d, hd⟩ : ∃ d, [a, b, c][k]? = some d := ⟨[a, b, c][k], List.getElem?_eq_getElem (by simpa using hlt)⟩
      have happ := tp_app a b c hd
      have HL := Lib.hid (tp_len a b c hlt)
      have HGW := Lib.hid (GL.out.next HW.out)
      have HA := Lib.hid happ
      have HPP := Lib.hid hP
      have HRR := Lib.hid hR
      have HCC := Lib.hid hcc
      have h4 := (R4.out.next HW.out).at hd
      obtain ⟨b4, o4, rfl, hc4⟩ := h4
      have HC4 := Lib.hid hc4
      have d1 : decide ((k : Int) < 3) = true := decide_eq_true (by omega)
      have HC := Lib.hid (fun W (h1 : All W) (h2 : RdD W A (tp a b c k)) => append_any k A c' (tp a b c k) d W h1.1 h1.2.1 h2 (by omega) HL.out HCC.out)
      rw [HA.out] at HC
      clear happ hP hR hcc hc4 hd
      go_wp2_with fail
      refine wp_region_held_drew (S := fun W => Below wr.heap.size wr W) (by kernel_rfl) (Below.refl _ _).drew (fun hS => ?_)
      generalize wr.drew = w1 at hS ⊢
      refine reg_takeG (i := 0) (some 68) rfl rfl rfl (by kernel_rfl) (by kernel_rfl) (by kernel_rfl) (pkV k (.slice A (tp a b c k).length c')) (fun _ _ _ h => h) (fun W hW => exec_loadP (.tmp 17) rfl _ _ _ rfl (HPP.out.next hW)) hS ?_
      go_frame
      refine reg_takeG (i := 1) (some 69) rfl rfl rfl (by kernel_rfl) (by kernel_rfl) (by kernel_rfl) (.slice (some ⟨b4, o4, none⟩) 3 3) (fun _ _ _ h => h) (fun W hW => exec_move (.tmp 4) rfl _ rfl) hS ?_
      go_frame
      refine reg_takeG (i := 2) (some 70) rfl rfl rfl (by kernel_rfl) (by kernel_rfl) (by kernel_rfl) (.int .i64 k) (fun _ _ _ h => h) (fun W hW => exec_move (.tmp 18) rfl _ rfl) hS ?_
      go_frame
      refine reg_takeG (i := 3) (some 71) rfl rfl rfl (by kernel_rfl) (by kernel_rfl) (by kernel_rfl) (.pointer (some ⟨b4, o4 + k * 16, none⟩)) (fun _ _ _ h => h) (fun W hW => exec_atD (.tmp 69) (.tmp 70) rfl b4 o4 3 3 k hlt rfl rfl) hS ?_
      go_frame
      refine reg_takeG (i := 4) (some 72) rfl rfl rfl (by kernel_rfl) (by kernel_rfl) (by kernel_rfl) (dv d) (fun _ _ _ h => h) (fun W hW => exec_loadD (.tmp 71) rfl _ _ d rfl (range_below' HC4.out hW)) hS ?_
      go_frame
      refine reg_twoG (i := 5) (k := 9) rfl rfl rfl rfl (by kernel_rfl) ?_ ?_
      · refine opG_call (some 73) rfl rfl Tryd.func25 (by kernel_rfl) (by kernel_rfl) #[pkV k (.slice A (tp a b c k).length c'), dv d] rfl (HC.out w1 (HGW.out.next hS) (HRR.out.next hS)) ?_
        rintro e w5 ⟨v5, rfl, ⟨A5, c5, rfl, hr5, hc5⟩, hb5⟩
        have hS5 := hS.trans (hb5.mono hS.size)
        refine ⟨_, rfl, hS5, ?_⟩
        go_frame
        refine reg_takeG (i := 6) (some 67) rfl rfl rfl (by kernel_rfl) (by kernel_rfl) (by kernel_rfl) (.tuple #[pkV ((k : Int) + 1) (.slice A5 (tp a b c (k + 1)).length c5), .int .i64 0]) (fun _ _ _ h => h) (fun W hW => exec_move (.tmp 73) rfl _ rfl) hS5 ?_
        go_frame
        refine reg_takeG (i := 7) (some 74) rfl rfl rfl (by kernel_rfl) (by kernel_rfl) (by kernel_rfl) (pkV ((k : Int) + 1) (.slice A5 (tp a b c (k + 1)).length c5)) (fun _ _ _ h => h) (fun W hW => exec_extract (.tmp 67) 0 rfl _ _ rfl rfl) hS5 ?_
        go_frame
        refine reg_takeG (i := 8) (some 75) rfl rfl rfl (by kernel_rfl) (by kernel_rfl) (by kernel_rfl) (.int .i64 0) (fun _ _ _ h => h) (fun W hW => exec_extract (.tmp 67) 1 rfl _ _ rfl rfl) hS5 ?_
        go_frame
        have hQ := Blk.new w5 43 (pkc 0 (.slice none 0 0))
        have hal := (Below.refl w5.heap.size w5).alloc (Nat.le_refl _) (.cells (pkc 0 (.slice none 0 0)).toArray 43)
        have hS6 := hS5.trans (hal.mono hS5.size)
        have hr6 := hr5.next hal
        refine reg_allocG (i := 9) (some 19) rfl rfl rfl (by kernel_rfl) 43 rfl (pkc 0 (.slice none 0 0)) pk_zero ⟨hS6, ?_⟩
        go_frame
        have hz5 := hS5.size
        generalize w5.alloc (.cells (pkc 0 (.slice none 0 0)).toArray 43) = w6 at hQ hal hS6 hr6 ⊢
        clear hal
        refine reg_store_all (i := 10) rfl rfl rfl (by kernel_rfl) 43 (.tmp 19) (.tmp 74) rfl w5.heap.size 43 (pkc 0 (.slice none 0 0)) (pkc ((k : Int) + 1) (.slice A5 (tp a b c (k + 1)).length c5)) rfl rfl hQ rfl pk_size (pkc_one _ _ _ _) ?_
        intro w7 hk7 ho7
        have hr7 := hr6.pk hQ ho7
        have hS7 := hS6.trans (ho7.below (B := wr.heap.size) hz5)
        refine ⟨hS7, ?_⟩
        go_frame
        refine reg_valueG (i := 11) (some 20) rfl rfl rfl (by kernel_rfl) (.int .i64 0) (exec_assign (.tmp 75) rfl _ rfl) hS7 ?_
        go_frame
        refine wpAnyH_done (by kernel_rfl) ?_ _
        have HR7 := Lib.hid hr7
        have HK7 := Lib.hid hk7
        have HS7 := Lib.hid hS7
        have HC5 := Lib.hid hc5
        have HP7 := Lib.hid (HPP.out.next hS7)
        have HB7 := Lib.hid (HW.out.trans (hS7.mono HW.out.size))
        clear hz5 hr7 hk7 hS7 hc5 hS6 hS5 hS hr5 hr6 hb5 ho7 hQ
        go_wp2_with (first | (refine wpList_load_all rfl _ (.tmp 19) rfl w5.heap.size _ (pkc ((k : Int) + 1) (.slice A5 (tp a b c (k + 1)).length c5)) _ rfl HK7.out Tryd.underlying43 rfl pk_size ?_) | (refine wpList_store_all rfl _ (.tmp 17) (.tmp 78) rfl v15.heap.size _ (pkc k (.slice A (tp a b c k).length c')) (pkc ((k : Int) + 1) (.slice A5 (tp a b c (k + 1)).length c5)) rfl rfl HP7.out rfl pk_size (pkc_one _ _ _ _) ?_; intro w8 HB8 ho8))
        go_roundw
        case rel => exact ⟨k + 1, by go_num, by omega, HB7.out.trans (ho8.below (Nat.le_refl _)), A5, c5, HB8.out, HR7.out.pk HP7.out ho8, HC5.out⟩
        case measure => simp [intOf]; omega
      · refine opG_alloc (some 19) rfl 43 rfl (pkc 0 (.slice none 0 0)) pk_zero ?_
        have hQ1 := Blk.new w1 43 (pkc 0 (.slice none 0 0))
        have hal := (Below.refl w1.heap.size w1).alloc (Nat.le_refl _) (.cells (pkc 0 (.slice none 0 0)).toArray 43)
        have hS1 := hS.trans (hal.mono hS.size)
        have hz5 := hS.size
        generalize w1.alloc (.cells (pkc 0 (.slice none 0 0)).toArray 43) = w2 at hQ1 hal hS1 ⊢
        refine ⟨hS1, ?_⟩
        go_frame
        refine reg_callG (i := 5) (some 73) rfl rfl rfl (by kernel_rfl) rfl Tryd.func25 (by kernel_rfl) (by kernel_rfl) #[pkV k (.slice A (tp a b c k).length c'), dv d] rfl (HC.out w2 (HGW.out.next hS1) (HRR.out.next hS1)) ?_
        rintro e w5 ⟨v5, rfl, ⟨A5, c5, rfl, hr5, hc5⟩, hb5⟩
        have hS5 := hS1.trans (hb5.mono hS1.size)
        have hQ := hQ1.next hb5
        refine ⟨_, rfl, hS5, ?_⟩
        go_frame
        clear hQ1 hal hS1
        refine reg_takeG (i := 6) (some 67) rfl rfl rfl (by kernel_rfl) (by kernel_rfl) (by kernel_rfl) (.tuple #[pkV ((k : Int) + 1) (.slice A5 (tp a b c (k + 1)).length c5), .int .i64 0]) (fun _ _ _ h => h) (fun W hW => exec_move (.tmp 73) rfl _ rfl) hS5 ?_
        go_frame
        refine reg_takeG (i := 7) (some 74) rfl rfl rfl (by kernel_rfl) (by kernel_rfl) (by kernel_rfl) (pkV ((k : Int) + 1) (.slice A5 (tp a b c (k + 1)).length c5)) (fun _ _ _ h => h) (fun W hW => exec_extract (.tmp 67) 0 rfl _ _ rfl rfl) hS5 ?_
        go_frame
        refine reg_takeG (i := 8) (some 75) rfl rfl rfl (by kernel_rfl) (by kernel_rfl) (by kernel_rfl) (.int .i64 0) (fun _ _ _ h => h) (fun W hW => exec_extract (.tmp 67) 1 rfl _ _ rfl rfl) hS5 ?_
        go_frame
        have hS6 := hS5
        have hr6 := hr5
        refine reg_store_all (i := 10) rfl rfl rfl (by kernel_rfl) 43 (.tmp 19) (.tmp 74) rfl w1.heap.size 43 (pkc 0 (.slice none 0 0)) (pkc ((k : Int) + 1) (.slice A5 (tp a b c (k + 1)).length c5)) rfl rfl hQ rfl pk_size (pkc_one _ _ _ _) ?_
        intro w7 hk7 ho7
        have hr7 := hr6.pk hQ ho7
        have hS7 := hS6.trans (ho7.below (B := wr.heap.size) hz5)
        refine ⟨hS7, ?_⟩
        go_frame
        refine reg_valueG (i := 11) (some 20) rfl rfl rfl (by kernel_rfl) (.int .i64 0) (exec_assign (.tmp 75) rfl _ rfl) hS7 ?_
        go_frame
        refine wpAnyH_done (by kernel_rfl) ?_ _
        have HR7 := Lib.hid hr7
        have HK7 := Lib.hid hk7
        have HS7 := Lib.hid hS7
        have HC5 := Lib.hid hc5
        have HP7 := Lib.hid (HPP.out.next hS7)
        have HB7 := Lib.hid (HW.out.trans (hS7.mono HW.out.size))
        clear hz5 hr7 hk7 hS7 hc5 hS6 hS5 hS hr5 hr6 hb5 ho7 hQ
        go_wp2_with (first | (refine wpList_load_all rfl _ (.tmp 19) rfl w1.heap.size _ (pkc ((k : Int) + 1) (.slice A5 (tp a b c (k + 1)).length c5)) _ rfl HK7.out Tryd.underlying43 rfl pk_size ?_) | (refine wpList_store_all rfl _ (.tmp 17) (.tmp 78) rfl v15.heap.size _ (pkc k (.slice A (tp a b c k).length c')) (pkc ((k : Int) + 1) (.slice A5 (tp a b c (k + 1)).length c5)) rfl rfl HP7.out rfl pk_size (pkc_one _ _ _ _) ?_; intro w8 HB8 ho8))
        go_roundw
        case rel => exact ⟨k + 1, by go_num, by omega, HB7.out.trans (ho8.below (Nat.le_refl _)), A5, c5, HB8.out, HR7.out.pk HP7.out ho8, HC5.out⟩
        case measure => simp [intOf]; omega
    · obtain rfl : k = 3 := by omega
      have d1 : decide ((3 : Int) < 3) = false := by decide
      obtain ⟨A, c', hP, hR, hcc⟩ := HP.out
      replace GL := Lib.hid (GL.out.next HW.out)
      replace K1 := Lib.hid (K1.out.next HW.out)
      replace K2 := Lib.hid (K2.out.next HW.out)
      replace K3 := Lib.hid (K3.out.next HW.out)
      replace R4 := Lib.hid (R4.out.next HW.out)
      replace K5 := Lib.hid (K5.out.next HW.out)
      replace K6 := Lib.hid (K6.out.next HW.out)
      replace R7 := Lib.hid (R7.out.next HW.out)
      replace R9 := Lib.hid (R9.out.next HW.out)
      replace R11 := Lib.hid (R11.out.next HW.out)
      replace R13 := Lib.hid (R13.out.next HW.out)
      replace R15 := Lib.hid (R15.out.next HW.out)
      replace B := Lib.hid (B.out.trans (HW.out.mono B.out.size))
      have KP : Hid (Blk wr v15.heap.size 43 (pkc 3 (.slice A 2 c'))) := hP
      have RP : Hid (RdD wr A [nodeD a b, c]) := hR
      rw [Lab.out] at RP
      clear hP hR hcc HP HW
      go_wp2_with fail
      refine wp_region_held_drew (S := fun W => Below wr.heap.size wr W) (by kernel_rfl) (Below.refl _ _).drew (fun hS => ?_)
      generalize wr.drew = w1 at hS ⊢
      refine reg_takeG (i := 0) (some 79) rfl rfl rfl (by kernel_rfl) (by kernel_rfl) (by kernel_rfl) (.int .i64 0) (fun _ _ _ h => h) (fun W hW => exec_move (.tmp 8) rfl _ rfl) hS ?_
      go_frame
      refine reg_valueG (i := 1) (some 80) rfl rfl rfl (by kernel_rfl) (.bool true) (exec_eqI _ (.tmp 79) (.const (.int .i64 0)) _ rfl .i64 0 0 rfl rfl) hS ?_
      go_frame
      refine reg_valueG (i := 2) (some 81) rfl rfl rfl (by kernel_rfl) (.bool true) (exec_move (.tmp 80) rfl _ rfl) hS ?_
      go_frame
      refine reg_valueG (i := 3) (some 82) rfl rfl rfl (by kernel_rfl) (.int .i64 0) (exec_move (.tmp 10) rfl _ rfl) hS ?_
      go_frame
      refine reg_valueG (i := 4) (some 83) rfl rfl rfl (by kernel_rfl) (.bool true) (exec_eqI _ (.tmp 82) (.const (.int .i64 0)) _ rfl .i64 0 0 rfl rfl) hS ?_
      go_frame
      refine reg_valueG (i := 5) (some 84) rfl rfl rfl (by kernel_rfl) (.bool true) (exec_pick (.tmp 81) (.tmp 83) (.const (.bool false)) rfl _ rfl rfl) hS ?_
      go_frame
      refine reg_valueG (i := 6) (some 85) rfl rfl rfl (by kernel_rfl) (.bool true) (exec_move (.tmp 84) rfl _ rfl) hS ?_
      go_frame
      refine reg_valueG (i := 7) (some 86) rfl rfl rfl (by kernel_rfl) (.int .i64 0) (exec_move (.tmp 12) rfl _ rfl) hS ?_
      go_frame
      refine reg_valueG (i := 8) (some 87) rfl rfl rfl (by kernel_rfl) (.bool true) (exec_eqI _ (.tmp 86) (.const (.int .i64 0)) _ rfl .i64 0 0 rfl rfl) hS ?_
      go_frame
      refine reg_valueG (i := 9) (some 88) rfl rfl rfl (by kernel_rfl) (.bool true) (exec_pick (.tmp 85) (.tmp 87) (.const (.bool false)) rfl _ rfl rfl) hS ?_
      go_frame
      refine reg_valueG (i := 10) (some 89) rfl rfl rfl (by kernel_rfl) (.bool true) (exec_move (.tmp 88) rfl _ rfl) hS ?_
      go_frame
      refine reg_valueG (i := 11) (some 90) rfl rfl rfl (by kernel_rfl) (.int .i64 0) (exec_move (.tmp 14) rfl _ rfl) hS ?_
      go_frame
      refine reg_valueG (i := 12) (some 91) rfl rfl rfl (by kernel_rfl) (.bool true) (exec_eqI _ (.tmp 90) (.const (.int .i64 0)) _ rfl .i64 0 0 rfl rfl) hS ?_
      go_frame
      refine reg_valueG (i := 13) (some 92) rfl rfl rfl (by kernel_rfl) (.bool true) (exec_pick (.tmp 89) (.tmp 91) (.const (.bool false)) rfl _ rfl rfl) hS ?_
      go_frame
      refine reg_valueG (i := 14) (some 93) rfl rfl rfl (by kernel_rfl) (.bool true) (exec_move (.tmp 92) rfl _ rfl) hS ?_
      go_frame
      refine reg_valueG (i := 15) (some 94) rfl rfl rfl (by kernel_rfl) (.int .i64 0) (exec_move (.tmp 16) rfl _ rfl) hS ?_
      go_frame
      refine reg_valueG (i := 16) (some 95) rfl rfl rfl (by kernel_rfl) (.bool true) (exec_eqI _ (.tmp 94) (.const (.int .i64 0)) _ rfl .i64 0 0 rfl rfl) hS ?_
      go_frame
      refine reg_valueG (i := 17) (some 96) rfl rfl rfl (by kernel_rfl) (.bool true) (exec_pick (.tmp 93) (.tmp 95) (.const (.bool false)) rfl _ rfl rfl) hS ?_
      go_frame
      refine reg_valueG (i := 18) (some 97) rfl rfl rfl (by kernel_rfl) (.bool true) (exec_move (.tmp 96) rfl _ rfl) hS ?_
      go_frame
      refine reg_takeG (i := 19) (some 98) rfl rfl rfl (by kernel_rfl) (by kernel_rfl) (by kernel_rfl) (.slice AR4 3 3) (fun _ _ _ h => h) (fun W hW => exec_move (.tmp 4) rfl _ rfl) hS ?_
      go_frame
      refine reg_takeG (i := 21) (some 100) rfl rfl rfl (by kernel_rfl) (by kernel_rfl) (by kernel_rfl) (dv rt) (fun _ _ _ h => h) (fun W hW => exec_loadB (.tmp 6) rfl rfl (K6.out.next hW)) hS ?_
      go_frame
      refine reg_callG (i := 20) (some 99) rfl rfl rfl (by kernel_rfl) rfl Tryd.func15 (by kernel_rfl) (by kernel_rfl) #[.slice AR4 3 3] rfl (root_any 3 [a, b, c] AR4 3 w1 (by simp) (by simp) (by simp) (GL.out.next hS).1 (R4.out.next hS)) ?_
      rintro e w2 ⟨rfl, hb⟩
      have hS2 := hS.trans (hb.mono hS.size)
      refine ⟨_, rfl, hS2, ?_⟩
      have e3 : rootD [a, b, c] = rt := by rw [s_root3, Lab.out, Lrt.out]
      rw [e3]
      clear e3
      go_frame
      clear hb
      refine reg_valueG (i := 22) (some 101) rfl rfl rfl (by kernel_rfl) (.bool true) (exec_sameD (.tmp 99) (.tmp 100) _ rfl rt rfl rfl) hS2 ?_
      go_frame
      refine reg_valueG (i := 23) (some 102) rfl rfl rfl (by kernel_rfl) (.bool true) (exec_pick (.tmp 97) (.tmp 101) (.const (.bool false)) rfl _ rfl rfl) hS2 ?_
      go_frame
      refine reg_valueG (i := 24) (some 103) rfl rfl rfl (by kernel_rfl) (.bool true) (exec_move (.tmp 102) rfl _ rfl) hS2 ?_
      go_frame
      refine reg_takeG (i := 25) (some 104) rfl rfl rfl (by kernel_rfl) (by kernel_rfl) (by kernel_rfl) (dv a) (fun _ _ _ h => h) (fun W hW => exec_loadB (.tmp 1) rfl rfl (K1.out.next hW)) hS2 ?_
      go_frame
      refine reg_callG (i := 26) (some 105) rfl rfl rfl (by kernel_rfl) rfl Tryd.func18 (by kernel_rfl) (by kernel_rfl) #[.string { data := #[97] }] rfl (rleaf_any { data := #[97] } w2 (GL.out.next hS2).2.2 (by decide)) ?_
      rintro e w3 ⟨rfl, hb⟩
      have hS3 := hS2.trans (hb.mono hS2.size)
      refine ⟨_, rfl, hS3, ?_⟩
      rw [La.out]
      go_frame
      clear hb
      refine reg_valueG (i := 27) (some 106) rfl rfl rfl (by kernel_rfl) (.bool true) (exec_sameD (.tmp 104) (.tmp 105) _ rfl a rfl rfl) hS3 ?_
      go_frame
      refine reg_valueG (i := 28) (some 107) rfl rfl rfl (by kernel_rfl) (.bool true) (exec_pick (.tmp 103) (.tmp 106) (.const (.bool false)) rfl _ rfl rfl) hS3 ?_
      go_frame
      refine reg_valueG (i := 29) (some 108) rfl rfl rfl (by kernel_rfl) (.bool true) (exec_move (.tmp 107) rfl _ rfl) hS3 ?_
      go_frame
      refine reg_takeG (i := 30) (some 109) rfl rfl rfl (by kernel_rfl) (by kernel_rfl) (by kernel_rfl) (dv ab) (fun _ _ _ h => h) (fun W hW => exec_loadB (.tmp 5) rfl rfl (K5.out.next hW)) hS3 ?_
      go_frame
      refine reg_takeG (i := 31) (some 110) rfl rfl rfl (by kernel_rfl) (by kernel_rfl) (by kernel_rfl) (dv a) (fun _ _ _ h => h) (fun W hW => exec_loadB (.tmp 1) rfl rfl (K1.out.next hW)) hS3 ?_
      go_frame
      refine reg_takeG (i := 32) (some 111) rfl rfl rfl (by kernel_rfl) (by kernel_rfl) (by kernel_rfl) (dv b) (fun _ _ _ h => h) (fun W hW => exec_loadB (.tmp 2) rfl rfl (K2.out.next hW)) hS3 ?_
      go_frame
      refine reg_callG (i := 33) (some 112) rfl rfl rfl (by kernel_rfl) rfl Tryd.func20 (by kernel_rfl) (by kernel_rfl) #[dv a, dv b] rfl (rnode_any a b w3 (GL.out.next hS3).2.2) ?_
      rintro e w4 ⟨rfl, hb⟩
      have hS4 := hS3.trans (hb.mono hS3.size)
      refine ⟨_, rfl, hS4, ?_⟩
      rw [Lab.out]
      go_frame
      clear hb
      refine reg_valueG (i := 34) (some 113) rfl rfl rfl (by kernel_rfl) (.bool true) (exec_sameD (.tmp 109) (.tmp 112) _ rfl ab rfl rfl) hS4 ?_
      go_frame
      refine reg_valueG (i := 35) (some 114) rfl rfl rfl (by kernel_rfl) (.bool true) (exec_pick (.tmp 108) (.tmp 113) (.const (.bool false)) rfl _ rfl rfl) hS4 ?_
      go_frame
      refine reg_valueG (i := 36) (some 21) rfl rfl rfl (by kernel_rfl) (.bool true) (exec_assign (.tmp 114) rfl _ rfl) hS4 ?_
      go_frame
      refine wpAnyH_done (by kernel_rfl) ?_ _
      replace GL := Lib.hid (GL.out.next hS4)
      replace K1 := Lib.hid (K1.out.next hS4)
      replace K2 := Lib.hid (K2.out.next hS4)
      replace K3 := Lib.hid (K3.out.next hS4)
      replace R4 := Lib.hid (R4.out.next hS4)
      replace K5 := Lib.hid (K5.out.next hS4)
      replace K6 := Lib.hid (K6.out.next hS4)
      replace R7 := Lib.hid (R7.out.next hS4)
      replace R9 := Lib.hid (R9.out.next hS4)
      replace R11 := Lib.hid (R11.out.next hS4)
      replace R13 := Lib.hid (R13.out.next hS4)
      replace R15 := Lib.hid (R15.out.next hS4)
      replace KP := Lib.hid (KP.out.next hS4)
      replace RP := Lib.hid (RP.out.next hS4)
      replace B := Lib.hid (B.out.trans (hS4.mono B.out.size))
      clear hS hS2 hS3 hS4
      go_wp2_with (first | (refine wpList_loadB rfl (.tmp 2) rfl v2.heap.size b rfl K2.out ?_) | (refine wpList_loadB rfl (.tmp 3) rfl v3.heap.size c rfl K3.out ?_) | (refine wpList_buildD rfl 2 _ rfl [b, c] rfl (by simp) (by simp) rfl ?_; intro ARX1 xRX1 hRX1 hb; replace GL := Lib.hid (GL.out.next hb); replace K1 := Lib.hid (K1.out.next hb); replace K2 := Lib.hid (K2.out.next hb); replace K3 := Lib.hid (K3.out.next hb); replace R4 := Lib.hid (R4.out.next hb); replace K5 := Lib.hid (K5.out.next hb); replace K6 := Lib.hid (K6.out.next hb); replace R7 := Lib.hid (R7.out.next hb); replace R9 := Lib.hid (R9.out.next hb); replace R11 := Lib.hid (R11.out.next hb); replace R13 := Lib.hid (R13.out.next hb); replace R15 := Lib.hid (R15.out.next hb); replace KP := Lib.hid (KP.out.next hb); replace RP := Lib.hid (RP.out.next hb); replace B := Lib.hid (B.out.trans (hb.mono B.out.size)); have RX1 := Lib.hid hRX1; clear hRX1 hb))
      have hcall := same_any A7 ARX1 c7 2 [b, c] [b, c] _ R7.out RX1.out (by simp)
      rw [decide_eq_true rfl] at hcall
      refine hcall.mono ?_
      rintro e yRX1 ⟨rfl, hb⟩
      replace GL := Lib.hid (GL.out.next hb)
      replace K1 := Lib.hid (K1.out.next hb)
      replace K2 := Lib.hid (K2.out.next hb)
      replace K3 := Lib.hid (K3.out.next hb)
      replace R4 := Lib.hid (R4.out.next hb)
      replace K5 := Lib.hid (K5.out.next hb)
      replace K6 := Lib.hid (K6.out.next hb)
      replace R7 := Lib.hid (R7.out.next hb)
      replace R9 := Lib.hid (R9.out.next hb)
      replace R11 := Lib.hid (R11.out.next hb)
      replace R13 := Lib.hid (R13.out.next hb)
      replace R15 := Lib.hid (R15.out.next hb)
      replace KP := Lib.hid (KP.out.next hb)
      replace RP := Lib.hid (RP.out.next hb)
      replace B := Lib.hid (B.out.trans (hb.mono B.out.size))
      clear hb hcall
      go_wp2_with (first | (refine wpList_loadB rfl (.tmp 5) rfl v5.heap.size ab rfl K5.out ?_) | (refine wpList_buildD rfl 1 _ rfl [ab] rfl (by simp) (by simp) rfl ?_; intro ARX2 xRX2 hRX2 hb; replace GL := Lib.hid (GL.out.next hb); replace K1 := Lib.hid (K1.out.next hb); replace K2 := Lib.hid (K2.out.next hb); replace K3 := Lib.hid (K3.out.next hb); replace R4 := Lib.hid (R4.out.next hb); replace K5 := Lib.hid (K5.out.next hb); replace K6 := Lib.hid (K6.out.next hb); replace R7 := Lib.hid (R7.out.next hb); replace R9 := Lib.hid (R9.out.next hb); replace R11 := Lib.hid (R11.out.next hb); replace R13 := Lib.hid (R13.out.next hb); replace R15 := Lib.hid (R15.out.next hb); replace KP := Lib.hid (KP.out.next hb); replace RP := Lib.hid (RP.out.next hb); replace B := Lib.hid (B.out.trans (hb.mono B.out.size)); have RX2 := Lib.hid hRX2; clear hRX2 hb))
      have hcall := same_any A9 ARX2 c9 1 [ab] [ab] _ R9.out RX2.out (by simp)
      rw [decide_eq_true rfl] at hcall
      refine hcall.mono ?_
      rintro e yRX2 ⟨rfl, hb⟩
      replace GL := Lib.hid (GL.out.next hb)
      replace K1 := Lib.hid (K1.out.next hb)
      replace K2 := Lib.hid (K2.out.next hb)
      replace K3 := Lib.hid (K3.out.next hb)
      replace R4 := Lib.hid (R4.out.next hb)
      replace K5 := Lib.hid (K5.out.next hb)
      replace K6 := Lib.hid (K6.out.next hb)
      replace R7 := Lib.hid (R7.out.next hb)
      replace R9 := Lib.hid (R9.out.next hb)
      replace R11 := Lib.hid (R11.out.next hb)
      replace R13 := Lib.hid (R13.out.next hb)
      replace R15 := Lib.hid (R15.out.next hb)
      replace KP := Lib.hid (KP.out.next hb)
      replace RP := Lib.hid (RP.out.next hb)
      replace B := Lib.hid (B.out.trans (hb.mono B.out.size))
      clear hb hcall
      go_wp2_with (first | (refine wpList_loadB rfl (.tmp 2) rfl v2.heap.size b rfl K2.out ?_) | (refine wpList_loadB rfl (.tmp 3) rfl v3.heap.size c rfl K3.out ?_) | (refine wpList_buildD rfl 2 _ rfl [b, c] rfl (by simp) (by simp) rfl ?_; intro ARX3 xRX3 hRX3 hb; replace GL := Lib.hid (GL.out.next hb); replace K1 := Lib.hid (K1.out.next hb); replace K2 := Lib.hid (K2.out.next hb); replace K3 := Lib.hid (K3.out.next hb); replace R4 := Lib.hid (R4.out.next hb); replace K5 := Lib.hid (K5.out.next hb); replace K6 := Lib.hid (K6.out.next hb); replace R7 := Lib.hid (R7.out.next hb); replace R9 := Lib.hid (R9.out.next hb); replace R11 := Lib.hid (R11.out.next hb); replace R13 := Lib.hid (R13.out.next hb); replace R15 := Lib.hid (R15.out.next hb); replace KP := Lib.hid (KP.out.next hb); replace RP := Lib.hid (RP.out.next hb); replace B := Lib.hid (B.out.trans (hb.mono B.out.size)); have RX3 := Lib.hid hRX3; clear hRX3 hb))
      have hcall := same_any A11 ARX3 c11 2 [b, c] [b, c] _ R11.out RX3.out (by simp)
      rw [decide_eq_true rfl] at hcall
      refine hcall.mono ?_
      rintro e yRX3 ⟨rfl, hb⟩
      replace GL := Lib.hid (GL.out.next hb)
      replace K1 := Lib.hid (K1.out.next hb)
      replace K2 := Lib.hid (K2.out.next hb)
      replace K3 := Lib.hid (K3.out.next hb)
      replace R4 := Lib.hid (R4.out.next hb)
      replace K5 := Lib.hid (K5.out.next hb)
      replace K6 := Lib.hid (K6.out.next hb)
      replace R7 := Lib.hid (R7.out.next hb)
      replace R9 := Lib.hid (R9.out.next hb)
      replace R11 := Lib.hid (R11.out.next hb)
      replace R13 := Lib.hid (R13.out.next hb)
      replace R15 := Lib.hid (R15.out.next hb)
      replace KP := Lib.hid (KP.out.next hb)
      replace RP := Lib.hid (RP.out.next hb)
      replace B := Lib.hid (B.out.trans (hb.mono B.out.size))
      clear hb hcall
      go_wp2_with (first | (refine wpList_loadB rfl (.tmp 3) rfl v3.heap.size c rfl K3.out ?_) | (refine wpList_buildD rfl 1 _ rfl [c] rfl (by simp) (by simp) rfl ?_; intro ARX4 xRX4 hRX4 hb; replace GL := Lib.hid (GL.out.next hb); replace K1 := Lib.hid (K1.out.next hb); replace K2 := Lib.hid (K2.out.next hb); replace K3 := Lib.hid (K3.out.next hb); replace R4 := Lib.hid (R4.out.next hb); replace K5 := Lib.hid (K5.out.next hb); replace K6 := Lib.hid (K6.out.next hb); replace R7 := Lib.hid (R7.out.next hb); replace R9 := Lib.hid (R9.out.next hb); replace R11 := Lib.hid (R11.out.next hb); replace R13 := Lib.hid (R13.out.next hb); replace R15 := Lib.hid (R15.out.next hb); replace KP := Lib.hid (KP.out.next hb); replace RP := Lib.hid (RP.out.next hb); replace B := Lib.hid (B.out.trans (hb.mono B.out.size)); have RX4 := Lib.hid hRX4; clear hRX4 hb))
      have hcall := same_any A13 ARX4 c13 1 [c] [c] _ R13.out RX4.out (by simp)
      rw [decide_eq_true rfl] at hcall
      refine hcall.mono ?_
      rintro e yRX4 ⟨rfl, hb⟩
      replace GL := Lib.hid (GL.out.next hb)
      replace K1 := Lib.hid (K1.out.next hb)
      replace K2 := Lib.hid (K2.out.next hb)
      replace K3 := Lib.hid (K3.out.next hb)
      replace R4 := Lib.hid (R4.out.next hb)
      replace K5 := Lib.hid (K5.out.next hb)
      replace K6 := Lib.hid (K6.out.next hb)
      replace R7 := Lib.hid (R7.out.next hb)
      replace R9 := Lib.hid (R9.out.next hb)
      replace R11 := Lib.hid (R11.out.next hb)
      replace R13 := Lib.hid (R13.out.next hb)
      replace R15 := Lib.hid (R15.out.next hb)
      replace KP := Lib.hid (KP.out.next hb)
      replace RP := Lib.hid (RP.out.next hb)
      replace B := Lib.hid (B.out.trans (hb.mono B.out.size))
      clear hb hcall
      go_wp2_with (first | (refine wpList_loadB rfl (.tmp 2) rfl v2.heap.size b rfl K2.out ?_) | (refine wpList_buildD rfl 1 _ rfl [b] rfl (by simp) (by simp) rfl ?_; intro ARX5 xRX5 hRX5 hb; replace GL := Lib.hid (GL.out.next hb); replace K1 := Lib.hid (K1.out.next hb); replace K2 := Lib.hid (K2.out.next hb); replace K3 := Lib.hid (K3.out.next hb); replace R4 := Lib.hid (R4.out.next hb); replace K5 := Lib.hid (K5.out.next hb); replace K6 := Lib.hid (K6.out.next hb); replace R7 := Lib.hid (R7.out.next hb); replace R9 := Lib.hid (R9.out.next hb); replace R11 := Lib.hid (R11.out.next hb); replace R13 := Lib.hid (R13.out.next hb); replace R15 := Lib.hid (R15.out.next hb); replace KP := Lib.hid (KP.out.next hb); replace RP := Lib.hid (RP.out.next hb); replace B := Lib.hid (B.out.trans (hb.mono B.out.size)); have RX5 := Lib.hid hRX5; clear hRX5 hb))
      have hcall := same_any A15 ARX5 c15 1 [b] [b] _ R15.out RX5.out (by simp)
      rw [decide_eq_true rfl] at hcall
      refine hcall.mono ?_
      rintro e yRX5 ⟨rfl, hb⟩
      replace GL := Lib.hid (GL.out.next hb)
      replace K1 := Lib.hid (K1.out.next hb)
      replace K2 := Lib.hid (K2.out.next hb)
      replace K3 := Lib.hid (K3.out.next hb)
      replace R4 := Lib.hid (R4.out.next hb)
      replace K5 := Lib.hid (K5.out.next hb)
      replace K6 := Lib.hid (K6.out.next hb)
      replace R7 := Lib.hid (R7.out.next hb)
      replace R9 := Lib.hid (R9.out.next hb)
      replace R11 := Lib.hid (R11.out.next hb)
      replace R13 := Lib.hid (R13.out.next hb)
      replace R15 := Lib.hid (R15.out.next hb)
      replace KP := Lib.hid (KP.out.next hb)
      replace RP := Lib.hid (RP.out.next hb)
      replace B := Lib.hid (B.out.trans (hb.mono B.out.size))
      clear hb hcall
      go_wp2_with (first | (refine wpList_loadB rfl (.tmp 1) rfl v1.heap.size a rfl K1.out ?_) | (refine wpList_loadB rfl (.tmp 6) rfl v6.heap.size rt rfl K6.out ?_))
      have e : (dgEq (oneD a 0 3 0 [b, c]).1 rt && decide ((oneD a 0 3 0 [b, c]).2 = [b, c].length)) = true := by rw [s_one, Lab.out, Lrt.out, Bool.and_eq_true]; exact ⟨dgEq_iff.2 rfl, rfl⟩
      have hcall := ci_any a rt 0 3 A7 c7 [b, c] _ GL.out.1 R7.out (by omega) (by omega)
      rw [e] at hcall
      refine hcall.mono ?_
      rintro e z1 ⟨rfl, hb⟩
      replace GL := Lib.hid (GL.out.next hb)
      replace K1 := Lib.hid (K1.out.next hb)
      replace K2 := Lib.hid (K2.out.next hb)
      replace K3 := Lib.hid (K3.out.next hb)
      replace R4 := Lib.hid (R4.out.next hb)
      replace K5 := Lib.hid (K5.out.next hb)
      replace K6 := Lib.hid (K6.out.next hb)
      replace R7 := Lib.hid (R7.out.next hb)
      replace R9 := Lib.hid (R9.out.next hb)
      replace R11 := Lib.hid (R11.out.next hb)
      replace R13 := Lib.hid (R13.out.next hb)
      replace R15 := Lib.hid (R15.out.next hb)
      replace KP := Lib.hid (KP.out.next hb)
      replace RP := Lib.hid (RP.out.next hb)
      replace B := Lib.hid (B.out.trans (hb.mono B.out.size))
      clear hb hcall
      clear e
      go_wp2_with (first | (refine wpList_loadB rfl (.tmp 1) rfl v1.heap.size a rfl K1.out ?_) | (refine wpList_loadB rfl (.tmp 6) rfl v6.heap.size rt rfl K6.out ?_))
      have e : ((dgEq (oldD 1 3 true a 0 [b, c]).1 a && dgEq (oldD 1 3 true a 0 [b, c]).2.1 rt) && decide ((oldD 1 3 true a 0 [b, c]).2.2 = [b, c].length)) = true := by rw [s_old, Lab.out, Lrt.out, Bool.and_eq_true, Bool.and_eq_true]; exact ⟨⟨dgEq_iff.2 rfl, dgEq_iff.2 rfl⟩, rfl⟩
      have hcall := cc_any 1 3 a rt A11 c11 [b, c] _ GL.out.1 R11.out (by omega) (by omega) (by omega)
      rw [e] at hcall
      refine hcall.mono ?_
      rintro e z2 ⟨rfl, hb⟩
      replace GL := Lib.hid (GL.out.next hb)
      replace K1 := Lib.hid (K1.out.next hb)
      replace K2 := Lib.hid (K2.out.next hb)
      replace K3 := Lib.hid (K3.out.next hb)
      replace R4 := Lib.hid (R4.out.next hb)
      replace K5 := Lib.hid (K5.out.next hb)
      replace K6 := Lib.hid (K6.out.next hb)
      replace R7 := Lib.hid (R7.out.next hb)
      replace R9 := Lib.hid (R9.out.next hb)
      replace R11 := Lib.hid (R11.out.next hb)
      replace R13 := Lib.hid (R13.out.next hb)
      replace R15 := Lib.hid (R15.out.next hb)
      replace KP := Lib.hid (KP.out.next hb)
      replace RP := Lib.hid (RP.out.next hb)
      replace B := Lib.hid (B.out.trans (hb.mono B.out.size))
      clear hb hcall
      clear e
      go_wp2_with (first | (refine wpList_ints2 rfl 0 2 rfl ?_; intro ARI xRI hRI hb; replace GL := Lib.hid (GL.out.next hb); replace K1 := Lib.hid (K1.out.next hb); replace K2 := Lib.hid (K2.out.next hb); replace K3 := Lib.hid (K3.out.next hb); replace R4 := Lib.hid (R4.out.next hb); replace K5 := Lib.hid (K5.out.next hb); replace K6 := Lib.hid (K6.out.next hb); replace R7 := Lib.hid (R7.out.next hb); replace R9 := Lib.hid (R9.out.next hb); replace R11 := Lib.hid (R11.out.next hb); replace R13 := Lib.hid (R13.out.next hb); replace R15 := Lib.hid (R15.out.next hb); replace KP := Lib.hid (KP.out.next hb); replace RP := Lib.hid (RP.out.next hb); replace B := Lib.hid (B.out.trans (hb.mono B.out.size)); have RI := Lib.hid hRI; clear hRI hb) | (refine wpList_loadB rfl (.tmp 1) rfl v1.heap.size a rfl K1.out ?_) | (refine wpList_loadB rfl (.tmp 3) rfl v3.heap.size c rfl K3.out ?_) | (refine wpList_loadB rfl (.tmp 6) rfl v6.heap.size rt rfl K6.out ?_) | (refine wpList_buildD rfl 2 _ rfl [a, c] rfl (by simp) (by simp) rfl ?_; intro ARF xRF hRF hb; replace GL := Lib.hid (GL.out.next hb); replace K1 := Lib.hid (K1.out.next hb); replace K2 := Lib.hid (K2.out.next hb); replace K3 := Lib.hid (K3.out.next hb); replace R4 := Lib.hid (R4.out.next hb); replace K5 := Lib.hid (K5.out.next hb); replace K6 := Lib.hid (K6.out.next hb); replace R7 := Lib.hid (R7.out.next hb); replace R9 := Lib.hid (R9.out.next hb); replace R11 := Lib.hid (R11.out.next hb); replace R13 := Lib.hid (R13.out.next hb); replace R15 := Lib.hid (R15.out.next hb); replace KP := Lib.hid (KP.out.next hb); replace RP := Lib.hid (RP.out.next hb); replace RI := Lib.hid (RI.out.next hb); replace B := Lib.hid (B.out.trans (hb.mono B.out.size)); have RF := Lib.hid hRF; clear hRF hb))
      have e : (dgEq (wlkD 0 3 [0, 2] [a, c] 0 [b]).1 rt && decide ((wlkD 0 3 [0, 2] [a, c] 0 [b]).2 = [b].length)) = true := by rw [s_wlk, Lab.out, Lrt.out, Bool.and_eq_true]; exact ⟨dgEq_iff.2 rfl, rfl⟩
      have hcall := cm_any 3 rt [0, 2] [a, c] ARI 2 ARF 2 A15 c15 [b] _ GL.out.1 R15.out (by omega) rfl rfl (by simp) (by simp) (by simp) RI.out RF.out
      rw [e] at hcall
      refine hcall.mono ?_
      rintro e z3 ⟨rfl, hb⟩
      replace GL := Lib.hid (GL.out.next hb)
      replace K1 := Lib.hid (K1.out.next hb)
      replace K2 := Lib.hid (K2.out.next hb)
      replace K3 := Lib.hid (K3.out.next hb)
      replace R4 := Lib.hid (R4.out.next hb)
      replace K5 := Lib.hid (K5.out.next hb)
      replace K6 := Lib.hid (K6.out.next hb)
      replace R7 := Lib.hid (R7.out.next hb)
      replace R9 := Lib.hid (R9.out.next hb)
      replace R11 := Lib.hid (R11.out.next hb)
      replace R13 := Lib.hid (R13.out.next hb)
      replace R15 := Lib.hid (R15.out.next hb)
      replace KP := Lib.hid (KP.out.next hb)
      replace RP := Lib.hid (RP.out.next hb)
      replace RI := Lib.hid (RI.out.next hb)
      replace RF := Lib.hid (RF.out.next hb)
      replace B := Lib.hid (B.out.trans (hb.mono B.out.size))
      clear hb hcall
      clear e
      go_wp2_with (first | (refine wpList_loadB rfl (.tmp 1) rfl v1.heap.size a rfl K1.out ?_) | (refine wpList_loadB rfl (.tmp 6) rfl v6.heap.size rt rfl K6.out ?_))
      have e : (dgEq (oneD a 0 3 0 [ab]).1 rt && decide ((oneD a 0 3 0 [ab]).2 = [ab].length)) = false := by rw [s_one', show decide (2 = [ab].length) = false from rfl, Bool.and_false]
      have hcall := ci_any a rt 0 3 A9 c9 [ab] _ GL.out.1 R9.out (by omega) (by omega)
      rw [e] at hcall
      refine hcall.mono ?_
      rintro e z4 ⟨rfl, hb⟩
      replace GL := Lib.hid (GL.out.next hb)
      replace K1 := Lib.hid (K1.out.next hb)
      replace K2 := Lib.hid (K2.out.next hb)
      replace K3 := Lib.hid (K3.out.next hb)
      replace R4 := Lib.hid (R4.out.next hb)
      replace K5 := Lib.hid (K5.out.next hb)
      replace K6 := Lib.hid (K6.out.next hb)
      replace R7 := Lib.hid (R7.out.next hb)
      replace R9 := Lib.hid (R9.out.next hb)
      replace R11 := Lib.hid (R11.out.next hb)
      replace R13 := Lib.hid (R13.out.next hb)
      replace R15 := Lib.hid (R15.out.next hb)
      replace KP := Lib.hid (KP.out.next hb)
      replace RP := Lib.hid (RP.out.next hb)
      replace RI := Lib.hid (RI.out.next hb)
      replace RF := Lib.hid (RF.out.next hb)
      replace B := Lib.hid (B.out.trans (hb.mono B.out.size))
      clear hb hcall
      clear e
      have hc0 : z4.cell? ⟨v15.heap.size, 0, none⟩ = some (.int .i64 3) := KP.out.cell 0
      have hc1 : z4.cell? ⟨v15.heap.size, 1, none⟩ = some (.slice A 2 c') := KP.out.cell 1
      go_wp2_with (first | (refine wpList_loadB rfl (.tmp 5) rfl v5.heap.size ab rfl K5.out ?_) | (refine wpList_loadB rfl (.tmp 3) rfl v3.heap.size c rfl K3.out ?_) | (refine wpList_buildD rfl 2 _ rfl [ab, c] rfl (by simp) (by simp) rfl ?_; intro ARZ xRZ hRZ hb; replace GL := Lib.hid (GL.out.next hb); replace K1 := Lib.hid (K1.out.next hb); replace K2 := Lib.hid (K2.out.next hb); replace K3 := Lib.hid (K3.out.next hb); replace R4 := Lib.hid (R4.out.next hb); replace K5 := Lib.hid (K5.out.next hb); replace K6 := Lib.hid (K6.out.next hb); replace R7 := Lib.hid (R7.out.next hb); replace R9 := Lib.hid (R9.out.next hb); replace R11 := Lib.hid (R11.out.next hb); replace R13 := Lib.hid (R13.out.next hb); replace R15 := Lib.hid (R15.out.next hb); replace KP := Lib.hid (KP.out.next hb); replace RP := Lib.hid (RP.out.next hb); replace RI := Lib.hid (RI.out.next hb); replace RF := Lib.hid (RF.out.next hb); replace B := Lib.hid (B.out.trans (hb.mono B.out.size)); have RZ := Lib.hid hRZ; clear hRZ hb))
      clear hc0 hc1
      have hcall := same_any A ARZ c' 2 [ab, c] [ab, c] _ RP.out RZ.out (by simp)
      rw [decide_eq_true rfl] at hcall
      refine hcall.mono ?_
      rintro e yRZ ⟨rfl, hb⟩
      replace GL := Lib.hid (GL.out.next hb)
      replace K1 := Lib.hid (K1.out.next hb)
      replace K2 := Lib.hid (K2.out.next hb)
      replace K3 := Lib.hid (K3.out.next hb)
      replace R4 := Lib.hid (R4.out.next hb)
      replace K5 := Lib.hid (K5.out.next hb)
      replace K6 := Lib.hid (K6.out.next hb)
      replace R7 := Lib.hid (R7.out.next hb)
      replace R9 := Lib.hid (R9.out.next hb)
      replace R11 := Lib.hid (R11.out.next hb)
      replace R13 := Lib.hid (R13.out.next hb)
      replace R15 := Lib.hid (R15.out.next hb)
      replace KP := Lib.hid (KP.out.next hb)
      replace RP := Lib.hid (RP.out.next hb)
      replace RI := Lib.hid (RI.out.next hb)
      replace RF := Lib.hid (RF.out.next hb)
      replace RZ := Lib.hid (RZ.out.next hb)
      replace B := Lib.hid (B.out.trans (hb.mono B.out.size))
      clear hb hcall
      go_wp2
      go_ret
      exact ⟨rfl, B.out⟩
end Go.Proofs.YtfbemmeonkceiaaDoor
