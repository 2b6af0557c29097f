/- Proofs as they grow: what stands while a closure appends digests to its variable. -/
import Derived.Test.YtfbemmeonkceiaaDoorK5
namespace Go.Proofs.YtfbemmeonkceiaaDoor
open Go.RowKit Hm Wm

/-- 'path' (the list 'l' so far) and the closure's own variable, two blocks made behind w0; digests appended lie behind them. -/
def HeldP (w0 : World) (g : Nat) (q : Nat) (T : TypeId) (F v : Value) (l : List Dg) (W : World) : Prop :=
  Below w0.heap.size w0 W ∧ Blk W g 22 [v] ∧ Blk W q T [F] ∧ W.ownsRow (w0.heap.size + 2) 31 16 v l.length (dl l) ∧ w0.heap.size ≤ g ∧ w0.heap.size ≤ q ∧ g < w0.heap.size + 2 ∧ q < w0.heap.size + 2 ∧ g ≠ q
section
variable {w0 W W' : World} {g q : Nat} {T : TypeId} {F v : Value} {l : List Dg}
theorem HeldP.next (h : HeldP w0 g q T F v l W) (hb : Below W.heap.size W W') : HeldP w0 g q T F v l W' :=
  ⟨h.1.trans (hb.mono h.1.size), h.2.1.next hb, h.2.2.1.next hb, own_below h.2.2.2.1 hb, h.2.2.2.2⟩
theorem HeldP.drew (h : HeldP w0 g q T F v l W) : HeldP w0 g q T F v l W.drew := ⟨h.1.drew, h.2.1, h.2.2.1, h.2.2.2.1, h.2.2.2.2⟩
theorem HeldP.drewN (h : HeldP w0 g q T F v l W) (n : Nat) : HeldP w0 g q T F v l (W.drewN n) := ⟨drewN_below h.1 n, h.2.1, h.2.2.1, h.2.2.2.1, h.2.2.2.2⟩
theorem HeldP.alloc (h : HeldP w0 g q T F v l W) (o : Obj) : HeldP w0 g q T F v l (W.alloc o) := h.next ((Below.refl _ _).alloc (Nat.le_refl _) o)
theorem HeldP.big (h : HeldP w0 g q T F v l W) : w0.heap.size + 2 ≤ W.heap.size := by
  have h1 := h.2.1.lt
  have h2 := h.2.2.1.lt
  obtain ⟨_, _, _, _, h3, h4, h5, h6, h7⟩ := h
  omega
theorem HeldP.var (h : HeldP w0 g q T F v l W) : (Instr.loadAt 22 (.pointer (some ⟨g, 0, none⟩))).run Tryd.prog W = .ok v W := run_load_var _ ds_flat h.2.1
end

/-- 'append(l, d)' onto an own row of digests, d's row made just now. -/
theorem op_pushD {ops : Array Oper} {i : Nat} {oi : Oper} {a : Act} {w : World} {K : Act → World → Prop} {Q : Exit → Act → World → Prop} (d : Option Tmp) (hi : ops[i]? = some oi) (hd : oi.dst = d) (hgd : oi.guard = none) (s x : Operand)
    (ho : oi.op = .call { callee := .builtin .append, args := #[s, x], argTypes := #[22, 22] })
    (base : Nat) (v : Value) (l : List Dg) (hs : a.eval s = v) (hown : w.ownsRow base 31 16 v l.length (dl l)) (e : Dg) (hb : base ≤ w.heap.size) (hl : l.length ≤ 1099511627776)
    (hx : a.eval x = .slice (some ⟨w.heap.size, 0, none⟩) 1 1)
    (h : ∀ v' w', w'.ownsRow base 31 16 v' (l ++ [e]).length (dl (l ++ [e])) → Below base w w' → K (a.put d v') w') :
    wpOp Tryd.prog ops Q i K a (w.alloc (.cells (dc e).toArray 31)) := by
  obtain ⟨i0, hi0, hz0, hz1, hz2⟩ := info_parts dg_info
  subst hd
  refine op_wp hi hgd ?_
  have hnews : ∀ j u, (dc e)[j]? = some u → (w.alloc (.cells (dc e).toArray 31)).cell? ((⟨w.heap.size, 0, none⟩ : Addr).add j) = some u := by
    intro j u hu
    rw [Addr.add_mid, Nat.zero_add, (Blk.new w 31 (dc e)).cell j]
    exact hu
  obtain ⟨v', w', hrun, h2, h3, _⟩ := run_append_own_at (P := Tryd.prog) (w.alloc (.cells (dc e).toArray 31)) base 22 oi.type 31 i0 _ 16 16 ds_under hi0 hz0 hz1 hz2 rfl (by decide) v l.length (dl l) (World.ownsRow.alloc hown _)
    ⟨w.heap.size, 0, none⟩ 1 1 (dc e) (by rw [dc_len]) hnews (dc_one _) (by unfold maxLen; omega) (by omega) (by simp; omega)
  unfold Oper.wp execOp
  simp only [ho, resolve, invoke, builtin, Sem.run_bind, Sem.run_pure, Result.andThen_ok, List.map_toArray, List.map_cons, List.map_nil, hs, hx, hrun]
  refine h v' w' ?_ ?_
  · rw [List.length_append, dl_app, dl_one]
    exact h2
  · exact (((Below.refl base w).alloc hb _).grown h3 (by simp; omega) (fun k hk => (World.ownsRow.lt hown k hk).1))
/-- A variable of one cell is stored. -/
theorem wp_store_var {w : World} {op : Oper} {a : Act} {K : Act → World → Prop} {Q : Exit → Act → World → Prop} (ty : TypeId) (x y : Operand) (ho : op.op = .store ty x y)
    (g : Nat) (t : TypeId) (v0 v : Value) (hx : a.eval x = .pointer (some ⟨g, 0, none⟩)) (hy : a.eval y = v) (hb : Blk w g t [v0]) (hsz : (Tryd.prog.info? ty).map (·.size) = some 1) (h1 : v.oneCell' = true) (hv : v.cells = #[v])
    (h : ∀ w', Blk w' g t [v] → Only g w w' → K (a.put op.dst undef) w') : op.wp Tryd.prog a w K Q := by
  have hrun := run_store_var ty v hb hsz h1 hv
  unfold Oper.wp execOp
  simp only [ho, hx, hy, Sem.run_bind, hrun, Result.andThen_ok]
  exact h _ (setRow_heap w g _ _ t _ hb) (Only.setRow w g _)
theorem op_store_var {ops : Array Oper} {i : Nat} {oi : Oper} {a : Act} {w : World} {K : Act → World → Prop} {Q : Exit → Act → World → Prop} (hi : ops[i]? = some oi) (hd : oi.dst = none) (hgd : oi.guard = none) (ty : TypeId) (x y : Operand) (ho : oi.op = .store ty x y)
    (g : Nat) (t : TypeId) (v0 v : Value) (hx : a.eval x = .pointer (some ⟨g, 0, none⟩)) (hy : a.eval y = v) (hb : Blk w g t [v0]) (hsz : (Tryd.prog.info? ty).map (·.size) = some 1) (h1 : v.oneCell' = true) (hv : v.cells = #[v])
    (h : ∀ w', Blk w' g t [v] → Only g w w' → K (a.put none undef) w') : wpOp Tryd.prog ops Q i K a w :=
  op_wp hi hgd (wp_store_var ty x y ho g t v0 v hx hy hb hsz h1 hv (by rw [hd]; exact h))
theorem wpList_store_var {w : World} {ops : Array Oper} {rest : List Oper} {op : Oper} {a : Act} {Q : Exit → Act → World → Prop} (hgd : op.guard = none) (ty : TypeId) (x y : Operand) (ho : op.op = .store ty x y)
    (g : Nat) (t : TypeId) (v0 v : Value) (hx : a.eval x = .pointer (some ⟨g, 0, none⟩)) (hy : a.eval y = v) (hb : Blk w g t [v0]) (hsz : (Tryd.prog.info? ty).map (·.size) = some 1) (h1 : v.oneCell' = true) (hv : v.cells = #[v])
    (h : ∀ w', Hid (Blk w' g t [v]) → Only g w w' → wpList Tryd.prog ops Q rest (a.put op.dst undef) w') : wpList Tryd.prog ops Q (op :: rest) a w :=
  wpList_plain hgd fun _ hK => wp_store_var ty x y ho g t v0 v hx hy hb hsz h1 hv fun w' e1 e2 => hK _ _ (h w' e1 e2)
theorem wpList_load_var {w : World} {ops : Array Oper} {rest : List Oper} {op : Oper} {a : Act} {Q : Exit → Act → World → Prop} (hgd : op.guard = none) (ty : TypeId) (x : Operand) (ho : op.op = .load ty x)
    (g : Nat) (t : TypeId) (v : Value) (hx : a.eval x = .pointer (some ⟨g, 0, none⟩)) (hb : Blk w g t [v]) (hag : ∀ W, (isAgg ty).run Tryd.prog W = .ok false W)
    (h : wpList Tryd.prog ops Q rest (a.put op.dst v) w) : wpList Tryd.prog ops Q (op :: rest) a w := by
  have hrun := run_load_var ty hag hb
  refine wpList_plain hgd fun K hK => ?_
  unfold Oper.wp execOp
  simp only [ho, hx, Sem.run_bind, hrun, Result.andThen_ok]
  exact hK _ _ h
/-- A slice is one cell. -/
theorem own_cell {w : World} {base : Nat} {e : TypeId} {size : Nat} {v : Value} {n : Nat} {xs : List Value} (h : w.ownsRow base e size v n xs) : v.oneCell' = true ∧ v.cells = #[v] := by
  rcases h.2 with ⟨rfl, _⟩ | ⟨g, cap, cur, rfl, _⟩ <;> exact ⟨rfl, rfl⟩
theorem HeldP.push {w0 W3 W5 W6 : World} {g q : Nat} {T : TypeId} {F v v' : Value} {l : List Dg} {e : Dg} (h : HeldP w0 g q T F v l W3) (hown : W5.ownsRow (w0.heap.size + 2) 31 16 v' (l ++ [e]).length (dl (l ++ [e])))
    (hb : Below (w0.heap.size + 2) W3 W5) (hk : Blk W6 g 22 [v']) (ho : Only g W5 W6) : HeldP w0 g q T F v' (l ++ [e]) W6 := by
  obtain ⟨h1, h2, h3, h4, h5, h6, h7, h8, h9⟩ := h
  exact ⟨(h1.trans (hb.mono (by omega))).trans (ho.below h5), hk, ho.blk (h3.below hb h8) (Ne.symm h9), own_only hown ho h7, h5, h6, h7, h8, h9⟩

/-- How the closures are called. -/
def inclF (g q : Nat) : Value := .func (.func 32) #[] #[.pointer (some ⟨q, 0, none⟩), .pointer (some ⟨g, 0, none⟩)]
theorem fl_under (W : World) : (isAgg 64).run Tryd.prog W = .ok false W := by kernel_rfl

set_option maxRecDepth 100000 in
set_option maxHeartbeats 1000000 in
theorem incl1_any (w0 : World) (hg0 : Glob w0) (g q : Nat) (k : Nat) : ∀ (l : List Dg) (i : Nat) (A : Option Addr) (c : Nat) (v : Value) (path : List Dg) (w : World), l.length ≤ k → i < l.length → l.length ≤ c → l.length ≤ 2 ^ 39 → path.length + l.length ≤ 2 ^ 39 →
    RdD w0 A l → HeldP w0 g q 64 (inclF g q) v path w →
    Calls Tryd.prog 32 #[.slice A l.length c, .int .i64 i, .pointer (some ⟨q, 0, none⟩), .pointer (some ⟨g, 0, none⟩)] w fun e w' => e = .returned (.tuple #[]) ∧ ∃ v', HeldP w0 g q 64 (inclF g q) v' (path ++ inclD l i) w' := by
  induction k with
  | zero => intro l i A c v path w hk hi; omega
  | succ k ih =>
    intro l i A c v path w hk hi hc hn hp hr hS
    rcases Nat.lt_or_ge l.length 2 with h2 | h2
    · have e1 : l.length = 1 := by omega
      rw [inclD_one i (by omega), e1, List.append_nil]
      have HS := Lib.hid hS
      clear hS ih hr
      go_enter Tryd.func32, Tryd.ntmps32
      go_wp2
      exact bodyPost_ret (results_none rfl _ _ _) rfl ⟨rfl, v, HS.out⟩
    · have hlt := hf_lt h2
      have hpos := hf_pos l.length
      have e1 : (l.take (hf l.length)).length = hf l.length := by rw [List.length_take]; omega
      have e2 : (l.drop (hf l.length)).length = l.length - hf l.length := List.length_drop
      have HP := Lib.hid (fun w' => parts_any A l.length c w' h2 hc (by omega))
      have HR1 := Lib.hid (hr.take (hf l.length))
      have HR2 := Lib.hid (hr.drop (hf l.length))
      have HG := Lib.hid hg0
      have HS0 := Lib.hid hS
      have n1 : ((l.length : Int) == 1) = false := by rw [beq_eq_false_iff_ne]; omega
      have n2 : (l.length == 1) = false := by rw [beq_eq_false_iff_ne]; omega
      by_cases hlo : i < hf l.length
      · have c1 := fun (v' : Value) (w' : World) => ih (l.take (hf l.length)) i A (hf l.length) v' path w' (by omega) (by omega) (by omega) (by omega) (by omega) (hr.take _)
        have c2 := fun (w' : World) (hg' : Glob w') (hr' : RdD w' (dA A l.length (hf l.length)) (l.drop (hf l.length))) => root_any (l.length - hf l.length) (l.drop (hf l.length)) (dA A l.length (hf l.length)) (l.length - hf l.length) w' (by omega) (by omega) (by omega) hg' hr'
        have hx := inclD_lo h2 hlo
        rw [e1] at c1
        rw [e2] at c2
        have hlen := inclD_len (l.take (hf l.length)) i
        rw [e1] at hlen
        have HL := Lib.hid (show (path ++ inclD (l.take (hf l.length)) i).length ≤ 2 ^ 39 from by rw [List.length_append]; omega)
        have HC1 := Lib.hid c1
        have HC2 := Lib.hid c2
        have HX := Lib.hid hx
        clear ih hr hS c1 c2 hx hlen hpos e1 e2
        clear hp
        have dlo : decide ((i : Int) < (hf l.length : Int)) = true := by simp; omega
        have dlo' : decide (i < hf l.length) = true := by simp; omega
        unfold inclF
        go_enter Tryd.func32, Tryd.ntmps32
        go_wp2_with fail
        refine (HP.out _).mono ?_
        rintro e w1 ⟨rfl, qd, rfl⟩
        have HS1 := Lib.hid (HS0.out.drewN qd)
        go_wp2_with (refine wpList_load_var rfl 64 (.tmp 2) rfl q _ (inclF g q) rfl HS1.out.2.2.1 fl_under ?_; unfold inclF)
        refine (HC1.out _ _ HS1.out).mono ?_
        rintro e wr ⟨rfl, vp, hSr⟩
        have HS := Lib.hid hSr
        clear hSr HS1 HS0 HC1
        obtain ⟨path', hpp⟩ : ∃ p, path ++ inclD (l.take (hf l.length)) i = p := ⟨_, rfl⟩
        rw [hpp] at HS HL
        have HPP := Lib.hid hpp
        clear hpp
        go_wp2_with fail
        refine wp_region_any (by kernel_rfl) ?_
        have hS := HS.out.drew
        have hD := (Below.refl wr.heap.size wr).drew
        change wpAny _ _ _ _ _ _ _ wr.drew
        generalize wr.drew = w2 at hS hD ⊢
        refine any_take (i := 1) (some 27) rfl rfl rfl (by kernel_rfl) (by kernel_rfl) (by kernel_rfl) (.slice (dA A l.length (hf l.length)) (l.length - hf l.length : Nat) (l.length - hf l.length : Nat)) (fun _ _ _ h => h) (fun W => exec_move (.tmp 7) rfl _ rfl) ?_
        go_frame
        refine any_beside (i := 0) (k := 2) (m := 3) (S := HeldP w0 g q 64 (inclF g q) vp path') 26 28 29 (by simp) (by simp) (by decide) (by decide) rfl rfl rfl rfl rfl rfl rfl rfl rfl (by kernel_rfl) (by kernel_rfl) (by kernel_rfl) (by kernel_rfl) (by kernel_rfl) 22 (.tmp 3) rfl (.pointer (some ⟨g, 0, none⟩)) vp rfl (fun _ => rfl) (fun _ _ => rfl) (fun W hW => hW.var) hS rfl Tryd.func15 (by kernel_rfl) (by kernel_rfl) #[.slice (dA A l.length (hf l.length)) (l.length - hf l.length : Nat) (l.length - hf l.length : Nat)] rfl rfl (HC2.out w2 (HG.out.next hS.1) (HR2.out.below hS.1)) ?_
        rintro e w3 ⟨rfl, hb3⟩
        obtain ⟨d, hd⟩ : ∃ d, rootD (l.drop (hf l.length)) = d := ⟨_, rfl⟩
        rw [hd]
        have HDD := Lib.hid hd
        clear hd
        have hS3 := hS.next hb3
        refine ⟨_, .slice (some ⟨w3.heap.size, 0, none⟩) 1 1, w3.alloc (.cells (dc d).toArray 31), rfl, hS3, hS3.alloc _, exec_buildD1 (.tmp 28) rfl d rfl, exec_buildD1 (.tmp 28) rfl d rfl, ?_⟩
        go_frame
        refine any_one (i := 4) (by kernel_rfl) (op_pushD (some 30) rfl rfl rfl (.tmp 26) (.tmp 29) rfl (w0.heap.size + 2) vp path' rfl hS3.2.2.2.1 d hS3.big (by have := HL.out; omega) rfl ?_)
        intro v5 w5 ho5 hb5
        go_frame
        refine any_one (i := 5) (by kernel_rfl) (op_store_var rfl rfl rfl 22 (.tmp 3) (.tmp 30) rfl g 22 vp v5 rfl rfl (hS3.2.1.below hb5 hS3.2.2.2.2.2.2.1) ds_size (own_cell ho5).1 (own_cell ho5).2 ?_)
        intro w6 hk6 ho6
        refine wpAny_done (by kernel_rfl) ?_ _
        go_frame
        have hfin := hS3.push ho5 hb5 hk6 ho6
        have HF := Lib.hid hfin
        clear hfin hS hD hS3 hb3 ho5 hb5 hk6 ho6 HS
        go_wp2
        go_end0
        exact ⟨rfl, v5, by rw [HX.out, HDD.out, ← List.append_assoc, HPP.out]; exact HF.out⟩
      · have hhi : hf l.length ≤ i := by omega
        have c1 := fun (v' : Value) (w' : World) => ih (l.drop (hf l.length)) (i - hf l.length) (dA A l.length (hf l.length)) (l.length - hf l.length) v' path w' (by omega) (by omega) (by omega) (by omega) (by omega) (hr.drop _)
        have c2 := fun (w' : World) (hg' : Glob w') (hr' : RdD w' A (l.take (hf l.length))) => root_any (hf l.length) (l.take (hf l.length)) A (hf l.length) w' (by omega) (by omega) (by omega) hg' hr'
        have hx := inclD_hi h2 hhi
        rw [e2] at c1
        rw [e1] at c2
        have hlen := inclD_len (l.drop (hf l.length)) (i - hf l.length)
        rw [e2] at hlen
        have HL := Lib.hid (show (path ++ inclD (l.drop (hf l.length)) (i - hf l.length)).length ≤ 2 ^ 39 from by rw [List.length_append]; omega)
        have hsub : ((i : Int) - (hf l.length : Int)) = ((i - hf l.length : Nat) : Int) := by omega
        have HSUB := Lib.hid hsub
        have HC1 := Lib.hid c1
        have HC2 := Lib.hid c2
        have HX := Lib.hid hx
        clear ih hr hS c1 c2 hx hlen hpos e1 e2 hp hsub
        have dlo : decide ((i : Int) < (hf l.length : Int)) = false := by simp; omega
        have dlo' : decide (i < hf l.length) = false := by simp; omega
        unfold inclF
        go_enter Tryd.func32, Tryd.ntmps32
        go_wp2_with fail
        refine (HP.out _).mono ?_
        rintro e w1 ⟨rfl, qd, rfl⟩
        have HS1 := Lib.hid (HS0.out.drewN qd)
        go_wp2_with (refine wpList_load_var rfl 64 (.tmp 2) rfl q _ (inclF g q) rfl HS1.out.2.2.1 fl_under ?_; unfold inclF)
        rw [HSUB.out]
        refine (HC1.out _ _ HS1.out).mono ?_
        rintro e wr ⟨rfl, vp, hSr⟩
        have HS := Lib.hid hSr
        clear hSr HS1 HS0 HC1
        obtain ⟨path', hpp⟩ : ∃ p, path ++ inclD (l.drop (hf l.length)) (i - hf l.length) = p := ⟨_, rfl⟩
        rw [hpp] at HS HL
        have HPP := Lib.hid hpp
        clear hpp
        go_wp2_with fail
        refine wp_region_any (by kernel_rfl) ?_
        have hS := HS.out.drew
        have hD := (Below.refl wr.heap.size wr).drew
        change wpAny _ _ _ _ _ _ _ wr.drew
        generalize wr.drew = w2 at hS hD ⊢
        refine any_take (i := 1) (some 38) rfl rfl rfl (by kernel_rfl) (by kernel_rfl) (by kernel_rfl) (.slice A (hf l.length) (hf l.length)) (fun _ _ _ h => h) (fun W => exec_move (.tmp 6) rfl _ rfl) ?_
        go_frame
        refine any_beside (i := 0) (k := 2) (m := 3) (S := HeldP w0 g q 64 (inclF g q) vp path') 37 39 40 (by simp) (by simp) (by decide) (by decide) rfl rfl rfl rfl rfl rfl rfl rfl rfl (by kernel_rfl) (by kernel_rfl) (by kernel_rfl) (by kernel_rfl) (by kernel_rfl) 22 (.tmp 3) rfl (.pointer (some ⟨g, 0, none⟩)) vp rfl (fun _ => rfl) (fun _ _ => rfl) (fun W hW => hW.var) hS rfl Tryd.func15 (by kernel_rfl) (by kernel_rfl) #[.slice A (hf l.length) (hf l.length)] rfl rfl (HC2.out w2 (HG.out.next hS.1) (HR1.out.below hS.1)) ?_
        rintro e w3 ⟨rfl, hb3⟩
        obtain ⟨d, hd⟩ : ∃ d, rootD (l.take (hf l.length)) = d := ⟨_, rfl⟩
        rw [hd]
        have HDD := Lib.hid hd
        clear hd
        have hS3 := hS.next hb3
        refine ⟨_, .slice (some ⟨w3.heap.size, 0, none⟩) 1 1, w3.alloc (.cells (dc d).toArray 31), rfl, hS3, hS3.alloc _, exec_buildD1 (.tmp 39) rfl d rfl, exec_buildD1 (.tmp 39) rfl d rfl, ?_⟩
        go_frame
        refine any_one (i := 4) (by kernel_rfl) (op_pushD (some 41) rfl rfl rfl (.tmp 37) (.tmp 40) rfl (w0.heap.size + 2) vp path' rfl hS3.2.2.2.1 d hS3.big (by have := HL.out; omega) rfl ?_)
        intro v5 w5 ho5 hb5
        go_frame
        refine any_one (i := 5) (by kernel_rfl) (op_store_var rfl rfl rfl 22 (.tmp 3) (.tmp 41) rfl g 22 vp v5 rfl rfl (hS3.2.1.below hb5 hS3.2.2.2.2.2.2.1) ds_size (own_cell ho5).1 (own_cell ho5).2 ?_)
        intro w6 hk6 ho6
        refine wpAny_done (by kernel_rfl) ?_ _
        go_frame
        have hfin := hS3.push ho5 hb5 hk6 ho6
        have HF := Lib.hid hfin
        clear hfin hS hD hS3 hb3 ho5 hb5 hk6 ho6 HS
        go_wp2
        go_end0
        exact ⟨rfl, v5, by rw [HX.out, HDD.out, ← List.append_assoc, HPP.out]; exact HF.out⟩
end Go.Proofs.YtfbemmeonkceiaaDoor
