/- The reference's Append. -/
import Derived.Test.YtfbemmeonkceiaaDoorKRp1
namespace Go.Proofs.YtfbemmeonkceiaaDoor
open Go.RowKit Hm Wm

def grc (s : Int) (v : Value) (e : Int) : List Value := [.int .i64 s, v, .int .i64 e]
theorem gr_size : (Tryd.prog.info? 49).map (·.size) = some 3 := by kernel_rfl
theorem gr_zero : (Tryd.prog.info? 49).map (·.zero) = some (some (.agg (grc 0 (.slice none 0 0) 0).toArray)) := by kernel_rfl
theorem grc_one (s : Int) (A : Option Addr) (n c : Nat) (e : Int) : ∀ v ∈ grc s (.slice A n c) e, v.oneCell' = true := by
  intro v hv
  unfold grc at hv
  simp at hv
  rcases hv with rfl | rfl | rfl <;> rfl
theorem run_gr_err (k : Int) (W : World) : (Instr.build 49 #[(1, .int .i64 k)]).run Tryd.prog W = .ok (.agg (grc 0 (.slice none 0 0) k).toArray) W := by kernel_rfl
theorem run_gr (s : Int) (A : Option Addr) (n c : Nat) (W : World) : (Instr.build 49 #[(0, pkV s (.slice A n c))]).run Tryd.prog W = .ok (.agg (grc s (.slice A n c) 0).toArray) W := by kernel_rfl
theorem run_pk (s : Int) (A : Option Addr) (n c : Nat) (W : World) : (Instr.build 43 #[(0, .int .i64 s), (1, .slice A n c)]).run Tryd.prog W = .ok (pkV s (.slice A n c)) W := by kernel_rfl
theorem exec_build1 {oi : Oper} {a : Act} {w : World} (ty : TypeId) (m : Nat) (x : Operand) (ho : oi.op = .build ty #[(m, x)]) (p v : Value) (hx : a.eval x = p) (hl : (Instr.build ty #[(m, p)]).run Tryd.prog w = .ok v w) : (execOp a.eval oi).run Tryd.prog w = .ok (.value v) w := by
  subst hx
  simp [execOp, ho, hl]
/-- An operation whose result is known. -/
theorem wpList_run {w : World} {ops : Array Oper} {rest : List Oper} {o : Oper} {a : Act} {Q : Exit → Act → World → Prop} (d : Tmp) (hd : o.dst = some d) (hgd : o.guard = none) (v : Value) (hrun : (execOp a.eval o).run Tryd.prog w = .ok (.value v) w) (h : wpList Tryd.prog ops Q rest (a.put (some d) v) w) : wpList Tryd.prog ops Q (o :: rest) a w := by
  refine wpList_plain hgd fun K hK => ?_
  unfold Oper.wp
  rw [hrun]
  refine hK _ _ ?_
  rw [hd]; exact h
theorem exec_lenD {P : Program} {oi : Oper} {a : Act} {w : World} (t : TypeId) (x : Operand) (ho : oi.op = .call { callee := .builtin .len, args := #[x], argTypes := #[t] }) (hu : P.underlying t = some (.slice (P.elem t))) (A : Option Addr) (n c : Nat) (hx : a.eval x = .slice A n c) : (execOp a.eval oi).run P w = .ok (.value (.int .i64 n)) w := by
  unfold execOp
  simp only [ho, resolve, invoke, builtin, Sem.run_bind, Sem.run_pure, Result.andThen_ok, List.map_toArray, List.map_cons, List.map_nil, hx, run_len_slice w t _ A n c hu]
  rfl
theorem exec_subI {P : Program} {oi : Oper} {a : Act} {w : World} (t : TypeId) (x y : Operand) (rt : TypeId) (ho : oi.op = .binOp .sub t x y rt) (m n z : Int) (hx : a.eval x = .int .i64 m) (hy : a.eval y = .int .i64 n) (hz : IntKind.i64.wrap (m - n) = z) : (execOp a.eval oi).run P w = .ok (.value (.int .i64 z)) w :=
  exec_bin .sub t rt x y ho _ _ _ hx hy (by simp [go_sem]) (by rw [← hz]; simp [go_sem])
theorem exec_addI {P : Program} {oi : Oper} {a : Act} {w : World} (t : TypeId) (x y : Operand) (rt : TypeId) (ho : oi.op = .binOp .add t x y rt) (m n z : Int) (hx : a.eval x = .int .i64 m) (hy : a.eval y = .int .i64 n) (hz : IntKind.i64.wrap (m + n) = z) : (execOp a.eval oi).run P w = .ok (.value (.int .i64 z)) w :=
  exec_bin .add t rt x y ho _ _ _ hx hy (by simp [go_sem]) (by rw [← hz]; simp [go_sem])

theorem reg_pushK {md : Region.Mode} {ops : Array Oper} {Q : Exit → Act → World → Prop} {S : World → Prop} {i fuel : Nat} {oi : Oper} {listed : Array Bool} {a : Act} {w : World} (d : Option Tmp) (hi : ops[i]? = some oi) (hd : oi.dst = d) (hw : Region.wanted oi (yielded ops a.tmps) = true) (hr : Region.ready md ops listed = [i])
    (s x : Operand) (ho : oi.op = .call { callee := .builtin .append, args := #[s, x], argTypes := #[22, 22] })
    (base : Nat) (v : Value) (l : List Dg) (hs : a.eval s = v) (hown : w.ownsRow base 31 16 v l.length (dl l)) (e : Dg) (hb : base ≤ w.heap.size) (hl : l.length ≤ 1099511627776)
    (hx : a.eval x = .slice (some ⟨w.heap.size, 0, none⟩) 1 1)
    (h : ∀ v' w', w'.ownsRow base 31 16 v' (l ++ [e]).length (dl (l ++ [e])) → Below base w w' → (∀ k t cs, v.ownBlock ≠ some k → Blk w k t cs → Blk w' k t cs) → S w' ∧ wpAnyH Tryd.prog md ops Q S fuel (listed.setIfInBounds i true) (a.put d v') w') :
    wpAnyH Tryd.prog md ops Q S (fuel + 1) listed a (w.alloc (.cells (dc e).toArray 31)) := by
  obtain ⟨i0, hi0, hz0, hz1, hz2⟩ := info_parts dg_info
  have hnews : ∀ j u, (dc e)[j]? = some u → (w.alloc (.cells (dc e).toArray 31)).cell? ((⟨w.heap.size, 0, none⟩ : Addr).add j) = some u := by
    intro j u hu
    rw [Addr.add_mid, Nat.zero_add, (Blk.new w 31 (dc e)).cell j]
    exact hu
  obtain ⟨v', w', hrun, h2, h3, _⟩ := run_append_own_at (P := Tryd.prog) (w.alloc (.cells (dc e).toArray 31)) base 22 oi.type 31 i0 _ 16 16 ds_under hi0 hz0 hz1 hz2 rfl (by decide) v l.length (dl l) (World.ownsRow.alloc hown _)
    ⟨w.heap.size, 0, none⟩ 1 1 (dc e) (by rw [dc_len]) hnews (dc_one _) (by unfold maxLen; omega) (by omega) (by simp; omega)
  have hex : (execOp a.eval oi).run Tryd.prog (w.alloc (.cells (dc e).toArray 31)) = .ok (.value v') w' := by
    unfold execOp
    simp only [ho, resolve, invoke, builtin, Sem.run_bind, Sem.run_pure, Result.andThen_ok, List.map_toArray, List.map_cons, List.map_nil, hs, hx, hrun]
  obtain ⟨h4, h5⟩ := h v' w' (by rw [List.length_append, dl_app, dl_one]; exact h2) (((Below.refl base w).alloc hb _).grown h3 (by simp; omega) (fun k hk => (World.ownsRow.lt hown k hk).1)) (fun k t cs hk hkb => by
    have hlt := hkb.lt
    exact (h3.block k (by simp; omega) (fun e => hk e.symm)).trans ((hkb.alloc _) : _))
  exact reg_makeG d hi hd hw hr v' w' hex h4 h5

/-- Nothing of w0 has turned until number k comes up. -/
def TillB (k : Nat) (w0 : World) (L : Array Bool) (W : World) : Prop := L.getD k true = false → Below w0.heap.size w0 W
theorem TillB.off {k i : Nat} {w0 : World} {L : Array Bool} {W : World} (hk : i ≠ k) (h : TillB k w0 (L.setIfInBounds i true) W) : TillB k w0 L W := fun h' => h (by rw [getD_set_ne true hk]; exact h')
/-- The frame of Append. -/
def FrG (w : World) (s : Int) (v : Value) (leaf : Dg) (z : List Value) (W : World) : Prop :=
  Below w.heap.size w W ∧ Blk W w.heap.size 43 (pkc s v) ∧ Blk W (w.heap.size + 1) 31 (dc leaf) ∧ Blk W (w.heap.size + 1 + 1) 49 z
theorem FrG.next {w W W' : World} {s : Int} {v : Value} {leaf : Dg} {z : List Value} (h : FrG w s v leaf z W) (hb : Below W.heap.size W W') : FrG w s v leaf z W' :=
  ⟨h.1.trans (hb.mono h.1.size), h.2.1.next hb, h.2.2.1.next hb, h.2.2.2.next hb⟩
theorem FrG.begin (w : World) (s : Int) (v : Value) (leaf : Dg) : FrG w s v leaf (grc 0 (.slice none 0 0) 0) (((w.alloc (.cells #[.int .i64 s, v] 43)).alloc (.cells (dc leaf).toArray 31)).alloc (.cells (grc 0 (.slice none 0 0) 0).toArray 49)) := by
  have hb := (((Below.refl w.heap.size w).alloc (Nat.le_refl _) (.cells #[.int .i64 s, v] 43)).alloc (by simp) (.cells (dc leaf).toArray 31)).alloc (by simp; omega) (.cells (grc 0 (.slice none 0 0) 0).toArray 49)
  have k1 := ((Blk.new w 43 [.int .i64 s, v]).alloc (.cells (dc leaf).toArray 31)).alloc (.cells (grc 0 (.slice none 0 0) 0).toArray 49)
  have k2 := (Blk.new (w.alloc (.cells #[.int .i64 s, v] 43)) 31 (dc leaf)).alloc (.cells (grc 0 (.slice none 0 0) 0).toArray 49)
  have k3 := Blk.new ((w.alloc (.cells #[.int .i64 s, v] 43)).alloc (.cells (dc leaf).toArray 31)) 49 (grc 0 (.slice none 0 0) 0)
  rw [size_alloc] at k2
  rw [size_alloc, size_alloc] at k3
  exact ⟨hb, k1, k2, k3⟩

set_option maxRecDepth 100000 in
set_option maxHeartbeats 1000000 in
theorem rappend_bad (s : Int) (A : Option Addr) (n c : Nat) (leaf : Dg) (w : World) (h : wfB s n = false) :
    Calls Tryd.prog 27 #[pkV s (.slice A n c), dv leaf] w fun e w' => e = .returned (.agg (grc 0 (.slice none 0 0) 1).toArray) ∧ Below w.heap.size w w' := by
  have HF := Lib.hid (FrG.begin w s (.slice A n c) leaf)
  have HW := Lib.hid (fun w' => fm_any s A n c w')
  rw [h] at HW
  clear h
  unfold dv pkV
  go_enter Tryd.func27, Tryd.ntmps27
  go_wp2_with (first | (refine wpList_alloc_zero rfl 49 rfl (grc 0 (.slice none 0 0) 0) gr_zero ?_; try rw [size_alloc, size_alloc]; generalize (((w.alloc (.cells #[.int .i64 s, .slice A n c] 43)).alloc (.cells (dc leaf).toArray 31)).alloc (.cells (grc 0 (.slice none 0 0) 0).toArray 49)) = w1 at HF ⊢) | (refine wpList_load_all rfl _ (.tmp 2) rfl w.heap.size _ (pkc s (.slice A n c)) _ rfl HF.out.2.1 Tryd.underlying43 rfl pk_size ?_))
  refine (HW.out _).mono ?_
  rintro e w2 ⟨rfl, hb2⟩
  have F2 := Lib.hid (HF.out.next hb2)
  clear hb2
  go_wp2_with (first | (refine wpList_run 13 rfl rfl _ (exec_build1 _ 1 (.const (.int .i64 1)) rfl _ _ rfl (run_gr_err 1 _)) ?_) | (refine wpList_store_all rfl _ (.tmp 4) (.tmp 13) rfl (w.heap.size + 1 + 1) _ (grc 0 (.slice none 0 0) 0) (grc 0 (.slice none 0 0) 1) rfl rfl F2.out.2.2.2 rfl gr_size (grc_one _ _ _ _ _) ?_; intro w3 HB3 ho3))
  exact bodyPost_ret (results_blk rfl _ _ (w.heap.size + 1 + 1) _ (grc 0 (.slice none 0 0) 1) _ rfl HB3.out Tryd.underlying49 rfl gr_size) rfl ⟨rfl, F2.out.1.trans (ho3.below (by omega))⟩

set_option maxRecDepth 100000 in
set_option maxHeartbeats 1000000 in
theorem rappend_full (A : Option Addr) (n c : Nat) (leaf : Dg) (w : World) (h : wfB 1099511627776 n = true) :
    Calls Tryd.prog 27 #[pkV 1099511627776 (.slice A n c), dv leaf] w fun e w' => e = .returned (.agg (grc 0 (.slice none 0 0) 2).toArray) ∧ Below w.heap.size w w' := by
  have HF := Lib.hid (FrG.begin w 1099511627776 (.slice A n c) leaf)
  have HW := Lib.hid (fun w' => fm_any 1099511627776 A n c w')
  rw [h] at HW
  clear h
  unfold dv pkV
  go_enter Tryd.func27, Tryd.ntmps27
  go_wp2_with (first | (refine wpList_alloc_zero rfl 49 rfl (grc 0 (.slice none 0 0) 0) gr_zero ?_; try rw [size_alloc, size_alloc]; generalize (((w.alloc (.cells #[.int .i64 1099511627776, .slice A n c] 43)).alloc (.cells (dc leaf).toArray 31)).alloc (.cells (grc 0 (.slice none 0 0) 0).toArray 49)) = w1 at HF ⊢) | (refine wpList_load_all rfl _ (.tmp 2) rfl w.heap.size _ (pkc 1099511627776 (.slice A n c)) _ rfl HF.out.2.1 Tryd.underlying43 rfl pk_size ?_))
  refine (HW.out _).mono ?_
  rintro e w2 ⟨rfl, hb2⟩
  have F2 := Lib.hid (HF.out.next hb2)
  clear hb2
  have hc0 : w2.cell? ⟨w.heap.size, 0, none⟩ = some (.int .i64 1099511627776) := F2.out.2.1.cell 0
  go_wp2_with (first | (refine wpList_run 17 rfl rfl _ (exec_build1 _ 1 (.const (.int .i64 2)) rfl _ _ rfl (run_gr_err 2 _)) ?_) | (refine wpList_store_all rfl _ (.tmp 4) (.tmp 17) rfl (w.heap.size + 1 + 1) _ (grc 0 (.slice none 0 0) 0) (grc 0 (.slice none 0 0) 2) rfl rfl F2.out.2.2.2 rfl gr_size (grc_one _ _ _ _ _) ?_; intro w3 HB3 ho3))
  exact bodyPost_ret (results_blk rfl _ _ (w.heap.size + 1 + 1) _ (grc 0 (.slice none 0 0) 2) _ rfl HB3.out Tryd.underlying49 rfl gr_size) rfl ⟨rfl, F2.out.1.trans (ho3.below (by omega))⟩

/-- An own row apart from a block. -/
def SepD (base g : Nat) (v : Value) (r : List Dg) (W : World) : Prop := W.ownsRow base 31 16 v r.length (dl r) ∧ v.ownBlock ≠ some g
theorem SepD.next {base g : Nat} {v : Value} {r : List Dg} {W W' : World} (h : SepD base g v r W) (hb : Below W.heap.size W W') : SepD base g v r W' := ⟨own_below h.1 hb, h.2⟩
theorem SepD.only {base g : Nat} {v : Value} {r : List Dg} {W W' : World} (h : SepD base g v r W) (ho : Only g W W') : SepD base g v r W' := by
  refine ⟨⟨h.1.1, ?_⟩, h.2⟩
  rcases h.1.2 with hn | ⟨k, cap, cur, rfl, hbg, hg, rest⟩
  · exact .inl hn
  · exact .inr ⟨k, cap, cur, rfl, hbg, (ho.block k (fun e => h.2 (by rw [← e]; rfl))).trans hg, rest⟩
theorem own_lower {w : World} {b1 b2 : Nat} {e : TypeId} {size : Nat} {v : Value} {n : Nat} {xs : List Value} (h : w.ownsRow b2 e size v n xs) (hb : b1 ≤ b2) : w.ownsRow b1 e size v n xs := by
  refine ⟨h.1, ?_⟩
  rcases h.2 with hn | ⟨g, cap, cur, rfl, hbg, hg, rest⟩
  · exact .inl hn
  · exact .inr ⟨g, cap, cur, rfl, Nat.le_trans hb hbg, hg, rest⟩
theorem own_ne {w : World} {base g : Nat} {e : TypeId} {size : Nat} {v : Value} {n : Nat} {xs : List Value} (h : w.ownsRow base e size v n xs) (hg : g < base) : v.ownBlock ≠ some g := fun he => by
  have := (World.ownsRow.lt h g he).1
  omega
theorem own_lt_ne {w : World} {base g : Nat} {e : TypeId} {size : Nat} {v : Value} {n : Nat} {xs : List Value} (h : w.ownsRow base e size v n xs) (hg : w.heap.size ≤ g) : v.ownBlock ≠ some g := fun he => by
  have := (World.ownsRow.lt h g he).2
  omega
/-- What stands in the loop over the digits 1 at the end. -/
def ApR (w3 : World) (g : Nat) (fin : List Dg) (v n : Value) (wr : World) : Prop :=
  ∃ (F m : Nat) (r : List Dg) (x : Dg), n = .int .i64 m ∧ m ≤ 1099511627776 ∧ Hid (SepD w3.heap.size g v r wr) ∧ Hid (Blk wr g 31 (dc x)) ∧ Hid (Below w3.heap.size w3 wr) ∧ Hid ((appR F r.reverse m x).reverse = fin ∧ m < 2 ^ F ∧ r.length = Go.Lib.popAux F m) ∧ r.length ≤ 64
theorem ap_step {F m : Nat} {r : List Dg} {x : Dg} {fin : List Dg} (h : (appR F r.reverse m x).reverse = fin ∧ m < 2 ^ F ∧ r.length = Go.Lib.popAux F m) (hm : m % 2 = 1) :
    ∃ (F' : Nat) (r' : List Dg) (y : Dg), r = r' ++ [y] ∧ (appR F' r'.reverse (m / 2) (nodeD y x)).reverse = fin ∧ m / 2 < 2 ^ F' ∧ r'.length = Go.Lib.popAux F' (m / 2) := by
  obtain ⟨h1, h2, h3⟩ := h
  rcases F with _ | F
  · simp at h2; omega
  · rw [pop_succ] at h3
    have hne : r ≠ [] := by rintro rfl; simp at h3; omega
    obtain ⟨r', y, rfl⟩ : ∃ r' y, r = r' ++ [y] := ⟨r.dropLast, r.getLast hne, (List.dropLast_concat_getLast hne).symm⟩
    refine ⟨F, r', y, rfl, ?_, by rw [Nat.pow_succ] at h2; omega, by rw [List.length_append, List.length_singleton] at h3; omega⟩
    rw [← h1]
    conv => rhs; unfold appR
    rw [if_pos hm, List.reverse_append]
    rfl
theorem ap_stop {F m : Nat} {r : List Dg} {x : Dg} {fin : List Dg} (h : (appR F r.reverse m x).reverse = fin ∧ m < 2 ^ F ∧ r.length = Go.Lib.popAux F m) (hm : m % 2 ≠ 1) : r ++ [x] = fin := by
  rw [← h.1]
  rcases F with _ | F
  · simp [appR]
  · unfold appR
    rw [if_neg hm]; simp

set_option maxRecDepth 100000 in
set_option maxHeartbeats 4000000 in
theorem rappend_any (s : Nat) (A : Option Addr) (c : Nat) (tops : List Dg) (leaf : Dg) (w : World) (hg : All w) (hr : RdD w A tops) (hs : s < 1099511627776) (hn : tops.length = Go.Lib.popAux 64 s) :
    Calls Tryd.prog 27 #[pkV s (.slice A tops.length c), dv leaf] w fun e w' => ∃ v, e = .returned (.agg (grc ((s : Int) + 1) v 0).toArray) ∧ NewD w' (appD tops s leaf) v ∧ Below w.heap.size w w' := by
  have HF := Lib.hid (FrG.begin w s (.slice A tops.length c) leaf)
  have HW := Lib.hid (fun w' => fm_any s A tops.length c w')
  rw [wfB_in s tops.length (by omega) hn] at HW
  have d0 : ((s : Int) == 1099511627776) = false := by rw [beq_eq_false_iff_ne]; omega
  have hlen : tops.length ≤ 64 := by rw [hn]; exact pop_le 64 s
  have happ := appD_rev tops.reverse s leaf (by rw [List.length_reverse, hn]; exact tO_le 64 s)
  rw [List.reverse_reverse] at happ
  rw [happ]
  obtain ⟨fin, hfin⟩ : ∃ fin, (appR 64 tops.reverse s leaf).reverse = fin := ⟨_, rfl⟩
  rw [hfin]
  have HFIN := Lib.hid (show (appR 64 tops.reverse s leaf).reverse = fin ∧ s < 2 ^ 64 ∧ tops.length = Go.Lib.popAux 64 s from ⟨hfin, by omega, hn⟩)
  have HG := Lib.hid hg
  have HR := Lib.hid hr
  have HLEN := Lib.hid hlen
  have s0 : (0 : Int) ≤ (s : Int) := by omega
  have s1 : (s : Int) ≤ 1099511627775 := by omega
  clear hg hr hn happ hfin hlen hs
  unfold dv pkV
  go_enter Tryd.func27, Tryd.ntmps27
  go_wp2_with (first | (refine wpList_alloc_zero rfl 49 rfl (grc 0 (.slice none 0 0) 0) gr_zero ?_; try rw [size_alloc, size_alloc]; generalize (((w.alloc (.cells #[.int .i64 s, .slice A tops.length c] 43)).alloc (.cells (dc leaf).toArray 31)).alloc (.cells (grc 0 (.slice none 0 0) 0).toArray 49)) = w1 at HF ⊢) | (refine wpList_load_all rfl _ (.tmp 2) rfl w.heap.size _ (pkc s (.slice A tops.length c)) _ rfl HF.out.2.1 Tryd.underlying43 rfl pk_size ?_))
  refine (HW.out _).mono ?_
  rintro e w2 ⟨rfl, hb2⟩
  have F2 := Lib.hid (HF.out.next hb2)
  clear hb2
  have hc0 : w2.cell? ⟨w.heap.size, 0, none⟩ = some (.int .i64 s) := F2.out.2.1.cell 0
  go_wp2_with (first | (refine wpList_emptyD rfl rfl ?_; intro Y hoY hbY; have hc1 : Y.cell? ⟨w.heap.size, 1, none⟩ = some (.slice A tops.length c) := (F2.out.next hbY).2.1.cell 1; clear hc0) | (refine wpList_appD rfl (.tmp 18) (.tmp 20) rfl w2.heap.size _ [] rfl hoY.out A c tops rfl ((HR.out.below F2.out.1).below hbY) hbY.size (by have := HLEN.out; simp; omega) ?_; intro v6 Z hoZ hbZ'; rw [List.nil_append] at hoZ; have hb := hbY.trans (hbZ'.mono (Nat.le_refl _)); have F3 := Lib.hid (F2.out.next hb); have HB := Lib.hid hb; have HO := Lib.hid hoZ; clear hoZ hbZ' hb hbY hoY hc1) | (refine wpList_loadB rfl (.tmp 3) rfl (w.heap.size + 1) leaf rfl F3.out.2.2.1 ?_) | (refine wpList_var rfl rfl 31 7 rfl rfl rfl (.tmp 22) rfl (zb 16) (dc leaf) dg_zero rfl rfl (dd_len _) (dd_size _) (dc_one _) ?_; intro x7 K7 D; have F4 := Lib.hid (F3.out.next D.out); have HB4 := Lib.hid (HB.out.trans (D.out.mono HB.out.size)); have HS := Lib.hid (show SepD w2.heap.size Z.heap.size v6 tops x7 from ⟨own_below HO.out D.out, own_lt_ne HO.out (Nat.le_refl _)⟩); have hc0 : x7.cell? ⟨w.heap.size, 0, none⟩ = some (.int .i64 s) := F4.out.2.1.cell 0))
  clear hc0
  have HZL := Lib.hid (show w2.heap.size ≤ Z.heap.size from HB.out.size)
  generalize Z.heap.size = g7 at K7 HS D HZL ⊢
  go_loopw [6, 8] (ApR w2 g7 fin) (fun _ n _ => (intOf n).toNat)
  case atStart => exact ⟨64, s, tops, leaf, rfl, by omega, HS, K7, HB4, HFIN, HLEN.out⟩
  case round =>
    clear K7 HS HB4 HFIN F4 D
    obtain ⟨F, m, r, x, rfl, hm, HS, HK, HB, HA, hrl⟩ := hrel
    have m0 : (0 : Int) ≤ (m : Int) := by omega
    have m1 : (m : Int) ≤ 1099511627776 := by omega
    by_cases hodd : m % 2 = 1
    · obtain ⟨F', r', y, rfl, hA', hF', hL'⟩ := ap_step HA.out hodd
      have HA2 := Lib.hid (show _ ∧ _ ∧ _ from ⟨hA', hF', hL'⟩)
      obtain ⟨A6, c6, rfl, hr6, hc6⟩ := newD_of_row HS.out.1
      have hy : (r' ++ [y])[r'.length]? = some y := by simp
      obtain ⟨b6, o6, rfl, hcy⟩ := hr6.at hy
      have hN : (r' ++ [y]).length = r'.length + 1 := by simp
      have hrt : RdD wr (some ⟨b6, o6, none⟩) r' := by
        have := hr6.take r'.length
        rwa [List.take_left] at this
      have HRT := Lib.hid hrt
      have HCY := Lib.hid hcy
      have HRL := Lib.hid (show r'.length ≤ 64 by omega)
      have hsl : ∀ W, (Instr.sliceAt 22 (.slice (some ⟨b6, o6, none⟩) (r'.length + 1) c6) none (some (.int .i64 r'.length)) none).run Tryd.prog W = .ok (.slice (some ⟨b6, o6, none⟩) r'.length c6) W := run_hiD _ (r'.length + 1) c6 r'.length (by omega) (by omega)
      have hwr : IntKind.i64.wrap (((r'.length + 1 : Nat) : Int) - 1) = (r'.length : Int) := by rw [IntWalk.i64_in _ (by omega)]; omega
      have HWR := Lib.hid hwr
      have q0 : (0 : Int) ≤ (r'.length : Int) := by omega
      have q1 : (r'.length : Int) ≤ 64 := by omega
      have hq := IntWalk.i64_in (r'.length : Int) (by omega)
      have hmod : (m : Int) % 2 = 1 := by omega
      obtain ⟨z, hz⟩ : ∃ z, nodeD y x = z := ⟨_, rfl⟩
      rw [hz] at hA' HA2
      have HZ := Lib.hid hz
      rw [hN] at *
      clear hA' hF' hL' HA hr6 hy hcy hrt hc6 hz hrl
      go_wp2_with fail
      refine late_begin (S := TillB 8 wr) (by kernel_rfl) ?_
      have hS1 := (Below.refl wr.heap.size wr).drew
      generalize wr.drew = w1 at hS1 ⊢
      have hS0 : ∀ {L}, TillB 8 wr L w1 := fun _ => hS1
      refine late_take [8] (i := 0) (some 30) rfl rfl rfl (by kernel_rfl) (by kernel_rfl) (by kernel_rfl) (by kernel_rfl) (by kernel_rfl) (fun L W h => h.off (by decide)) (.slice (some ⟨b6, o6, none⟩) (r'.length + 1) c6) (fun _ _ _ h => h) (fun L W hl hW => exec_move (.tmp 6) rfl _ rfl) hS0 hS0 ?_
      go_frame
      refine late_take [8] (i := 1) (some 31) rfl rfl rfl (by kernel_rfl) (by kernel_rfl) (by kernel_rfl) (by kernel_rfl) (by kernel_rfl) (fun L W h => h.off (by decide)) (.slice (some ⟨b6, o6, none⟩) (r'.length + 1) c6) (fun _ _ _ h => h) (fun L W hl hW => exec_move (.tmp 6) rfl _ rfl) hS0 hS0 ?_
      go_frame
      refine late_take [8] (i := 2) (some 32) rfl rfl rfl (by kernel_rfl) (by kernel_rfl) (by kernel_rfl) (by kernel_rfl) (by kernel_rfl) (fun L W h => h.off (by decide)) (.int .i64 ((r'.length + 1 : Nat) : Int)) (fun _ _ _ h => h) (fun L W hl hW => exec_lenD _ (.tmp 31) rfl (by rw [dg_elem]; exact ds_under) _ _ _ rfl) hS0 hS0 ?_
      go_frame
      refine late_take [8] (i := 3) (some 33) rfl rfl rfl (by kernel_rfl) (by kernel_rfl) (by kernel_rfl) (by kernel_rfl) (by kernel_rfl) (fun L W h => h.off (by decide)) (.int .i64 (r'.length : Int)) (fun _ _ _ h => h) (fun L W hl hW => exec_subI _ (.tmp 32) (.const (.int .i64 1)) _ rfl _ _ _ rfl rfl HWR.out) hS0 hS0 ?_
      go_frame
      refine late_take [8] (i := 4) (some 34) rfl rfl rfl (by kernel_rfl) (by kernel_rfl) (by kernel_rfl) (by kernel_rfl) (by kernel_rfl) (fun L W h => h.off (by decide)) (.pointer (some ⟨b6, o6 + r'.length * 16, none⟩)) (fun _ _ _ h => h) (fun L W hl hW => exec_atD (.tmp 30) (.tmp 33) rfl b6 o6 _ c6 r'.length (by omega) rfl rfl) hS0 hS0 ?_
      go_frame
      refine late_take [8] (i := 5) (some 35) rfl rfl rfl (by kernel_rfl) (by kernel_rfl) (by kernel_rfl) (by kernel_rfl) (by kernel_rfl) (fun L W h => h.off (by decide)) (dv y) (fun _ _ _ h => h) (fun L W hl hW => exec_loadD (.tmp 34) rfl _ _ y rfl (range_below' HCY.out (hW (hl 8 (by simp))))) hS0 hS0 ?_
      go_frame
      refine late_take [8] (i := 6) (some 36) rfl rfl rfl (by kernel_rfl) (by kernel_rfl) (by kernel_rfl) (by kernel_rfl) (by kernel_rfl) (fun L W h => h.off (by decide)) (dv x) (fun _ _ _ h => h) (fun L W hl hW => exec_loadB (.tmp 7) rfl rfl (HK.out.next (hW (hl 8 (by simp))))) hS0 hS0 ?_
      go_frame
      have hAll : All w1 := HG.out.next (F2.out.1.trans ((HB.out.trans (hS1.mono HB.out.size)).mono F2.out.1.size))
      refine late_one (i := 7) (by kernel_rfl) (op_call (some 37) rfl rfl rfl rfl Tryd.func20 (by kernel_rfl) (by kernel_rfl) #[dv y, dv x] rfl (rnode_any y x w1 hAll.2.2) ?_)
      rintro e w3 ⟨rfl, hb⟩
      have hS2 := hS1.trans (hb.mono hS1.size)
      rw [HZ.out]
      refine ⟨_, rfl, fun _ => hS2, ?_⟩
      go_frame
      refine late_one (i := 8) (by kernel_rfl) (op_store_all rfl rfl rfl 31 (.tmp 7) (.tmp 37) rfl g7 31 (dc x) (dc z) rfl rfl (HK.out.next hS2) (dd_len2 _ _) (dd_size _) (dc_one _) ?_)
      intro w4 hk4 ho4
      have hB4 := (HB.out.trans (hS2.mono HB.out.size)).trans (ho4.below HZL.out)
      have hR4 : RdD w4 (some ⟨b6, o6, none⟩) r' := by
        intro hne
        obtain ⟨b, off, hA, hcc⟩ := (HRT.out.below hS2) hne
        refine ⟨b, off, hA, fun k u hu => ?_⟩
        have h1 := hcc k u hu
        have hbg : b ≠ g7 := by
          rintro rfl
          injection hA with hA
          injection hA with hA1 _ _
          subst hA1
          rcases HS.out.1.2 with ⟨h2, _⟩ | ⟨gg, cap, cur, h2, _⟩
          · cases h2
          · injection h2 with h2 _ _
            injection h2 with h2
            injection h2 with h3 _ _
            exact HS.out.2 (by rw [h3]; rfl)
        rw [World.cell?_of_block (w := w3) (ho4.block b hbg)]; exact h1
      refine ⟨fun h => absurd h (by decide), late_done (by kernel_rfl) ?_ _⟩
      go_frame
      have HK4 := Lib.hid hk4
      have HB4 := Lib.hid hB4
      have HR4 := Lib.hid hR4
      clear hS1 hS0 hAll hb hS2 hk4 ho4 hB4 hR4 HS HK HB HRT HCY
      go_wp2_with (first | (refine wpList_emptyD rfl rfl ?_; intro Y hoY hbY) | (refine wpList_appD rfl (.tmp 38) (.tmp 43) rfl w4.heap.size _ [] rfl hoY.out (some ⟨b6, o6, none⟩) c6 r' rfl (HR4.out.below hbY) hbY.size (by have := HRL.out; simp; omega) ?_; intro v6 Z hoZ hbZ'; rw [List.nil_append] at hoZ; have hb := hbY.trans (hbZ'.mono (Nat.le_refl _)); have HB5 := Lib.hid (HB4.out.trans (hb.mono HB4.out.size)); have HK5 := Lib.hid (HK4.out.next hb); have HS5 := Lib.hid (show SepD w2.heap.size g7 v6 r' Z from ⟨own_lower hoZ HB4.out.size, own_ne hoZ HK4.out.lt⟩); clear hoZ hbZ' hb hbY hoY))
      go_roundw
      case rel => exact ⟨F', m / 2, r', z, by rw [Int.natCast_ediv]; rfl, by omega, HS5, HK5, HB5, HA2, HRL.out⟩
      case measure => simp [intOf]; omega
    · have hfin := ap_stop HA.out hodd
      have HFN := Lib.hid hfin
      have hmod : (m : Int) % 2 ≠ 1 := by omega
      have hmod' : ((m : Int) % 2 == 1) = false := by rw [beq_eq_false_iff_ne]; exact hmod
      have hss : IntKind.i64.wrap ((s : Int) + 1) = (s : Int) + 1 := by rw [IntWalk.i64_in _ (by omega)]
      have HSS := Lib.hid hss
      clear hfin HA hmod hss
      go_wp2_with fail
      refine late_begin (S := fun L W => TillB 9 w2 L W ∧ TillB 5 wr L W) (by kernel_rfl) ?_
      have hS1 := (Below.refl wr.heap.size wr).drew
      have hW1 := HB.out.drew
      generalize wr.drew = w1 at hS1 hW1 ⊢
      have hS0 : ∀ {L}, TillB 9 w2 L w1 ∧ TillB 5 wr L w1 := ⟨fun _ => hW1, fun _ => hS1⟩
      refine late_take [9] (i := 0) (some 45) rfl rfl rfl (by kernel_rfl) (by kernel_rfl) (by kernel_rfl) (by kernel_rfl) (by kernel_rfl) (fun L W h => ⟨h.1.off (by decide), h.2.off (by decide)⟩) (.pointer (some ⟨w.heap.size, 0, none⟩)) (fun _ _ _ h => h) (fun L W hl hW => exec_fieldAddr _ (.tmp 2) 0 rfl _ _ rfl (pk_field0 _ W)) hS0 hS0 ?_
      go_frame
      refine late_take [9] (i := 1) (some 46) rfl rfl rfl (by kernel_rfl) (by kernel_rfl) (by kernel_rfl) (by kernel_rfl) (by kernel_rfl) (fun L W h => ⟨h.1.off (by decide), h.2.off (by decide)⟩) (.int .i64 s) (fun _ _ _ h => h) (fun L W hl hW => exec_load 3 (.tmp 45) rfl _ _ rfl (run_load_cell int_flat ((F2.out.next (hW.1 (hl 9 (by simp)))).2.1.cell 0))) hS0 hS0 ?_
      go_frame
      refine late_take [9] (i := 2) (some 47) rfl rfl rfl (by kernel_rfl) (by kernel_rfl) (by kernel_rfl) (by kernel_rfl) (by kernel_rfl) (fun L W h => ⟨h.1.off (by decide), h.2.off (by decide)⟩) (.int .i64 ((s : Int) + 1)) (fun _ _ _ h => h) (fun L W hl hW => exec_addI _ (.tmp 46) (.const (.int .i64 1)) _ rfl _ _ _ rfl rfl HSS.out) hS0 hS0 ?_
      go_frame
      refine late_take [9] (i := 3) (some 48) rfl rfl rfl (by kernel_rfl) (by kernel_rfl) (by kernel_rfl) (by kernel_rfl) (by kernel_rfl) (fun L W h => ⟨h.1.off (by decide), h.2.off (by decide)⟩) (u6) (fun _ _ _ h => h) (fun L W hl hW => exec_move (.tmp 6) rfl _ rfl) hS0 hS0 ?_
      go_frame
      refine late_take [5, 6] (i := 4) (some 49) rfl rfl rfl (by kernel_rfl) (by kernel_rfl) (by kernel_rfl) (by kernel_rfl) (by kernel_rfl) (fun L W h => ⟨h.1.off (by decide), h.2.off (by decide)⟩) (dv x) (fun _ _ _ h => h) (fun L W hl hW => exec_loadB (.tmp 7) rfl rfl (HK.out.next (hW.2 (hl 5 (by simp))))) hS0 hS0 ?_
      go_frame
      refine late_one (i := 5) (by kernel_rfl) (op_make (some 50) rfl rfl rfl (.slice (some ⟨w1.heap.size, 0, none⟩) 1 1) _ (exec_buildD1 (.tmp 49) rfl x rfl) ?_)
      refine ⟨⟨fun _ => hW1.alloc hW1.size _, fun h => absurd h (by decide)⟩, ?_⟩
      go_frame
      refine late_one (i := 6) (by kernel_rfl) (op_pushD (some 51) rfl rfl rfl (.tmp 48) (.tmp 50) rfl w2.heap.size u6 r rfl (own_below HS.out.1 hS1) x hW1.size (by omega) rfl ?_)
      intro v7 w7 ho7 hb7
      have hW7 := hW1.trans hb7
      refine ⟨⟨fun _ => hW7, fun h => absurd h (by decide)⟩, ?_⟩
      obtain ⟨A7, n7, c7, rfl⟩ := own_slice ho7
      go_frame
      refine late_one (i := 7) (by kernel_rfl) (op_value (some 52) rfl rfl rfl (pkV ((s : Int) + 1) (.slice A7 n7 c7)) (exec_build2 _ 0 1 (.tmp 47) (.tmp 51) rfl _ _ _ rfl rfl (run_pk _ _ _ _ _)) ⟨⟨fun _ => hW7, fun h => absurd h (by decide)⟩, ?_⟩)
      go_frame
      refine late_one (i := 8) (by kernel_rfl) (op_value (some 53) rfl rfl rfl (.agg (grc ((s : Int) + 1) (.slice A7 n7 c7) 0).toArray) (exec_build1 _ 0 (.tmp 52) rfl _ _ rfl (run_gr _ _ _ _ _)) ⟨⟨fun _ => hW7, fun h => absurd h (by decide)⟩, ?_⟩)
      go_frame
      have hF7 := F2.out.next hW7
      refine late_one (i := 9) (by kernel_rfl) (op_store_all rfl rfl rfl 49 (.tmp 4) (.tmp 53) rfl (w.heap.size + 1 + 1) _ (grc 0 (.slice none 0 0) 0) (grc ((s : Int) + 1) (.slice A7 n7 c7) 0) rfl rfl hF7.2.2.2 rfl gr_size (grc_one _ _ _ _ _) ?_)
      intro w8 hk8 ho8
      refine ⟨⟨fun h => absurd h (by decide), fun h => absurd h (by decide)⟩, late_done (by kernel_rfl) ?_ _⟩
      go_frame
      have hlt := F2.out.2.2.2.lt
      have HO8 := Lib.hid (own_only ho7 ho8 hlt)
      have HK8 := Lib.hid hk8
      have HB8 := Lib.hid (hF7.1.trans (ho8.below (by omega)))
      clear hlt hS1 hW1 hS0 hW7 hb7 ho7 hF7 hk8 ho8 HS HK HB hrl
      go_wp2
      exact bodyPost_ret (results_blk rfl _ _ (w.heap.size + 1 + 1) _ (grc ((s : Int) + 1) (.slice A7 n7 c7) 0) _ rfl HK8.out Tryd.underlying49 rfl gr_size) rfl ⟨_, rfl, newD_of_row (by rw [← HFN.out]; exact HO8.out), HB8.out⟩
end Go.Proofs.YtfbemmeonkceiaaDoor
