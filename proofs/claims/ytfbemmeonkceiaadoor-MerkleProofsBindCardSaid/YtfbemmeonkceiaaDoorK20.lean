/- Contract of merkle's join. -/
import Derived.Test.YtfbemmeonkceiaaDoorK19
namespace Go.Proofs.YtfbemmeonkceiaaDoor
open Go.RowKit Hm Wm
attribute [local go_sem] Oper.semAt_some

theorem blk_own {β : Type} (g : Nat) (t : TypeId) (f : β → List Value) : Own (fun s W => Blk W g t (f s)) := fun _ _ _ _ hs hg hr => (grownBy_keeps_cells hg hr hs rfl).trans hs
theorem keeps_below {W W' : World} (h : Below W.heap.size W W') : KeepsOthers W W' := ⟨h.size, fun k _ hk _ => (h.block k (Array.getElem?_eq_some_iff.1 hk).1).trans hk⟩
theorem keeps_only {W W' : World} {g : Nat} {t : TypeId} {cs : List Value} (h : Only g W W') (hb : Blk W g t cs) : KeepsOthers W W' := ⟨Nat.le_of_eq h.size.symm, fun k o hk ho => by
  refine (h.block k ?_).trans hk
  rintro rfl
  rw [hb] at hk; cases hk; cases ho⟩
section
variable {F : Fence} {n : Nat} {w : World} {ops : Array Oper} {rest : List Oper} {o : Oper} {a : Act} {Q : Exit → Act → World → Prop}
theorem wpListIn_alloc_zero (hg : o.guard = none) (t : TypeId) (hop : o.op = .alloc t) (Z : List Value) (hz : (Tryd.prog.info? t).map (·.zero) = some (some (.agg Z.toArray)))
    (hK : wpListIn F n Tryd.prog ops Q rest (a.put o.dst (.pointer (some ⟨w.heap.size, 0, none⟩))) (w.alloc (.cells Z.toArray t))) : wpListIn F n Tryd.prog ops Q (o :: rest) a w := by
  have hrun := run_alloc_zero (P := Tryd.prog) w t Z hz
  refine wpListIn_plain hg fun K' hK' => ?_
  unfold Oper.wpIn
  refine ⟨by simp [Oper.about, hop], ?_⟩
  rw [Oper.semAt_plain F _ _ (by rw [hop]; intro c hc'; cases hc')]
  simp only [execOp, hop, Sem.run_bind, hrun, Result.andThen_ok]
  exact hK' _ _ hK
theorem wpListIn_store_all (hg : o.guard = none) (ty : TypeId) (x y : Operand) (hop : o.op = .store ty x y)
    (g : Nat) (t : TypeId) (cur cells : List Value) (hx : a.eval x = .pointer (some ⟨g, 0, none⟩)) (hy : a.eval y = .agg cells.toArray) (hb : Blk w g t cur) (hfit : cells.length = cur.length)
    (hi : (Tryd.prog.info? ty).map (·.size) = some cells.length) (h1 : ∀ v ∈ cells, v.oneCell' = true)
    (hK : ∀ w', Hid (Blk w' g t cells) → Only g w w' → wpListIn F n Tryd.prog ops Q rest (a.put o.dst undef) w') : wpListIn F n Tryd.prog ops Q (o :: rest) a w := by
  have hrun := run_store_part (P := Tryd.prog) w ty g 0 t cur cells hb (by omega) hi h1
  have hk := setRow_heap w g _ (splice cur 0 cells).toArray t _ hb
  have ho := Only.setRow w g (splice cur 0 cells).toArray
  rw [splice_all _ _ hfit] at hrun hk ho
  refine wpListIn_plain hg fun K' hK' => ?_
  unfold Oper.wpIn
  refine ⟨by simp [Oper.about, hop], ?_⟩
  rw [Oper.semAt_plain F _ _ (by rw [hop]; intro c hc'; cases hc')]
  simp only [execOp, hop, hx, hy, Sem.run_bind, hrun, Result.andThen_ok]
  exact hK' _ _ (hK _ (Lib.hid hk) ho)
theorem wpListIn_loadB (hg : o.guard = none) (x : Operand) (hop : o.op = .load 31 x) (g : Nat) (d : Dg) (hx : a.eval x = .pointer (some ⟨g, 0, none⟩)) (hb : Blk w g 31 (dc d))
    (hK : wpListIn F n Tryd.prog ops Q rest (a.put o.dst (dv d)) w) : wpListIn F n Tryd.prog ops Q (o :: rest) a w :=
  wpListIn_loadD hg x hop g 0 hx d (by have := hb.range 0 (dc d).length; simpa using this) hK
end

set_option maxRecDepth 100000 in
set_option maxHeartbeats 1000000 in
theorem backward_any (A : Option Addr) (m c : Nat) (w : World) :
    Calls Tryd.prog 77 #[.slice A m c] w fun e w' => e = .returned (.func (.func 90) #[] #[.pointer (some ⟨w.heap.size, 0, none⟩)]) ∧ w' = w.alloc (.cells #[.slice A m c] 22) := by
  have hmf : ∀ (fn : Fn) (first cap : Array Value) (w : World), (Instr.makeFunc fn first cap).run Tryd.prog w = .ok (.func fn first cap) w := fun _ _ _ _ => rfl
  go_enter Tryd.func77, Tryd.ntmps77
  go_wp2
  go_ret
  exact ⟨rfl, rfl⟩

set_option maxRecDepth 100000 in
set_option maxHeartbeats 4000000 in
theorem join_any (A : Option Addr) (c : Nat) (l : List Dg) (last : Dg) (w : World) (hg : Glob w) (hr : RdD w A l) (hl : l.length ≤ 2 ^ 41) :
    Calls Tryd.prog 55 #[.slice A l.length c, dv last] w fun e w' => e = .returned (dv (joinD l last)) ∧ Below w.heap.size w w' := by
  have hb := (((Below.refl w.heap.size w).alloc (Nat.le_refl _) (.cells (dc last).toArray 31)).alloc (by simp) (.cells (zb 16).toArray 31)).alloc (by simp; omega) (.cells #[.slice A l.length c] 22)
  have k1 := ((Blk.new w 31 (dc last)).alloc (.cells (zb 16).toArray 31)).alloc (.cells #[.slice A l.length c] 22)
  have k2 := (Blk.new (w.alloc (.cells (dc last).toArray 31)) 31 (zb 16)).alloc (.cells #[.slice A l.length c] 22)
  have k3 : Blk (((w.alloc (.cells (dc last).toArray 31)).alloc (.cells (zb 16).toArray 31)).alloc (.cells #[.slice A l.length c] 22)) ((w.alloc (.cells (dc last).toArray 31)).alloc (.cells (zb 16).toArray 31)).heap.size 22 [.slice A l.length c] := Blk.new ((w.alloc (.cells (dc last).toArray 31)).alloc (.cells (zb 16).toArray 31)) 22 [.slice A l.length c]
  rw [size_alloc] at k2
  rw [size_alloc, size_alloc] at k3
  have hsz : (((w.alloc (.cells (dc last).toArray 31)).alloc (.cells (zb 16).toArray 31)).alloc (.cells #[.slice A l.length c] 22)).heap.size = w.heap.size + 3 := by simp
  have HB := Lib.hid hb
  have K1 := Lib.hid k1
  have K2 := Lib.hid k2
  have K3 := Lib.hid k3
  have HSZ := Lib.hid hsz
  have HR := Lib.hid hr
  have HG := Lib.hid hg
  clear hb k1 k2 k3 hsz hr hg
  refine (callsIn_wide (n := 9)).1 ?_
  unfold dv
  refine callsIn_of_wp_marks Tryd.func55 rfl trivial ?_ rfl
  simp only [Tryd.ntmps55, List.size_toArray, List.length_cons, List.length_nil, Nat.reduceAdd, Nat.reduceSub, Array.replicate_succ, Array.replicate_zero, List.push_toArray, List.append_toArray, List.nil_append, List.cons_append]
  gi_wp2_with (first | (refine wpListIn_alloc_zero rfl 31 rfl (zb 16) dg_zero ?_; try rw [size_alloc]) | (refine ⟨trivial, ?_⟩; gi_at_call 77; refine (callsIn_wide.2 (backward_any A l.length c _)).mono ?_; rintro e w' ⟨rfl, rfl⟩))
  generalize ((w.alloc (.cells (dc last).toArray 31)).alloc (.cells (zb 16).toArray 31)).alloc (.cells #[.slice A l.length c] 22) = W0 at HB K1 K2 K3 HSZ ⊢
  refine wpIn_rangeFunc_ownH rfl (by decide) (gf := 90) (lb := #[.pointer (some ⟨w.heap.size + 1 + 1, 0, none⟩)]) rfl trivial (enters_of Tryd.func90 (by kernel_rfl) rfl)
    (back_stops Fence.wide 8 trivial rfl (by decide) (w.heap.size + 1 + 1) (w.heap.size + 3) w.heap.size w A c l hl HR.out (by omega) (Nat.le_refl _) (by omega) (by omega) W0 HB.out K3.out)
    (fun h1 h2 => h1.trans h2) (fun W k o o' hk ho _ _ => ⟨by simp, fun j hj _ => World.putObj_heap_other (by have := HSZ.out; omega)⟩) (Below.refl _ _) (fun _ => rfl)
    (fun pre W => (Blk W w.heap.size 31 (dc (pre.foldl (fun acc x => nodeD x.2 acc) last)) ∧ Blk W (w.heap.size + 1) 31 (zb 16) ∧ Blk W (w.heap.size + 1 + 1) 22 [.slice A l.length c]) ∧ Below w.heap.size w W)
    (fun _ _ _ => False)
    (OwnFrom.and (OwnFrom.and (Own.from (blk_own _ _ _) _) (OwnFrom.and (Own.from (blk_own _ _ _) _) (Own.from (blk_own _ _ _) _))) (ownFrom_below (Nat.le_refl _) (by have := HSZ.out; omega)))
    (fun _ _ _ _ _ hs _ _ => hs)
    ⟨⟨K1.out, K2.out, K3.out⟩, HB.out⟩
    (fun x a' W => ∃ Bx, w.heap.size + 2 ≤ Bx ∧ Blk W Bx 31 (dc x.2) ∧ a' = { tmps := #[.slice A l.length c, .agg (dc last).toArray, undef, .pointer (some ⟨w.heap.size, 0, none⟩), .pointer (some ⟨w.heap.size + 1, 0, none⟩), undef, .pointer (some ⟨Bx, 0, none⟩), .slice A l.length c, .func (.func 90) #[] #[.pointer (some ⟨w.heap.size + 1 + 1, 0, none⟩)], .int .i64 (x.1 : Int), dv x.2, undef, undef, undef, undef], defers := [] })
    (fun x a' _ X Y row hs hg hr => by obtain ⟨Bx, h1, h2, h3⟩ := hs; exact ⟨Bx, h1, blk_own Bx _ (fun (_ : Unit) => dc x.2) () X Y row h2 hg (fun r e => (hr r e).2), h3⟩)
    ?assign ?body ?done ?stop
  case assign =>
    rintro lp pre x W K ⟨⟨b1, b2, b3⟩, hB⟩ hK
    have bz := Blk.new W 31 (zb 16)
    have hb2 := b2.lt
    have hb3 := b3.lt
    have hfr : (#[9, 10].zip #[Value.int IntKind.i64 (x.1 : Int), dv x.2]).foldl (fun t (p, v) => t.setIfInBounds p v) #[.slice A l.length c, .agg (dc last).toArray, undef, .pointer (some ⟨w.heap.size, 0, none⟩), .pointer (some ⟨w.heap.size + 1, 0, none⟩), undef, undef, .slice A l.length c, .func (.func 90) #[] #[.pointer (some ⟨w.heap.size + 1 + 1, 0, none⟩)], undef, undef, undef, undef, undef, undef] = #[.slice A l.length c, .agg (dc last).toArray, undef, .pointer (some ⟨w.heap.size, 0, none⟩), .pointer (some ⟨w.heap.size + 1, 0, none⟩), undef, undef, .slice A l.length c, .func (.func 90) #[] #[.pointer (some ⟨w.heap.size + 1 + 1, 0, none⟩)], .int .i64 (x.1 : Int), dv x.2, undef, undef, undef, undef] := by simp
    rw [hfr]
    gi_wp2_with (first | (refine wpListIn_alloc_zero rfl 31 rfl (zb 16) dg_zero ?_) | (refine wpListIn_store_all rfl _ (.tmp 6) (.tmp 10) rfl W.heap.size _ (zb 16) (dc x.2) rfl rfl bz (dd_len _) (dd_size _) (dc_one _) ?_; intro w3 hk3 ho3))
    have hw3 : Below W.heap.size W w3 := ((Below.refl _ _).alloc (Nat.le_refl _) _).trans (ho3.below (Nat.le_refl _))
    exact hK _ _ ((keeps_below hw3).from _) (Turn.below hw3 (by omega)) ⟨⟨b1.next hw3, b2.next hw3, b3.next hw3⟩, hB.trans (hw3.mono hB.size)⟩ ⟨W.heap.size, hb2, hk3.out, rfl⟩
  case body =>
    rintro lp pre x a' W _ _ ⟨⟨b1, b2, b3⟩, hB⟩ ⟨Bx, hBx, bX, rfl⟩ _
    have hgW : Glob W := HG.out.next hB
    have hbX := bX.lt
    have hb2 := b2.lt
    have hb3 := b3.lt
    obtain ⟨acc, hacc⟩ : ∃ acc, pre.foldl (fun acc x => nodeD x.2 acc) last = acc := ⟨_, rfl⟩
    rw [hacc] at b1
    obtain ⟨d, hd⟩ : ∃ d, nodeD x.2 acc = d := ⟨_, rfl⟩
    have hfin : (pre ++ [x]).foldl (fun acc x => nodeD x.2 acc) last = d := by rw [List.foldl_append, hacc]; exact hd
    have HFIN := Lib.hid hfin
    have HDD := Lib.hid hd
    clear hacc hd hfin
    have h1' : 1 ≤ 9 - 1 - 1 := by decide
    gi_wp2_with (first | (refine wpListIn_loadB rfl (.tmp 6) rfl Bx x.2 rfl bX ?_) | (refine wpListIn_loadB rfl (.tmp 3) rfl w.heap.size acc rfl b1 ?_) | (refine ⟨trivial, ?_⟩; gi_at_call 19; refine (CallsIn.inRound lp (callsIn_wide.2 (node_any x.2 acc W hgW))).mono ?_; rintro e w2 ⟨rfl, hb2'⟩; have c1 := b1.next hb2'; have c2 := b2.next hb2'; have c3 := b3.next hb2'; rw [HDD.out]) | (refine wpListIn_store_all rfl _ (.tmp 3) (.tmp 13) rfl w.heap.size _ (dc acc) (dc d) rfl rfl c1 (dd_len2 _ _) (dd_size _) (dc_one _) ?_; intro w3 hk3 ho3))
    exact ⟨((keeps_below hb2').trans (keeps_only ho3 c1)).from _, (Turn.below hb2' (by omega)).trans (Turn.only ho3 (.inr rfl)), ⟨by rw [HFIN.out]; exact hk3.out, ho3.blk c2 (by omega), ho3.blk c3 (by omega)⟩, (hB.trans (hb2'.mono hB.size)).trans (ho3.below (Nat.le_refl _))⟩
  case done =>
    rintro D ys W hD rfl ⟨⟨b1, b2, b3⟩, hB⟩ hK
    rw [bk_join] at b1
    have hb2 := b2.lt
    obtain ⟨d, hd⟩ : ∃ d, joinD l last = d := ⟨_, rfl⟩
    rw [hd] at b1
    have HDD := Lib.hid hd
    clear hd
    gi_wp2_with (first | (refine wpListIn_loadB rfl (.tmp 3) rfl w.heap.size d rfl b1 ?_) | (refine wpListIn_store_all rfl _ (.tmp 4) (.tmp 14) rfl (w.heap.size + 1) _ (zb 16) (dc d) rfl rfl b2 (dd_len _) (dd_size _) (dc_one _) ?_; intro w3 hk3 ho3))
    have hsz := HSZ.out
    have hK3 := (ho3.block D (by omega)).trans hK
    have hB3 := (hB.trans (ho3.below (by omega))).trans (belowK_b (w := w) (Nat.le_refl _) w3 D _ (.deferred none) (by omega) hK3 rfl rfl)
    have hkD : Blk (w3.putObj D (.deferred none)) (w.heap.size + 1) 31 (dc d) := (World.putObj_heap_other (by omega)).trans hk3.out
    refine ⟨by simp, .inl ⟨_, _, rfl, run_takeDeferred hK3, ?_⟩⟩
    exact ⟨_, results_blk rfl _ _ (w.heap.size + 1) _ (dc d) _ rfl hkD dg_under rfl (dd_size _), by rw [HDD.out], hB3⟩
  case stop =>
    rintro D k pre W _ _ h _
    exact h.elim
end Go.Proofs.YtfbemmeonkceiaaDoor
