/- Blocks. -/
import Derived.Test.YtmifpaafpmibmaaDoorCE
namespace Go.Proofs.YtmifpaafpmibmaaDoor
open Go.RowKit Hm Wm Cm
attribute [local go_sem] Oper.semAt_some

/-- A variable of one cell is stored. -/
theorem wp_store_var {w : World} {op : Oper} {a : Act} {K : Act → World → Prop} {Q : Exit → Act → World → Prop} (ty : TypeId) (x y : Operand) (ho : op.op = .store ty x y)
    (g : Nat) (t : TypeId) (v0 v : Value) (hx : a.eval x = .pointer (some ⟨g, 0, none⟩)) (hy : a.eval y = v) (hb : Blk w g t [v0]) (hsz : (Tryd.prog.info? ty).map (·.size) = some 1) (h1 : v.oneCell' = true) (hv : v.cells = #[v])
    (h : ∀ w', Blk w' g t [v] → Only g w w' → K (a.put op.dst undef) w') : op.wp Tryd.prog a w K Q := by
  have hrun := run_store_var ty v hb hsz h1 hv
  unfold Oper.wp execOp
  simp only [ho, hx, hy, Sem.run_bind, hrun, Result.andThen_ok]
  exact h _ (setRow_heap w g _ _ t _ hb) (Only.setRow w g _)
theorem wpList_store_var {w : World} {ops : Array Oper} {rest : List Oper} {op : Oper} {a : Act} {Q : Exit → Act → World → Prop} (hgd : op.guard = none) (ty : TypeId) (x y : Operand) (ho : op.op = .store ty x y)
    (g : Nat) (t : TypeId) (v0 v : Value) (hx : a.eval x = .pointer (some ⟨g, 0, none⟩)) (hy : a.eval y = v) (hb : Blk w g t [v0]) (hsz : (Tryd.prog.info? ty).map (·.size) = some 1) (h1 : v.oneCell' = true) (hv : v.cells = #[v])
    (h : ∀ w', Hid (Blk w' g t [v]) → Only g w w' → wpList Tryd.prog ops Q rest (a.put op.dst undef) w') : wpList Tryd.prog ops Q (op :: rest) a w :=
  wpList_plain hgd fun _ hK => wp_store_var ty x y ho g t v0 v hx hy hb hsz h1 hv fun w' e1 e2 => hK _ _ (h w' e1 e2)
theorem two_one (w : World) (t u : TypeId) (x y : Value) : ∃ W, W = ((w.alloc (.cells #[x] t)).alloc (.cells #[y] u)) ∧ Blk W w.heap.size t [x] ∧ Blk W (w.heap.size + 1) u [y] ∧ Below w.heap.size w W := by
  refine ⟨_, rfl, (Blk.new w t [x]).alloc _, ?_, ((Below.refl w.heap.size w).alloc (Nat.le_refl _) _).alloc (by simp) _⟩
  have := Blk.new (w.alloc (.cells #[x] t)) u [y]
  rwa [World.size_alloc] at this
theorem three_one (w : World) (t u v : TypeId) (x y z : Value) : ∃ W, W = (((w.alloc (.cells #[x] t)).alloc (.cells #[y] u)).alloc (.cells #[z] v)) ∧ Blk W w.heap.size t [x] ∧ Blk W (w.heap.size + 1) u [y] ∧ Blk W (w.heap.size + 1 + 1) v [z] ∧ Below w.heap.size w W ∧ W.heap.size = w.heap.size + 3 := by
  refine ⟨_, rfl, ((Blk.new w t [x]).alloc _).alloc _, ?_, ?_, (((Below.refl w.heap.size w).alloc (Nat.le_refl _) _).alloc (by simp) _).alloc (by simp; omega) _, by simp⟩
  · have := (Blk.new (w.alloc (.cells #[x] t)) u [y]).alloc (.cells #[z] v)
    rwa [World.size_alloc] at this
  · have := Blk.new ((w.alloc (.cells #[x] t)).alloc (.cells #[y] u)) v [z]
    rwa [World.size_alloc, World.size_alloc] at this
theorem bs_flat (W : World) : (isAgg 33).run Tryd.prog W = .ok false W := by kernel_rfl
theorem er_flat (W : World) : (isAgg 25).run Tryd.prog W = .ok false W := by kernel_rfl
theorem er_size : (Tryd.prog.info? 25).map (·.size) = some 1 := by kernel_rfl
theorem er_ne1 : 25 ≠ 3 := by decide
theorem er_ne2 : 25 ≠ 23 := by decide
theorem results_cc {fn : Func} {p q : Tmp} {t1 t2 : TypeId} (h : fn.results = #[.cell p t1, .cell q t2]) (tmps : Array Value) (w : World) (g1 g2 : Nat) (T1 T2 : TypeId) (v1 v2 : Value)
    (hp : tmps.getD p undef = .pointer (some ⟨g1, 0, none⟩)) (hq : tmps.getD q undef = .pointer (some ⟨g2, 0, none⟩)) (h1 : Blk w g1 T1 [v1]) (h2 : Blk w g2 T2 [v2])
    (a1 : ∀ W, (isAgg t1).run Tryd.prog W = .ok false W) (a2 : ∀ W, (isAgg t2).run Tryd.prog W = .ok false W) :
    (results fn tmps).run Tryd.prog w = .ok (.tuple #[v1, v2]) w := by
  have hp' : tmps[p]?.getD undef = .pointer (some ⟨g1, 0, none⟩) := by simpa using hp
  have hq' : tmps[q]?.getD undef = .pointer (some ⟨g2, 0, none⟩) := by simpa using hq
  have c1 : w.cell? ⟨g1, 0, none⟩ = some v1 := h1.cell 0
  have c2 : w.cell? ⟨g2, 0, none⟩ = some v2 := h2.cell 0
  simp [results, h, hp', hq', asAddr, loadVar, a1, a2, run_load, c1, c2]
set_option maxRecDepth 100000 in
set_option maxHeartbeats 4000000 in
theorem blocks_any (n a b : Nat) (w : World) (hn : n ≤ 4) (hab : a ≤ b) (hbM : b ≤ M) (hL : Lens w) :
    Calls Tryd.prog 16 #[.int .i64 n, .int .i64 a, .int .i64 b] w fun e w' => (∃ v k, e = .returned (.tuple #[v, .int .i64 k]) ∧ ((wi n a b).length ≤ 4000 ∧ k = 0 ∧ Row w' w.heap.size v (wi n a b) ∨ 4000 < (wi n a b).length ∧ k = 2 ∧ v = .slice none 0 0)) ∧ Below w.heap.size w w' := by
  have hM : M = 1402560 := rfl
  have HLV := Lib.hid (fun W => level_any n W)
  rw [show levB (n : Int) = true from decide_eq_true (by omega)] at HLV
  have HIV := Lib.hid (fun W => interval_any a b W)
  rw [show intB (a : Int) (b : Int) = true from decide_eq_true (by omega)] at HIV
  obtain ⟨W1, hW1, k6, k7, k8, hb1, hs1⟩ := three_one w 33 25 33 (.slice none 0 0) (.int .i64 0) (.slice none 0 0)
  have HN := Lib.hid (hL.next hb1)
  have K6 := Lib.hid k6
  have K7 := Lib.hid k7
  have K8 := Lib.hid k8
  have HB := Lib.hid hb1
  have HSZ := Lib.hid hs1
  have HW1 := Lib.hid hW1
  clear k6 k7 k8 hb1 hs1 hW1
  refine (callsIn_wide (n := 9)).1 ?_
  refine callsIn_of_wp_marks Tryd.func16 rfl trivial ?_ rfl
  simp only [Tryd.ntmps16, List.size_toArray, List.length_cons, List.length_nil, Nat.reduceAdd, Nat.reduceSub, Array.replicate_succ, Array.replicate_zero, List.push_toArray, List.append_toArray, List.nil_append, List.cons_append]
  gi_wp2_with (first | (refine ⟨trivial, ?_⟩; gi_at_call 20; refine (callsIn_wide.2 (HLV.out _)).mono ?_; rintro e w0 ⟨rfl, h0⟩; subst h0) | (refine ⟨trivial, ?_⟩; gi_at_call 31; refine (callsIn_wide.2 (HIV.out _)).mono ?_; rintro e w0 ⟨rfl, h0⟩; subst h0) | (refine ⟨trivial, ?_⟩; gi_at_call 25; rw [← HW1.out]; refine (callsIn_wide.2 (within_blk n a b _)).mono ?_; rintro e w2 ⟨BF, BT, BL, rfl, ⟨kF, kT, kL⟩, hge, hb2⟩))
  --L
  have hb3 := HB.out.trans (hb2.mono HB.out.size)
  have j6 := K6.out.next hb2
  have j7 := K7.out.next hb2
  have j8 := K8.out.next hb2
  have hsz := HSZ.out
  have hs2 := hb2.size
  clear HLV HIV HW1 K6 K7 K8
  refine wpIn_rangeFunc_ownH rfl (by decide) (gf := 39) (lb := #[.pointer (some ⟨BF, 0, none⟩), .pointer (some ⟨BT, 0, none⟩), .pointer (some ⟨BL, 0, none⟩)]) rfl trivial (enters_of Tryd.func39 (by kernel_rfl) rfl)
    (encs := fun x : Bk => #[bA x]) (wi_stops 8 (by decide) BF BT BL (fun _ => False) w n a b hn hbM hL (fun h => h) (fun h => h) (fun h => h) w2 (fun _ h => h.elim) hb3 kF kT kL)
    (fun h1 h2 => h1.trans h2) (fun W k o o' hk ho hc hw => Kp.put (by omega) W k o o' hk ho hc hw) (Below.refl _ _) (fun _ => rfl)
    (fun pre W => ((∃ v, Blk W (w.heap.size + 1 + 1) 33 [v] ∧ Row W w.heap.size v pre) ∧ (Blk W w.heap.size 33 [.slice none 0 0] ∧ (Blk W (w.heap.size + 1) 25 [.int .i64 0] ∧ pre.length ≤ 4000))) ∧ Below w.heap.size w W)
    (fun c pre W => (c = .ret ∧ pre.length = 4001) ∧ ((Blk W w.heap.size 33 [.slice none 0 0] ∧ Blk W (w.heap.size + 1) 25 [.int .i64 2]) ∧ Below w.heap.size w W))
    (OwnFrom.and (OwnFrom.and (Own.from (box_own _ _ _) _) (OwnFrom.and (Own.from (blk_own _ _ _) _) (OwnFrom.and (Own.from (blk_own _ _ _) _) (fun _ _ _ _ h _ _ => h)))) (ownFrom_below (Nat.le_refl _) (by omega)))
    (fun c => OwnFrom.and (fun _ _ _ _ h _ _ => h) (OwnFrom.and (OwnFrom.and (Own.from (blk_own _ _ _) _) (Own.from (blk_own _ _ _) _)) (ownFrom_below (Nat.le_refl _) (by omega))))
    ⟨⟨⟨_, j8, Row.nil _ _⟩, j6, j7, by simp⟩, hb3⟩
    (fun x a' W => ∃ Bx, w.heap.size + 3 ≤ Bx ∧ Blk W Bx 23 (b3 (x.1 : Nat) (x.2.1 : Nat) (x.2.2 : Nat)) ∧ a' = { tmps := #[.int .i64 (n : Int), .int .i64 (a : Int), .int .i64 (b : Int), undef, undef, undef, .pointer (some ⟨w.heap.size, 0, none⟩), .pointer (some ⟨w.heap.size + 1, 0, none⟩), .pointer (some ⟨w.heap.size + 1 + 1, 0, none⟩), .pointer (some ⟨Bx, 0, none⟩), .int .i64 (n : Int), .bool true, .bool false, .bool false, .int .i64 (a : Int), .int .i64 (b : Int), .bool true, .bool false, .bool false, .int .i64 (n : Int), .int .i64 (a : Int), .int .i64 (b : Int), wiF BF BT BL, bA x, undef, undef, undef, undef, undef, undef, undef, undef], defers := [] })
    (fun x a' _ X Y row hs hg hr => by obtain ⟨Bx, h1, h2, h3⟩ := hs; exact ⟨Bx, h1, blk_own Bx _ (fun (_ : Unit) => b3 (x.1 : Nat) (x.2.1 : Nat) (x.2.2 : Nat)) () X Y row h2 hg (fun r e => (hr r e).2), h3⟩)
    ?assign ?body ?done ?stop
  case assign =>
    rintro lp pre x W K ⟨⟨⟨v, b1, hrow⟩, b6, b7, hlen⟩, hB⟩ hK
    have hfr : (#[23].zip #[bA x]).foldl (fun t (p, v) => t.setIfInBounds p v) #[.int .i64 (n : Int), .int .i64 (a : Int), .int .i64 (b : Int), undef, undef, undef, .pointer (some ⟨w.heap.size, 0, none⟩), .pointer (some ⟨w.heap.size + 1, 0, none⟩), .pointer (some ⟨w.heap.size + 1 + 1, 0, none⟩), undef, .int .i64 (n : Int), .bool true, .bool false, .bool false, .int .i64 (a : Int), .int .i64 (b : Int), .bool true, .bool false, .bool false, .int .i64 (n : Int), .int .i64 (a : Int), .int .i64 (b : Int), wiF BF BT BL, undef, undef, undef, undef, undef, undef, undef, undef, undef] = #[.int .i64 (n : Int), .int .i64 (a : Int), .int .i64 (b : Int), undef, undef, undef, .pointer (some ⟨w.heap.size, 0, none⟩), .pointer (some ⟨w.heap.size + 1, 0, none⟩), .pointer (some ⟨w.heap.size + 1 + 1, 0, none⟩), undef, .int .i64 (n : Int), .bool true, .bool false, .bool false, .int .i64 (a : Int), .int .i64 (b : Int), .bool true, .bool false, .bool false, .int .i64 (n : Int), .int .i64 (a : Int), .int .i64 (b : Int), wiF BF BT BL, bA x, undef, undef, undef, undef, undef, undef, undef, undef] := by simp
    rw [hfr]
    have hlt := b1.lt
    have hw3 := (Below.refl W.heap.size W).alloc (Nat.le_refl _) (.cells (b3 (x.1 : Nat) (x.2.1 : Nat) (x.2.2 : Nat)).toArray 23)
    have hnew := Blk.new W 23 (b3 (x.1 : Nat) (x.2.1 : Nat) (x.2.2 : Nat))
    have HW3 := Lib.hid hw3
    have HNW := Lib.hid hnew
    clear hw3 hnew
    gi_wp2
    exact hK _ _ ((keeps_below HW3.out).from _) (Kp.below HW3.out hB.size) ⟨⟨⟨v, b1.next HW3.out, hrow.below HW3.out⟩, b6.next HW3.out, b7.next HW3.out, hlen⟩, hB.trans (HW3.out.mono hB.size)⟩ ⟨W.heap.size, by omega, HNW.out, rfl⟩
  case body =>
    rintro lp pre x a' W _ _ ⟨⟨⟨v, b1, hrow⟩, b6, b7, hlen⟩, hB⟩ ⟨Bx, hBx, bX, rfl⟩ _
    obtain ⟨A1, c1, rfl, hc1⟩ := hrow.form
    have hlt := b1.lt
    have cv : W.cell? ⟨w.heap.size + 1 + 1, 0, none⟩ = some (.slice A1 pre.length c1) := b1.cell 0
    have HR := Lib.hid hrow
    have HBW := Lib.hid hB
    have HB1 := Lib.hid b1
    have HB6 := Lib.hid b6
    have HB7 := Lib.hid b7
    have hsz2 := hB.size
    clear hrow hB b1 b6 b7
    by_cases h4 : pre.length = 4000
    · have t1 : (pre.length == 4000) = true := by rw [h4]; rfl
      have t2 : ((pre.length : Int) == 4000) = true := by rw [h4]; rfl
      have H4 := Lib.hid h4
      clear h4
      gi_wp2_with (first | (refine wpListIn_store_var rfl 33 (.tmp 6) (.const (.slice none 0 0)) rfl w.heap.size 33 _ (.slice none 0 0) rfl rfl HB6.out bs_size rfl rfl ?_; intro w3 hk3 ho3; have d7 := ho3.blk HB7.out (by omega)) | (refine wpListIn_store_var rfl 25 (.tmp 7) (.const (.int .i64 2)) rfl (w.heap.size + 1) 25 _ (.int .i64 2) rfl rfl d7 er_size rfl rfl ?_; intro w4 hk4 ho4))
      exact ⟨((keeps_only ho3 HB6.out).trans (keeps_only ho4 d7)).from _, ⟨rfl, by rw [List.length_append, H4.out]; rfl⟩, ⟨ho4.blk hk3.out (by omega), hk4.out⟩, (HBW.out.trans (ho3.below (Nat.le_refl _))).trans (ho4.below (by omega))⟩
    · have t1 : (pre.length == 4000) = false := by rw [beq_eq_false_iff_ne]; exact h4
      have t2 : ((pre.length : Int) == 4000) = false := by rw [beq_eq_false_iff_ne]; omega
      have h4' : pre.length + 1 ≤ 4000 := by omega
      clear h4
      gi_wp2_with (first | (refine wpListIn_loadBin rfl (.tmp 9) rfl Bx (x.1 : Nat) (x.2.1 : Nat) (x.2.2 : Nat) rfl bX ?_; unfold bV) | (refine wpListIn_pushB rfl (.tmp 27) (.tmp 29) rfl w.heap.size _ pre x rfl HR.out hsz2 (by omega) rfl ?_; intro v' w2' hr2 hk2 hb2'; obtain ⟨A2, c2, rfl, hc2⟩ := hr2.form; have d1 := hk2.blk HB1.out (.inl bs_ne2); have HD6 := Lib.hid (hk2.blk HB6.out (.inl bs_ne2)); have HD7 := Lib.hid (hk2.blk HB7.out (.inl er_ne2)); have HK2 := Lib.hid hk2; have HB2 := Lib.hid hb2'; have HR2 := Lib.hid hr2; have D1 := Lib.hid d1; clear hk2 hb2' hr2 d1) | (refine wpListIn_store_var rfl 33 (.tmp 8) (.tmp 30) rfl (w.heap.size + 1 + 1) 33 _ _ rfl rfl D1.out bs_size rfl rfl ?_; intro w3 hk3 ho3))
      exact ⟨(HK2.out.others.trans (keeps_only ho3 D1.out)).from _, (HK2.out.kp HB2.out).trans (only_keeps ho3 D1.out bs_ne1 bs_ne2 (by omega)), ⟨⟨_, hk3.out, HR2.out.only ho3 D1.out bs_ne2⟩, ho3.blk HD6.out (by omega), ho3.blk HD7.out (by omega), by rw [List.length_append]; exact h4'⟩, (HBW.out.trans HB2.out).trans (ho3.below (by omega))⟩
  case done =>
    rintro D ys W hD rfl ⟨⟨⟨v, b1, hrow⟩, b6, b7, hlen⟩, hB⟩ hK
    obtain ⟨A1, c1, rfl, hc1⟩ := hrow.form
    have cv : W.cell? ⟨w.heap.size + 1 + 1, 0, none⟩ = some (.slice A1 (wi n a b).length c1) := b1.cell 0
    have HR := Lib.hid hrow
    have HBW := Lib.hid hB
    have HB1 := Lib.hid b1
    have HB6 := Lib.hid b6
    have HB7 := Lib.hid b7
    have HK := Lib.hid hK
    have HLN := Lib.hid hlen
    clear hrow hB b1 b6 b7 hK hlen
    gi_wp2_with (first | (refine wpListIn_store_var rfl 33 (.tmp 6) (.tmp 31) rfl w.heap.size 33 _ _ rfl rfl HB6.out bs_size rfl rfl ?_; intro w3 hk3 ho3; have d7 := ho3.blk HB7.out (by omega); have d1 := Row.only HR.out ho3 HB6.out bs_ne2) | (refine wpListIn_store_var rfl 25 (.tmp 7) (.const (.int .i64 0)) rfl (w.heap.size + 1) 25 _ (.int .i64 0) rfl rfl d7 er_size rfl rfl ?_; intro w4 hk4 ho4))
    have hK4 := (ho4.block D (by omega)).trans ((ho3.block D (by omega)).trans HK.out)
    have hR4 := d1.only ho4 d7 er_ne2
    have hB4 := ((HBW.out.trans (ho3.below (Nat.le_refl _))).trans (ho4.below (by omega))).trans (belowK_b (w := w) (Nat.le_refl _) w4 D _ (.deferred none) (by omega) hK4 rfl rfl)
    have e6 : Blk (w4.putObj D (.deferred none)) w.heap.size 33 [_] := (World.putObj_heap_other (by omega)).trans (ho4.blk hk3.out (by omega))
    have e7 : Blk (w4.putObj D (.deferred none)) (w.heap.size + 1) 25 [_] := (World.putObj_heap_other (by omega)).trans hk4.out
    have hR5 : Row (w4.putObj D (.deferred none)) w.heap.size (.slice A1 (wi n a b).length c1) (wi n a b) := hR4.kept fun g cs _ hg => (World.putObj_heap_other (by rintro rfl; rw [hK4] at hg; cases hg)).trans hg
    refine ⟨by simp, .inl ⟨_, _, rfl, run_takeDeferred hK4, ?_⟩⟩
    refine ⟨_, results_cc rfl _ _ w.heap.size (w.heap.size + 1) _ _ _ _ rfl rfl e6 e7 bs_flat er_flat, ?_, hB4⟩
    exact ⟨_, _, rfl, .inl ⟨HLN.out, rfl, hR5⟩⟩
  case stop =>
    rintro D c pre W hD hpre ⟨⟨rfl, h4⟩, ⟨b6, b7⟩, hB⟩ hK
    have hlen : 4000 < (wi n a b).length := by
      obtain ⟨r, hr⟩ := hpre
      rw [← hr, List.length_append]
      omega
    have HLN := Lib.hid hlen
    have HB6 := Lib.hid b6
    have HB7 := Lib.hid b7
    have HBW := Lib.hid hB
    have HK := Lib.hid hK
    clear hlen h4 hpre b6 b7 hB hK
    gi_wp2
    have e6 : Blk (W.putObj D (.deferred none)) w.heap.size 33 [_] := (World.putObj_heap_other (by omega)).trans HB6.out
    have e7 : Blk (W.putObj D (.deferred none)) (w.heap.size + 1) 25 [_] := (World.putObj_heap_other (by omega)).trans HB7.out
    have hB4 := HBW.out.trans (belowK_b (w := w) (Nat.le_refl _) W D _ (.deferred none) (by omega) HK.out rfl rfl)
    refine ⟨by simp, .inl ⟨_, _, rfl, run_takeDeferred HK.out, ?_⟩⟩
    refine ⟨_, results_cc rfl _ _ w.heap.size (w.heap.size + 1) _ _ _ _ rfl rfl e6 e7 bs_flat er_flat, ?_, hB4⟩
    exact ⟨_, _, rfl, .inr ⟨HLN.out, rfl, rfl⟩⟩
/-- Blocks where there is no such level or interval. -/
theorem blocks_no (n a b : Int) (w : World) (h : (levB n && intB a b) = false) :
    Calls Tryd.prog 16 #[.int .i64 n, .int .i64 a, .int .i64 b] w fun e w' => e = .returned (.tuple #[.slice none 0 0, .int .i64 3]) ∧ Below w.heap.size w w' := by
  have HL := Lib.hid (level_any n)
  have HI := Lib.hid (interval_any a b)
  cases h1 : levB n
  · rw [h1] at HL
    clear h HI h1
    obtain ⟨W1, hW1, k6, k7, hb1⟩ := two_one w 33 25 (.slice none 0 0) (.int .i64 0)
    have K6 := Lib.hid k6
    have K7 := Lib.hid k7
    have HB := Lib.hid hb1
    have HW1 := Lib.hid hW1
    clear k6 k7 hb1 hW1
    go_enter Tryd.func16, Tryd.ntmps16
    go_wp2_with fail
    rw [← HW1.out]
    refine (HL.out _).mono ?_
    rintro e w0 ⟨rfl, h0⟩
    subst h0
    go_wp2_with (first | (refine wpList_store_var rfl 33 (.tmp 6) (.const (.slice none 0 0)) rfl w.heap.size 33 _ (.slice none 0 0) rfl rfl K6.out bs_size rfl rfl ?_; intro w3 hk3 ho3; have d7 := ho3.blk K7.out (by omega)) | (refine wpList_store_var rfl 25 (.tmp 7) (.const (.int .i64 3)) rfl (w.heap.size + 1) 25 _ (.int .i64 3) rfl rfl d7 er_size rfl rfl ?_; intro w4 hk4 ho4))
    exact bodyPost_ret (results_cc rfl _ _ w.heap.size (w.heap.size + 1) _ _ _ _ rfl rfl (ho4.blk hk3.out (by omega)) hk4.out bs_flat er_flat) rfl ⟨rfl, (HB.out.trans (ho3.below (Nat.le_refl _))).trans (ho4.below (by omega))⟩
  · have h2 : intB a b = false := by rw [h1, Bool.true_and] at h; exact h
    rw [h1] at HL
    rw [h2] at HI
    clear h h1 h2
    obtain ⟨W1, hW1, k6, k7, hb1⟩ := two_one w 33 25 (.slice none 0 0) (.int .i64 0)
    have K6 := Lib.hid k6
    have K7 := Lib.hid k7
    have HB := Lib.hid hb1
    have HW1 := Lib.hid hW1
    clear k6 k7 hb1 hW1
    go_enter Tryd.func16, Tryd.ntmps16
    go_wp2_with fail
    rw [← HW1.out]
    refine (HL.out _).mono ?_
    rintro e w0 ⟨rfl, h0⟩
    subst h0
    go_wp2_with fail
    refine (HI.out _).mono ?_
    rintro e w0 ⟨rfl, h0⟩
    subst h0
    go_wp2_with (first | (refine wpList_store_var rfl 33 (.tmp 6) (.const (.slice none 0 0)) rfl w.heap.size 33 _ (.slice none 0 0) rfl rfl K6.out bs_size rfl rfl ?_; intro w3 hk3 ho3; have d7 := ho3.blk K7.out (by omega)) | (refine wpList_store_var rfl 25 (.tmp 7) (.const (.int .i64 3)) rfl (w.heap.size + 1) 25 _ (.int .i64 3) rfl rfl d7 er_size rfl rfl ?_; intro w4 hk4 ho4))
    exact bodyPost_ret (results_cc rfl _ _ w.heap.size (w.heap.size + 1) _ _ _ _ rfl rfl (ho4.blk hk3.out (by omega)) hk4.out bs_flat er_flat) rfl ⟨rfl, (HB.out.trans (ho3.below (Nat.le_refl _))).trans (ho4.below (by omega))⟩
end Go.Proofs.YtmifpaafpmibmaaDoor
