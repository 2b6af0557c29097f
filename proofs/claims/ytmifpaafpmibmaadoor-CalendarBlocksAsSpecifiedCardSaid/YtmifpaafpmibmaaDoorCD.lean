/- slices.Collect of a range over blocks; Children. -/
import Derived.Test.YtmifpaafpmibmaaDoorCC
namespace Go.Proofs.YtmifpaafpmibmaaDoor
open Go.RowKit Hm Wm Cm
attribute [local go_sem] Oper.semAt_some

theorem blk_own {β : Type} (g : Nat) (t : TypeId) (f : β → List Value) : Own (fun s W => Blk W g t (f s)) := fun _ _ _ _ hs hg hr => (grownBy_keeps_cells hg hr hs rfl).trans hs
theorem keeps_below {W W' : World} (h : Below W.heap.size W W') : KeepsOthers W W' := ⟨h.size, fun k _ hk _ => (h.block k (Array.getElem?_eq_some_iff.1 hk).1).trans hk⟩
theorem keeps_only {W W' : World} {g : Nat} {t : TypeId} {cs : List Value} (h : Only g W W') (hb : Blk W g t cs) : KeepsOthers W W' := ⟨Nat.le_of_eq h.size.symm, fun k o hk ho => by
  refine (h.block k ?_).trans hk
  rintro rfl
  rw [hb] at hk; cases hk; cases ho⟩
theorem Row.kept {W W' : World} {base : Nat} {v : Value} {l : List Bk} (h : Row W base v l) (hk : ∀ (g : Nat) (cs : Array Value), base ≤ g → W.heap[g]? = some (.cells cs 23 (0, 0)) → W'.heap[g]? = some (.cells cs 23 (0, 0))) : Row W' base v l := by
  refine ⟨⟨h.1.1, ?_⟩, h.2⟩
  rcases h.1.2 with h1 | ⟨g, cap, cur, h1, h2, h3, h4⟩
  · exact .inl h1
  · exact .inr ⟨g, cap, cur, h1, h2, hk g cur h2 h3, h4⟩
theorem Row.below {W W' : World} {base : Nat} {v : Value} {l : List Bk} (h : Row W base v l) (hb : Below W.heap.size W W') : Row W' base v l :=
  h.kept fun g _ _ hg => (hb.block g (Array.getElem?_eq_some_iff.1 hg).1).trans hg
theorem Row.only {W W' : World} {base g : Nat} {v : Value} {l : List Bk} {T : TypeId} {cs : List Value} (h : Row W base v l) (ho : Only g W W') (hg : Blk W g T cs) (hT : T ≠ 23) : Row W' base v l :=
  h.kept fun k cur _ hk => by
    refine (ho.block k ?_).trans hk
    rintro rfl
    rw [hg] at hk
    injection hk with hk
    injection hk with _ hk _
    exact hT hk
theorem box_own (g base : Nat) (T : TypeId) : Own (fun (l : List Bk) W => ∃ v, Blk W g T [v] ∧ Row W base v l) := by
  rintro l W W' row ⟨v, h1, h2⟩ hg hr
  exact ⟨v, (grownBy_keeps_cells hg hr h1 rfl).trans h1, h2.kept fun k cs _ hk => (grownBy_keeps_cells hg hr hk rfl).trans hk⟩
theorem only_keeps {W W' : World} {g : Nat} {T : TypeId} {cs : List Value} (h : Only g W W') (hb : Blk W g T cs) (hT : T ≠ 3) (hT2 : T ≠ 23) {B : Nat} {gs : Nat → Prop} (hB : B ≤ g) : Kp B gs W W' :=
  ⟨h.below hB, fun k o hk ⟨cs', T', e, hq⟩ _ => by
    refine (h.block k ?_).trans hk
    rintro rfl
    rw [hb] at hk
    injection hk with hk
    rw [e] at hk
    injection hk with h1 h2 h3
    rcases hq with hq | ⟨hq, _⟩
    · exact hT (h2.trans hq)
    · exact hT2 (h2.trans hq)⟩
section
variable {F : Fence} {n : Nat} {w : World} {ops : Array Oper} {rest : List Oper} {o : Oper} {a : Act} {Q : Exit → Act → World → Prop}
theorem wpListIn_pushB (hg : o.guard = none) (s y : Operand) (hop : o.op = .call { callee := .builtin .append, args := #[s, y], argTypes := #[33, 33] })
    (base : Nat) (v : Value) (l : List Bk) (x : Bk) (hs : a.eval s = v) (h : Row w base v l) (hb : base ≤ w.heap.size) (hl : l.length ≤ 2000000) (hx : a.eval y = .slice (some ⟨w.heap.size, 0, none⟩) 1 1)
    (hK : ∀ v' w', Row w' base v' (l ++ [x]) → Keeps w w' → Below base w w' → wpListIn F n Tryd.prog ops Q rest (a.put o.dst v') w') :
    wpListIn F n Tryd.prog ops Q (o :: rest) a (w.alloc (.cells #[.int .i64 (x.1 : Nat), .int .i64 (x.2.1 : Nat), .int .i64 (x.2.2 : Nat)] 23)) := by
  refine wpListIn_plain hg fun K hK' => ?_
  obtain ⟨v', w', hrun, r1, r2, r3⟩ := run_pushB o.type w base v l x h hb hl
  unfold Oper.wpIn
  refine ⟨?_, ?_⟩
  · simp [Oper.about, hop, resolve, Target.leads, Sem.run_pure]
  · rw [Oper.semAt_plain F _ _ (by rw [hop]; intro c hc'; cases hc')]
    simp [execOp, hop, resolve, invoke, builtin, hs, hx, hrun, Result.andThen]
    exact hK' _ _ (hK v' w' r1 r2 r3)
theorem wpListIn_store_var (hg : o.guard = none) (ty : TypeId) (x y : Operand) (hop : o.op = .store ty x y)
    (g : Nat) (t : TypeId) (v0 v : Value) (hx : a.eval x = .pointer (some ⟨g, 0, none⟩)) (hy : a.eval y = v) (hb : Blk w g t [v0]) (hsz : (Tryd.prog.info? ty).map (·.size) = some 1) (h1 : v.oneCell' = true) (hv : v.cells = #[v])
    (hK : ∀ w', Hid (Blk w' g t [v]) → Only g w w' → wpListIn F n Tryd.prog ops Q rest (a.put o.dst undef) w') : wpListIn F n Tryd.prog ops Q (o :: rest) a w := by
  have hrun := run_store_var ty v hb hsz h1 hv
  refine wpListIn_plain hg fun K' hK' => ?_
  unfold Oper.wpIn
  refine ⟨by simp [Oper.about, hop], ?_⟩
  rw [Oper.semAt_plain F _ _ (by rw [hop]; intro c hc'; cases hc')]
  simp only [execOp, hop, hx, hy, Sem.run_bind, hrun, Result.andThen_ok]
  exact hK' _ _ (hK _ (setRow_heap w g _ _ t _ hb) (Only.setRow w g _))
end
theorem bs_size : (Tryd.prog.info? 33).map (·.size) = some 1 := by kernel_rfl
theorem bs_ne1 : 33 ≠ 3 := by decide
theorem bs_ne2 : 33 ≠ 23 := by decide
abbrev bA (x : Bk) : Value := .agg #[.int .i64 (x.1 : Nat), .int .i64 (x.2.1 : Nat), .int .i64 (x.2.2 : Nat)]
abbrev wiF (BF BT BL : Nat) : Value := .func (.func 39) #[] #[.pointer (some ⟨BF, 0, none⟩), .pointer (some ⟨BT, 0, none⟩), .pointer (some ⟨BL, 0, none⟩)]
set_option maxRecDepth 100000 in
set_option maxHeartbeats 4000000 in
theorem append_any (n a b BF BT BL : Nat) (w : World) (hn : n ≤ 4) (hbM : b ≤ M) (hL : Lens w) (kF : Blk w BF 3 [.int .i64 a]) (kT : Blk w BT 3 [.int .i64 b]) (kL : Blk w BL 3 [.int .i64 n]) :
    Calls Tryd.prog 38 #[.slice none 0 0, wiF BF BT BL] w fun e w' => (∃ v, e = .returned v ∧ Row w' w.heap.size v (wi n a b)) ∧ Below w.heap.size w w' := by
  have hb := (Below.refl w.heap.size w).alloc (Nat.le_refl _) (.cells #[.slice none 0 0] 33)
  have k1 := Blk.new w 33 [.slice none 0 0]
  have hsz : (w.alloc (.cells #[.slice none 0 0] 33)).heap.size = w.heap.size + 1 := by simp
  refine (callsIn_wide (n := 9)).1 ?_
  refine callsIn_of_wp_marks Tryd.func38 rfl trivial ?_ rfl
  simp only [Tryd.ntmps38, List.size_toArray, List.length_cons, List.length_nil, Nat.reduceAdd, Nat.reduceSub, Array.replicate_succ, Array.replicate_zero, List.push_toArray, List.append_toArray, List.nil_append, List.cons_append]
  have HB := Lib.hid hb
  have K1 := Lib.hid k1
  have HSZ := Lib.hid hsz
  clear hb k1 hsz
  gi_wp2
  generalize w.alloc (.cells #[.slice none 0 0] 33) = W0 at HB K1 HSZ ⊢
  refine wpIn_rangeFunc_ownH rfl (by decide) (gf := 39) (lb := #[.pointer (some ⟨BF, 0, none⟩), .pointer (some ⟨BT, 0, none⟩), .pointer (some ⟨BL, 0, none⟩)]) rfl trivial (enters_of Tryd.func39 (by kernel_rfl) rfl)
    (encs := fun x : Bk => #[bA x]) (wi_stops 8 (by decide) BF BT BL (fun _ => False) w n a b hn hbM hL (fun h => h) (fun h => h) (fun h => h) W0 (fun _ h => h.elim) HB.out (kF.next HB.out) (kT.next HB.out) (kL.next HB.out))
    (fun h1 h2 => h1.trans h2) (fun W k o o' hk ho hc hw => Kp.put (by have := HSZ.out; omega) W k o o' hk ho hc hw) (Below.refl _ _) (fun _ => rfl)
    (fun pre W => (∃ v, Blk W w.heap.size 33 [v] ∧ Row W w.heap.size v pre) ∧ Below w.heap.size w W)
    (fun _ _ _ => False)
    (OwnFrom.and (Own.from (box_own _ _ _) _) (ownFrom_below (Nat.le_refl _) (by have := HSZ.out; omega)))
    (fun _ _ _ _ _ hs _ _ => hs)
    ⟨⟨_, K1.out, Row.nil _ _⟩, HB.out⟩
    (fun x a' W => ∃ Bx, w.heap.size + 1 ≤ Bx ∧ Blk W Bx 23 (b3 (x.1 : Nat) (x.2.1 : Nat) (x.2.2 : Nat)) ∧ a' = { tmps := #[.slice none 0 0, wiF BF BT BL, .pointer (some ⟨w.heap.size, 0, none⟩), undef, .slice none 0 0, .pointer (some ⟨Bx, 0, none⟩), wiF BF BT BL, bA x, undef, undef, undef, undef, undef], defers := [] })
    (fun x a' _ X Y row hs hg hr => by obtain ⟨Bx, h1, h2, h3⟩ := hs; exact ⟨Bx, h1, blk_own Bx _ (fun (_ : Unit) => b3 (x.1 : Nat) (x.2.1 : Nat) (x.2.2 : Nat)) () X Y row h2 hg (fun r e => (hr r e).2), h3⟩)
    ?assign ?body ?done ?stop
  case assign =>
    rintro lp pre x W K ⟨⟨v, b1, hrow⟩, hB⟩ hK
    have hfr : (#[7].zip #[bA x]).foldl (fun t (p, v) => t.setIfInBounds p v) #[.slice none 0 0, wiF BF BT BL, .pointer (some ⟨w.heap.size, 0, none⟩), undef, .slice none 0 0, undef, wiF BF BT BL, undef, undef, undef, undef, undef, undef] = #[.slice none 0 0, wiF BF BT BL, .pointer (some ⟨w.heap.size, 0, none⟩), undef, .slice none 0 0, undef, wiF BF BT BL, bA x, undef, undef, undef, undef, undef] := by simp
    rw [hfr]
    have hlt := b1.lt
    have hw3 := (Below.refl W.heap.size W).alloc (Nat.le_refl _) (.cells (b3 (x.1 : Nat) (x.2.1 : Nat) (x.2.2 : Nat)).toArray 23)
    have hnew := Blk.new W 23 (b3 (x.1 : Nat) (x.2.1 : Nat) (x.2.2 : Nat))
    have HW3 := Lib.hid hw3
    have HNW := Lib.hid hnew
    clear hw3 hnew
    gi_wp2
    exact hK _ _ ((keeps_below HW3.out).from _) (Kp.below HW3.out hB.size) ⟨⟨v, b1.next HW3.out, hrow.below HW3.out⟩, hB.trans (HW3.out.mono hB.size)⟩ ⟨W.heap.size, by omega, HNW.out, rfl⟩
  case body =>
    rintro lp pre x a' W _ _ ⟨⟨v, b1, hrow⟩, hB⟩ ⟨Bx, hBx, bX, rfl⟩ hlen
    have hlt := b1.lt
    have cv : W.cell? ⟨w.heap.size, 0, none⟩ = some v := b1.cell 0
    have HR := Lib.hid hrow
    have HBW := Lib.hid hB
    have HB1 := Lib.hid b1
    have hsz2 := hB.size
    clear hrow hB b1
    gi_wp2_with (first | (refine wpListIn_loadBin rfl (.tmp 5) rfl Bx (x.1 : Nat) (x.2.1 : Nat) (x.2.2 : Nat) rfl bX ?_; unfold bV) | (refine wpListIn_pushB rfl (.tmp 8) (.tmp 10) rfl w.heap.size v pre x rfl HR.out hsz2 (by omega) rfl ?_; intro v' w2 hr2 hk2 hb2; obtain ⟨A2, c2, rfl, hc2⟩ := hr2.form; have d1 := hk2.blk HB1.out (.inl bs_ne2); have HK2 := Lib.hid hk2; have HB2 := Lib.hid hb2; have HR2 := Lib.hid hr2; have D1 := Lib.hid d1; clear hk2 hb2 hr2 d1) | (refine wpListIn_store_var rfl 33 (.tmp 2) (.tmp 11) rfl w.heap.size 33 v _ rfl rfl D1.out bs_size rfl rfl ?_; intro w3 hk3 ho3))
    exact ⟨(HK2.out.others.trans (keeps_only ho3 D1.out)).from _, (HK2.out.kp HB2.out).trans (only_keeps ho3 D1.out bs_ne1 bs_ne2 (Nat.le_refl _)), ⟨_, hk3.out, HR2.out.only ho3 D1.out bs_ne2⟩, (HBW.out.trans HB2.out).trans (ho3.below (Nat.le_refl _))⟩
  case done =>
    rintro D ys W hD rfl ⟨⟨v, b1, hrow⟩, hB⟩ hK
    have cv : W.cell? ⟨w.heap.size, 0, none⟩ = some v := b1.cell 0
    gi_wp2
    have hsz := HSZ.out
    have hB3 := hB.trans (belowK_b (w := w) (Nat.le_refl _) W D _ (.deferred none) (by omega) hK rfl rfl)
    have hr3 : Row (W.putObj D (.deferred none)) w.heap.size v (wi n a b) := hrow.kept fun g cs _ hg => (World.putObj_heap_other (by rintro rfl; rw [hK] at hg; cases hg)).trans hg
    refine ⟨by simp, .inl ⟨_, _, rfl, run_takeDeferred hK, ?_⟩⟩
    refine ⟨_, results_tmp rfl _ _ _, ?_, hB3⟩
    exact ⟨v, rfl, hr3⟩
  case stop =>
    rintro D c pre W _ _ h
    exact h.elim
set_option maxRecDepth 100000 in
set_option maxHeartbeats 400000 in
theorem collect_any (n a b BF BT BL : Nat) (w : World) (hn : n ≤ 4) (hbM : b ≤ M) (hL : Lens w) (kF : Blk w BF 3 [.int .i64 a]) (kT : Blk w BT 3 [.int .i64 b]) (kL : Blk w BL 3 [.int .i64 n]) :
    Calls Tryd.prog 24 #[wiF BF BT BL] w fun e w' => (∃ v, e = .returned v ∧ Row w' w.heap.size v (wi n a b)) ∧ Below w.heap.size w w' := by
  have HC := Lib.hid (append_any n a b BF BT BL w hn hbM hL kF kT kL)
  clear hL kF kT kL
  go_enter Tryd.func24, Tryd.ntmps24
  go_wp2_with fail
  refine HC.out.mono ?_
  rintro e w1 ⟨⟨v, rfl, hr⟩, hb⟩
  have HR := Lib.hid hr
  have HB := Lib.hid hb
  clear hr hb
  go_wp2
  go_ret
  exact ⟨⟨_, rfl, HR.out⟩, HB.out⟩
end Go.Proofs.YtmifpaafpmibmaaDoor
