/- Cover's closure: its contract. -/
import Derived.Test.YtmifpaafpmibmaaDoorCH
namespace Go.Proofs.YtmifpaafpmibmaaDoor
open Go.RowKit Hm Wm Cm
attribute [local go_sem] Oper.semAt_some

abbrev coF (gc gl : Nat) : Value := .func (.func 32) #[] #[.pointer (some ⟨gc, 0, none⟩), .pointer (some ⟨gl, 0, none⟩)]
theorem fn_ne1 : 60 ≠ 3 := by decide
theorem fn_ne2 : 60 ≠ 23 := by decide
theorem int_size : (Tryd.prog.info? 3).map (·.size) = some 1 := by kernel_rfl
set_option maxRecDepth 100000 in
set_option maxHeartbeats 400000 in
theorem cover_same (z : Int) (a gc gl : Nat) (W : World) : Calls Tryd.prog 32 #[.int .i64 z, .int .i64 a, .int .i64 a, .pointer (some ⟨gc, 0, none⟩), .pointer (some ⟨gl, 0, none⟩)] W fun e W' => (∃ u, e = .returned u) ∧ Below W.heap.size W W' := by
  have HB := Lib.hid (((Below.refl W.heap.size W).alloc (Nat.le_refl _) (.cells #[.int .i64 z] 3)).alloc (by simp) (.cells #[.int .i64 (a : Int)] 3))
  go_enter Tryd.func32, Tryd.ntmps32
  go_wp2
  exact bodyPost_ret (results_none rfl _ _ _) rfl ⟨⟨_, rfl⟩, HB.out⟩
def CvP (base gl : Nat) (W : World) (l : List Bk) (e : Ending) (W' : World) : Prop := (∃ u, e = .returned u) ∧ (∃ v, Blk W' gl 33 [v] ∧ Row W' base v l) ∧ KeepX gl W W' ∧ Below base W W'
set_option maxRecDepth 100000 in
set_option maxHeartbeats 4000000 in
theorem cover_any : ∀ (n : Nat), n ≤ 5 → ∀ (z : Int) (a b gc gl : Nat) (w0 W : World) (v : Value) (l0 : List Bk), z = (n : Int) - 1 → a ≤ b → b ≤ M → (n = 0 → a = b) → Lens w0 → Below w0.heap.size w0 W → Blk W gc 60 [coF gc gl] → w0.heap.size ≤ gl → Blk W gl 33 [v] → Row W w0.heap.size v l0 → Hid (l0.length + (cov n a b).length ≤ 1000) →
    Calls Tryd.prog 32 #[.int .i64 z, .int .i64 a, .int .i64 b, .pointer (some ⟨gc, 0, none⟩), .pointer (some ⟨gl, 0, none⟩)] W (CvP w0.heap.size gl W (l0 ++ cov n a b)) := by
  intro n
  induction n with
  | zero =>
    intro _ z a b gc gl w0 W v l0 hz hab hbM h0 hL hbel kc hgl kl hrow hlen
    obtain rfl := h0 rfl
    refine (cover_same z a gc gl W).mono ?_
    rintro e W' ⟨hu, hb⟩
    exact ⟨hu, ⟨v, kl.next hb, by rw [cov_same, List.append_nil]; exact hrow.below hb⟩, KeepX.below hb, hb.mono hbel.size⟩
  | succ m ih =>
    intro hn5 z a b gc gl w0 W v l0 hz hab hbM _ hL hbel kc hgl kl hrow hlen
    rcases Nat.eq_or_lt_of_le hab with rfl | hlt
    · refine (cover_same z a gc gl W).mono ?_
      rintro e W' ⟨hu, hb⟩
      exact ⟨hu, ⟨v, kl.next hb, by rw [cov_same, List.append_nil]; exact hrow.below hb⟩, KeepX.below hb, hb.mono hbel.size⟩
    · have hM : M = 1402560 := rfl
      obtain ⟨W1, hW1, k5, k6, hb1⟩ := two_one W 3 3 (.int .i64 z) (.int .i64 (a : Int))
      have hs1 : W1.heap.size = W.heap.size + 2 := by rw [hW1]; simp
      have hz1 : z = (m : Int) := by omega
      have tab : ((a : Int) == (b : Int)) = false := by rw [beq_eq_false_iff_ne]; omega
      have tab' : (a == b) = false := by rw [beq_eq_false_iff_ne]; omega
      have hcov : cov (m + 1) a b = pcv m (wi m a b) a ++ cov m (cur (wi m a b) a) b := by
        rw [cov, if_neg (by omega), covB_split]
      have HCOV := Lib.hid hcov
      have HW1 := Lib.hid hW1
      have K5 := Lib.hid k5
      have K6 := Lib.hid k6
      have HB1 := Lib.hid hb1
      have HS1 := Lib.hid hs1
      have HZ := Lib.hid hz1
      have hklt := kl.lt
      have hclt := kc.lt
      have zb : 0 ≤ z ∧ z ≤ 4 := by omega
      obtain ⟨zb1, zb2⟩ := zb
      clear hcov hW1 k5 k6 hb1 hs1 hz hz1
      refine (callsIn_wide (n := 9)).1 ?_
      refine callsIn_of_wp_marks Tryd.func32 rfl trivial ?_ rfl
      simp only [Tryd.ntmps32, List.size_toArray, List.length_cons, List.length_nil, Nat.reduceAdd, Nat.reduceSub, Array.replicate_succ, Array.replicate_zero, List.push_toArray, List.append_toArray, List.nil_append, List.cons_append]
      gi_wp2_with (first | (refine ⟨trivial, ?_⟩; gi_at_call 25; rw [← HW1.out]; refine (callsIn_wide.2 (within_blk _ _ _ _)).mono ?_; rintro e W2 ⟨BF, BT, BL, rfl, ⟨kF, kT, kL⟩, hge, hb2⟩))
      --R
      rw [HZ.out] at kL
      have hge1 := hge.1
      have hge2 := hge.2.1
      have hge3 := hge.2.2
      have hs1 := HS1.out
      have hs2 := hb2.size
      have hWb := HB1.out.trans (hb2.mono HB1.out.size)
      have hbel2 := hbel.trans (hWb.mono hbel.size)
      have q5 := K5.out.next hb2
      have q6 := K6.out.next hb2
      have qc := kc.next hWb
      have ql := kl.next hWb
      have qr := hrow.below hWb
      have qx := KeepX.below (g := gl) hWb
      have hbs := hbel.size
      clear HB1 HW1 hge
      have hcw := cur_wi (n := m) hbM (Nat.le_of_lt hlt)
      refine range_each (by decide) (gf := 39) (lb := #[.pointer (some ⟨BF, 0, none⟩), .pointer (some ⟨BT, 0, none⟩), .pointer (some ⟨BL, 0, none⟩)]) rfl (enters_of Tryd.func39 (by kernel_rfl) rfl)
        (encs := fun x : Bk => #[bA x]) (Pr := fun pre x => pre ++ [x] <+: wi m a b) (ys := wi m a b) (K0 := Kp w0.heap.size (fun k => k = W.heap.size + 1))
        (fun lp J X hX hJ hY h0' => (wi_in 8 (by decide) lp BF BT BL (fun k => k = W.heap.size + 1) w0 m a b (by omega) hbM hL (by omega) (by omega) (by omega) J (fun _ _ => False) X (fun k hk => by have := hX.size; omega) hJ
          (fun pre x Y h1 h2 => (hY pre x Y h1 h2).mono fun _ _ h => .inl h) (kF.next hX) (kT.next hX) (kL.next hX) (hbel2.trans (hX.mono hbel2.size)) h0').mono fun e Y hY2 => ⟨hY2.1, by rcases hY2.2 with ⟨ys, rfl, h⟩ | ⟨_, _, h⟩; exact h; exact h.elim⟩)
        (fun h1 h2 => h1.trans h2) (fun X k o o' hk ho hc hw => Kp.put (by omega) X k o o' hk ho hc hw) (fun _ => rfl)
        (fun pre X => (((∃ v, Blk X gl 33 [v] ∧ Row X w0.heap.size v (l0 ++ pcv m pre a)) ∧ (Blk X gc 60 [coF gc gl] ∧ (Blk X W.heap.size 3 [.int .i64 z] ∧ Blk X (W.heap.size + 1) 3 [.int .i64 (cur pre a : Nat)]))) ∧ KeepX gl W X) ∧ (Below w0.heap.size w0 X ∧ Below w0.heap.size W X))
        (OwnFrom.and (OwnFrom.and (OwnFrom.and (Own.from (fun pre X Y row hs hg hr => box_own gl w0.heap.size 33 (l0 ++ pcv m pre a) X Y row hs hg hr) _) (OwnFrom.and (Own.from (blk_own _ _ _) _) (OwnFrom.and (Own.from (blk_own _ _ _) _) (Own.from (blk_own _ _ (fun pre : List Bk => [.int .i64 (cur pre a : Nat)])) _)))) (keepX_own (by omega))) (OwnFrom.and (ownFrom_below (Nat.le_refl _) (by omega)) (ownFrom_below hbs (by omega))))
        ⟨⟨⟨⟨_, ql, by show Row W2 _ _ (l0 ++ []); rw [List.append_nil]; exact qr⟩, qc, q5, q6⟩, qx⟩, hbel2, hWb.mono hbs⟩
        (fun x a' X => ∃ Bx, W.heap.size + 2 ≤ Bx ∧ Blk X Bx 23 (b3 (x.1 : Nat) (x.2.1 : Nat) (x.2.2 : Nat)) ∧ a' = { tmps := #[.int .i64 z, .int .i64 (a : Int), .int .i64 (b : Int), .pointer (some ⟨gc, 0, none⟩), .pointer (some ⟨gl, 0, none⟩), .pointer (some ⟨W.heap.size, 0, none⟩), .pointer (some ⟨W.heap.size + 1, 0, none⟩), undef, .pointer (some ⟨Bx, 0, none⟩), .int .i64 (a : Int), .int .i64 (b : Int), .bool false, .int .i64 z, .int .i64 (a : Int), .int .i64 (b : Int), wiF BF BT BL, bA x, undef, undef, undef, undef, undef, undef, undef, undef, undef, undef, undef, undef, undef, undef, undef, undef, undef, undef, undef], defers := [] })
        (fun x a' _ X Y row hs hg hr => by obtain ⟨Bx, h1, h2, h3⟩ := hs; exact ⟨Bx, h1, blk_own Bx _ (fun (_ : Unit) => b3 (x.1 : Nat) (x.2.1 : Nat) (x.2.2 : Nat)) () X Y row h2 hg (fun r e => (hr r e).2), h3⟩)
        ?assign ?body ?done
      case assign =>
        rintro lp pre x X K ⟨⟨⟨⟨u, c1, cr⟩, cc, c5, c6⟩, cx⟩, cb, cw⟩ _ hK
        have hfr : (#[16].zip #[bA x]).foldl (fun t (p, v) => t.setIfInBounds p v) #[.int .i64 z, .int .i64 (a : Int), .int .i64 (b : Int), .pointer (some ⟨gc, 0, none⟩), .pointer (some ⟨gl, 0, none⟩), .pointer (some ⟨W.heap.size, 0, none⟩), .pointer (some ⟨W.heap.size + 1, 0, none⟩), undef, undef, .int .i64 (a : Int), .int .i64 (b : Int), .bool false, .int .i64 z, .int .i64 (a : Int), .int .i64 (b : Int), wiF BF BT BL, undef, undef, undef, undef, undef, undef, undef, undef, undef, undef, undef, undef, undef, undef, undef, undef, undef, undef, undef, undef] = #[.int .i64 z, .int .i64 (a : Int), .int .i64 (b : Int), .pointer (some ⟨gc, 0, none⟩), .pointer (some ⟨gl, 0, none⟩), .pointer (some ⟨W.heap.size, 0, none⟩), .pointer (some ⟨W.heap.size + 1, 0, none⟩), undef, undef, .int .i64 (a : Int), .int .i64 (b : Int), .bool false, .int .i64 z, .int .i64 (a : Int), .int .i64 (b : Int), wiF BF BT BL, bA x, undef, undef, undef, undef, undef, undef, undef, undef, undef, undef, undef, undef, undef, undef, undef, undef, undef, undef, undef] := by simp
        rw [hfr]
        have hX6 := c6.lt
        have hw3 := (Below.refl X.heap.size X).alloc (Nat.le_refl _) (.cells (b3 (x.1 : Nat) (x.2.1 : Nat) (x.2.2 : Nat)).toArray 23)
        have hnew := Blk.new X 23 (b3 (x.1 : Nat) (x.2.1 : Nat) (x.2.2 : Nat))
        have HW3 := Lib.hid hw3
        have HNW := Lib.hid hnew
        have hxs := cx.1
        clear hw3 hnew
        gi_wp2
        exact hK _ _ ((keeps_below HW3.out).from _) (Kp.below HW3.out (Nat.le_trans hbs hxs)) ⟨⟨⟨⟨u, c1.next HW3.out, cr.below HW3.out⟩, cc.next HW3.out, c5.next HW3.out, c6.next HW3.out⟩, cx.trans (KeepX.below HW3.out)⟩, cb.trans (HW3.out.mono (Nat.le_trans hbs hxs)), cw.trans (HW3.out.mono (Nat.le_trans hbs hxs))⟩ ⟨X.heap.size, by omega, HNW.out, rfl⟩
      case body =>
        rintro lp pre x a' X _ ⟨⟨⟨⟨u, c1, cr⟩, cc, c5, c6⟩, cx⟩, cb, cw⟩ hpr ⟨Bx, hBx, bX, rfl⟩
        obtain ⟨p1, p2, p3, p4, p5⟩ := wi_pre hbM hpr
        have hgg : gc ≠ gl := by
          rintro rfl
          have h1 := cc.symm.trans c1
          injection h1 with h1
          injection h1 with h1 h2
          exact absurd h2 (by decide)
        have hlen1 : (l0 ++ pcv m pre a).length + (cov m (cur pre a) x.2.1).length + 1 ≤ 1000 := by
          have h1 := hlen.out
          rw [HCOV.out, List.length_append] at h1
          have h2 := pcv_len (m := m) (a := a) hpr
          rw [List.length_append]
          omega
        have cz := HZ.out
        have HC := Lib.hid (ih (by omega) (z - 1) (cur pre a) x.2.1 gc gl w0 X u (l0 ++ pcv m pre a) (by omega) p1 (by omega) p5 hL cb cc hgl c1 cr (Lib.hid (by omega)))
        have dc : X.cell? ⟨gc, 0, none⟩ = some (coF gc gl) := cc.cell 0
        have d5 : X.cell? ⟨W.heap.size, 0, none⟩ = some (.int .i64 z) := c5.cell 0
        have d6 : X.cell? ⟨W.heap.size + 1, 0, none⟩ = some (.int .i64 (cur pre a : Nat)) := c6.cell 0
        have dX : X.cell? ⟨Bx, 1, none⟩ = some (.int .i64 (x.2.1 : Nat)) := bX.cell 1
        have hcs : pcv m (pre ++ [x]) a = pcv m pre a ++ cov m (cur pre a) x.2.1 ++ [x] := pcv_snoc m x pre a
        have hcu : cur (pre ++ [x]) a = x.2.2 := cur_snoc x pre a
        have HCS := Lib.hid hcs
        have HCU := Lib.hid hcu
        have HPR := Lib.hid hpr
        obtain ⟨y, hy⟩ : ∃ y, cur pre a = y := ⟨_, rfl⟩
        rw [hy] at HC d6 hlen1 HCS
        have hgl0 := hgl
        have hyb : y ≤ M := by omega
        have hxb : x.2.1 ≤ M := by omega
        have hxb2 : x.2.2 ≤ M := by omega
        clear hcs hcu hpr ih p1 p2 p3 p4 p5 hcw cz
        gi_wp2_with fail
        refine ⟨trivial, ?_⟩
        refine (CallsIn.inRound lp (callsIn_wide.2 HC.out)).mono ?_
        rintro e X1 ⟨⟨u1, rfl⟩, ⟨v1, k1, r1⟩, x1, b1⟩
        have hXb := cb.size
        have cxs := cx.1
        have x1s := x1.1
        have hs0 : w0.heap.size ≤ X1.heap.size := by omega
        have HCX := Lib.hid (x1.blk cc (.inl fn_ne2) hgg)
        have HC5 := Lib.hid (x1.blk c5 (.inl int_ne) (by omega))
        have HC6 := Lib.hid (x1.blk c6 (.inl int_ne) (by omega))
        have HBX := Lib.hid (x1.blk bX (.inr rfl) (by omega))
        have HK1 := Lib.hid k1
        have HR1 := Lib.hid r1
        have HX1 := Lib.hid x1
        have HB1' := Lib.hid b1
        have HO1 := Lib.hid c1
        have dl : X1.cell? ⟨gl, 0, none⟩ = some v1 := k1.cell 0
        have hl1 : (l0 ++ pcv m pre a ++ cov m y x.2.1).length ≤ 2000000 := by rw [List.length_append]; omega
        clear dc d5 d6 dX c1 cr cc c5 c6 bX HC k1 r1 x1 b1
        gi_wp2_with (first | (refine wpListIn_loadBin rfl (.tmp 8) rfl Bx (x.1 : Nat) (x.2.1 : Nat) (x.2.2 : Nat) rfl HBX.out ?_; unfold bV) | (refine wpListIn_pushB rfl (.tmp 24) (.tmp 26) rfl w0.heap.size _ _ x rfl HR1.out hs0 hl1 rfl ?_; intro v' X2 hr2 hk2 hb2'; obtain ⟨A2, c2, rfl, hc2⟩ := hr2.form; have HL2 := Lib.hid (hk2.blk HK1.out (.inl bs_ne2)); have HCX2 := Lib.hid (hk2.blk HCX.out (.inl fn_ne2)); have HC52 := Lib.hid (hk2.blk HC5.out (.inl int_ne)); have HC62 := Lib.hid (hk2.blk HC6.out (.inl int_ne)); have HBX2 := Lib.hid (hk2.blk HBX.out (.inr rfl)); have HK2 := Lib.hid hk2; have HB2 := Lib.hid hb2'; have HR2 := Lib.hid hr2; clear hk2 hb2' hr2) | (refine wpListIn_store_var rfl 33 (.tmp 4) (.tmp 27) rfl gl 33 _ _ rfl rfl HL2.out bs_size rfl rfl ?_; intro X3 hk3 ho3; have e2 : X3.cell? ⟨Bx, 2, none⟩ = some (.int .i64 (x.2.2 : Nat)) := (ho3.blk HBX2.out (by omega)).cell 2; have HC63 := Lib.hid (ho3.blk HC62.out (by omega)); have HO3 := Lib.hid ho3; clear ho3) | (refine wpListIn_store_var rfl 3 (.tmp 6) (.tmp 29) rfl (W.heap.size + 1) 3 _ (.int .i64 (x.2.2 : Nat)) rfl rfl HC63.out int_size rfl rfl ?_; intro X4 hk4 ho4))
        have hgl : gl ≠ W.heap.size + 1 := by omega
        have kk : KeepX gl X X3 := (HX1.out.trans (HK2.out.x gl)).trans (KeepX.only HO3.out)
        have bb3 : Below w0.heap.size X X3 := (HB1'.out.trans HB2.out).trans (HO3.out.below hgl0)
        have bb4 : Below w0.heap.size X3 X4 := ho4.below (by omega)
        have kp4 : Kp w0.heap.size (fun k => k = W.heap.size + 1) X3 X4 := ⟨bb4, fun k o h1 _ h3 => (ho4.block k h3).trans h1⟩
        refine ⟨((kk.others HO1.out).trans (keeps_only ho4 HC63.out)).from _, (kk.kp HO1.out bs_ne1 bs_ne2 bb3).trans kp4, ⟨⟨⟨_, ho4.blk hk3.out hgl, ?_⟩, ho4.blk (HO3.out.blk HCX2.out hgg) (by omega), ho4.blk (HO3.out.blk HC52.out (by omega)) (by omega), ?_⟩, (cx.trans kk).onlyNew ho4 (by omega)⟩, (cb.trans bb3).trans bb4, (cw.trans bb3).trans bb4⟩
        · rw [HCS.out, ← List.append_assoc, ← List.append_assoc]
          exact (HR2.out.only HO3.out HL2.out bs_ne2).only ho4 HC63.out int_ne
        · rw [HCU.out]
          exact hk4.out
      case done =>
        rintro D X hD ⟨⟨⟨⟨u, c1, cr⟩, cc, c5, c6⟩, cx⟩, cb, hB0⟩ hK
        have hgg : gc ≠ gl := by
          rintro rfl
          have h1 := cc.symm.trans c1
          injection h1 with h1
          injection h1 with h1 h2
          exact absurd h2 (by decide)
        have cz := HZ.out
        have hlen1 : (l0 ++ pcv m (wi m a b) a).length + (cov m (cur (wi m a b) a) b).length ≤ 1000 := by
          have h1 := hlen.out
          rw [HCOV.out, List.length_append] at h1
          rw [List.length_append]
          omega
        have HC := Lib.hid (ih (by omega) (z - 1) (cur (wi m a b) a) b gc gl w0 X u (l0 ++ pcv m (wi m a b) a) (by omega) hcw.2.1 hbM hcw.2.2 hL cb cc hgl c1 cr (Lib.hid hlen1))
        have dc : X.cell? ⟨gc, 0, none⟩ = some (coF gc gl) := cc.cell 0
        have d5 : X.cell? ⟨W.heap.size, 0, none⟩ = some (.int .i64 z) := c5.cell 0
        have d6 : X.cell? ⟨W.heap.size + 1, 0, none⟩ = some (.int .i64 (cur (wi m a b) a : Nat)) := c6.cell 0
        have hl2 : (l0 ++ pcv m (wi m a b) a) ++ cov m (cur (wi m a b) a) b = l0 ++ cov (m + 1) a b := by rw [HCOV.out, List.append_assoc]
        rw [hl2] at HC
        obtain ⟨y, hy⟩ : ∃ y, cur (wi m a b) a = y := ⟨_, rfl⟩
        rw [hy] at HC d6
        have HKD := Lib.hid hK
        have HCX := Lib.hid cx
        have HCB := Lib.hid cb
        clear ih hcw hlen1 hl2 hK cr c1 c5 c6 cc cz hy
        gi_wp2_with fail
        refine ⟨trivial, ?_⟩
        refine (callsIn_wide.2 HC.out).mono ?_
        rintro e X1 ⟨⟨u1, rfl⟩, ⟨v1, k1, r1⟩, x1, b1⟩
        have HK1 := Lib.hid k1
        have HR1 := Lib.hid r1
        have HX1 := Lib.hid x1
        have HB1' := Lib.hid b1
        clear dc d5 d6 HC k1 r1 x1 b1
        gi_wp2
        have cxs := cx.1
        have hK1 := HX1.out.2 D _ HKD.out (.inl rfl) (by omega)
        have hKe : Blk (X1.putObj D (.deferred none)) gl 33 [v1] := (World.putObj_heap_other (by omega)).trans HK1.out
        have hRe : Row (X1.putObj D (.deferred none)) w0.heap.size v1 (l0 ++ cov (m + 1) a b) := HR1.out.kept fun g cs _ hg => (World.putObj_heap_other (by rintro rfl; rw [hK1] at hg; cases hg)).trans hg
        have hXe : KeepX gl W (X1.putObj D (.deferred none)) := ⟨by simpa using (HCX.out.trans HX1.out).1, fun k o h1 h2 h3 => (World.putObj_heap_other (by have := (Array.getElem?_eq_some_iff.1 h1).1; omega)).trans ((HCX.out.trans HX1.out).2 k o h1 h2 h3)⟩
        have hBe : Below w0.heap.size W (X1.putObj D (.deferred none)) := (hB0.trans HB1'.out).trans (belowK_b (w := w0) (Nat.le_refl _) X1 D _ (.deferred none) (by omega) hK1 rfl rfl)
        refine ⟨by simp, .inl ⟨_, _, rfl, run_takeDeferred hK1, ?_⟩⟩
        exact ⟨_, results_none rfl _ _ _, ⟨_, rfl⟩, ⟨v1, hKe, hRe⟩, hXe, hBe⟩
end Go.Proofs.YtmifpaafpmibmaaDoor
