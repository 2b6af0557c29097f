/- Contract of merkle's rootsFromOld. -/
import Derived.Test.YtfbemmeonkceiaaDoorK15
namespace Go.Proofs.YtfbemmeonkceiaaDoor
open Go.RowKit Hm Wm

/-- What a call of rootsFromOld keeps: its three variables, and how far the path is read. -/
def FrO (w0 : World) (A : Option Addr) (c : Nat) (path : List Dg) (w : World) (a : Nat) (o x y : List Value) (W : World) : Prop :=
  StN w0 A c path a W ∧ Turn w.heap.size (w0.heap.size + 2) w W ∧ Blk W w.heap.size 31 o ∧ Blk W (w.heap.size + 1) 31 x ∧ Blk W (w.heap.size + 2) 31 y ∧ w0.heap.size + 3 ≤ w.heap.size
section
variable {w0 w W W' : World} {A : Option Addr} {c a a' : Nat} {path : List Dg} {o x y z : List Value}
theorem FrO.big (h : FrO w0 A c path w a o x y W) : w.heap.size + 3 ≤ W.heap.size := h.2.2.2.2.1.lt
theorem FrO.next (h : FrO w0 A c path w a o x y W) (hb : Below W.heap.size W W') : FrO w0 A c path w a o x y W' :=
  ⟨h.1.next hb, h.2.1.trans (Turn.below hb (by have := h.big; omega)), h.2.2.1.next hb, h.2.2.2.1.next hb, h.2.2.2.2.1.next hb, h.2.2.2.2.2⟩
theorem FrO.drew (h : FrO w0 A c path w a o x y W) : FrO w0 A c path w a o x y W.drew := h.next (Below.refl _ _).drew
theorem FrO.turn (h : FrO w0 A c path w a o x y W) (hs : StN w0 A c path a' W') (ht : Turn W.heap.size (w0.heap.size + 2) W W') : FrO w0 A c path w a' o x y W' := by
  have hb := h.big
  obtain ⟨h1, h2, h3, h4, h5, h6⟩ := h
  exact ⟨hs, h2.trans (ht.less (by omega)), ht.blk h3 h3.lt (by omega), ht.blk h4 h4.lt (by omega), ht.blk h5 h5.lt (by omega), h6⟩
theorem FrO.set8 (h : FrO w0 A c path w a o x y W) (hk : Blk W' w.heap.size 31 z) (ho : Only w.heap.size W W') : FrO w0 A c path w a z x y W' := by
  obtain ⟨h1, h2, h3, h4, h5, h6⟩ := h
  exact ⟨h1.only ho (by omega), h2.trans (Turn.only ho (.inl (Nat.le_refl _))), hk, ho.blk h4 (by omega), ho.blk h5 (by omega), h6⟩
theorem FrO.set10 (h : FrO w0 A c path w a o x y W) (hk : Blk W' (w.heap.size + 1) 31 z) (ho : Only (w.heap.size + 1) W W') : FrO w0 A c path w a o z y W' := by
  obtain ⟨h1, h2, h3, h4, h5, h6⟩ := h
  exact ⟨h1.only ho (by omega), h2.trans (Turn.only ho (.inl (by omega))), ho.blk h3 (by omega), hk, ho.blk h5 (by omega), h6⟩
theorem FrO.set11 (h : FrO w0 A c path w a o x y W) (hk : Blk W' (w.heap.size + 2) 31 z) (ho : Only (w.heap.size + 2) W W') : FrO w0 A c path w a o x z W' := by
  obtain ⟨h1, h2, h3, h4, h5, h6⟩ := h
  exact ⟨h1.only ho (by omega), h2.trans (Turn.only ho (.inl (by omega))), ho.blk h3 (by omega), ho.blk h4 (by omega), hk, h6⟩
theorem FrO.begin (hS : StN w0 A c path a w) (old : Dg) : FrO w0 A c path w a (dc old) (zb 16) (zb 16) (((w.alloc (.cells (dc old).toArray 31)).alloc (.cells (zb 16).toArray 31)).alloc (.cells (zb 16).toArray 31)) := by
  have hb := (((Below.refl w.heap.size w).alloc (Nat.le_refl _) (.cells (dc old).toArray 31)).alloc (by simp) (.cells (zb 16).toArray 31)).alloc (by simp; omega) (.cells (zb 16).toArray 31)
  have h1 := ((Blk.new w 31 (dc old)).alloc (.cells (zb 16).toArray 31)).alloc (.cells (zb 16).toArray 31)
  have h2 := (Blk.new (w.alloc (.cells (dc old).toArray 31)) 31 (zb 16)).alloc (.cells (zb 16).toArray 31)
  have h3 := Blk.new ((w.alloc (.cells (dc old).toArray 31)).alloc (.cells (zb 16).toArray 31)) 31 (zb 16)
  rw [size_alloc] at h2
  rw [size_alloc, size_alloc] at h3
  exact ⟨hS.next hb, Turn.below hb (Nat.le_refl _), h1, h2, h3, hS.big⟩
end
theorem results_two {P : Program} {fn : Func} {p q : Tmp} {ty uy : TypeId} (h : fn.results = #[.cell p ty, .cell q uy]) (tmps : Array Value) (w : World) (g k : Nat) (t u : TypeId) (cs ds : List Value) (d e : TypeDesc)
    (hp : tmps.getD p undef = .pointer (some ⟨g, 0, none⟩)) (hq : tmps.getD q undef = .pointer (some ⟨k, 0, none⟩)) (hg : Blk w g t cs) (hk : Blk w k u ds) (hu : P.underlying ty = some d) (he : P.underlying uy = some e) (hd : d.isRow = true) (hd' : e.isRow = true) (hi : (P.info? ty).map (·.size) = some cs.length) (hi' : (P.info? uy).map (·.size) = some ds.length) :
    (results fn tmps).run P w = .ok (.tuple #[.agg cs.toArray, .agg ds.toArray]) w := by
  have hp' : tmps[p]?.getD undef = .pointer (some ⟨g, 0, none⟩) := by simpa using hp
  have hq' : tmps[q]?.getD undef = .pointer (some ⟨k, 0, none⟩) := by simpa using hq
  have r1 := run_loadVar_row (P := P) w g t ty cs.toArray (0, 0) d hg hu (by cases d <;> first | rfl | cases hd) (by simpa using hi)
  have r2 := run_loadVar_row (P := P) w k u uy ds.toArray (0, 0) e hk he (by cases e <;> first | rfl | cases hd') (by simpa using hi')
  simp [results, h, hp', hq', asAddr, r1, r2]
theorem dd_len2 (d e : Dg) : (dc d).length = (dc e).length := by rw [dc_len, dc_len]

set_option maxRecDepth 100000 in
set_option maxHeartbeats 1000000 in
theorem old_yes (w0 : World) (A : Option Addr) (c : Nat) (path : List Dg) (m a : Nat) (old : Dg) (X : Value) (w : World) (hS : StN w0 A c path a w) :
    Calls Tryd.prog 60 #[.int .i64 m, .int .i64 m, .bool true, dv old, X] w fun e w' => e = .returned (.tuple #[dv old, dv old]) ∧ StN w0 A c path a w' ∧ Turn w.heap.size (w0.heap.size + 2) w w' := by
  have HF := Lib.hid (FrO.begin hS old)
  clear hS
  unfold dv
  go_enter Tryd.func60, Tryd.ntmps60
  go_wp2_with (first | (refine wpList_alloc_zero rfl 31 rfl (zb 16) dg_zero ?_; try rw [size_alloc]))
  generalize ((w.alloc (.cells (dc old).toArray 31)).alloc (.cells (zb 16).toArray 31)).alloc (.cells (zb 16).toArray 31) = wr at HF ⊢
  refine wp_region_held_drew (S := HeldB w.heap.size old) (by kernel_rfl) (show HeldB _ _ _ from HF.out.2.2.1.drew) (fun hS4 => ?_)
  have hF4 := HF.out.drew
  generalize wr.drew = w4 at hS4 hF4 ⊢
  refine reg_takeG (i := 0) (some 21) rfl rfl rfl (by kernel_rfl) (by kernel_rfl) (by kernel_rfl) (dv old) (fun _ _ _ h => h) (fun W hW => exec_loadB (.tmp 8) rfl rfl hW) hS4 ?_
  go_frame
  refine reg_takeG (i := 1) (some 22) rfl rfl rfl (by kernel_rfl) (by kernel_rfl) (by kernel_rfl) (dv old) (fun _ _ _ h => h) (fun W hW => exec_loadB (.tmp 8) rfl rfl hW) hS4 ?_
  go_frame
  refine reg_store_all (i := 2) rfl rfl rfl (by kernel_rfl) 31 (.tmp 10) (.tmp 21) rfl (w.heap.size + 1) _ (zb 16) (dc old) rfl rfl hF4.2.2.2.1 (dd_len _) (dd_size _) (dc_one _) ?_
  intro w5 hk5 ho5
  have hF5 := hF4.set10 hk5 ho5
  refine ⟨hF5.2.2.1, ?_⟩
  go_frame
  refine reg_store_all (i := 3) rfl rfl rfl (by kernel_rfl) 31 (.tmp 11) (.tmp 22) rfl (w.heap.size + 2) _ (zb 16) (dc old) rfl rfl hF5.2.2.2.2.1 (dd_len _) (dd_size _) (dc_one _) ?_
  intro w6 hk6 ho6
  have hF6 := hF5.set11 hk6 ho6
  refine ⟨hF6.2.2.1, wpAnyH_done (by kernel_rfl) ?_ _⟩
  go_frame
  have HZ := Lib.hid hF6
  clear hF6 hF5 hF4 hS4 hk5 ho5 hk6 ho6 HF
  go_wp2
  exact bodyPost_ret (results_two rfl _ _ (w.heap.size + 1) (w.heap.size + 2) _ _ (dc old) (dc old) _ _ rfl rfl HZ.out.2.2.2.1 HZ.out.2.2.2.2.1 dg_under dg_under rfl rfl (dd_size _) (dd_size _)) rfl ⟨rfl, HZ.out.1, HZ.out.2.1⟩

set_option maxRecDepth 100000 in
set_option maxHeartbeats 1000000 in
theorem old_no (w0 : World) (A : Option Addr) (c : Nat) (path : List Dg) (hr : RdD w0 A path) (m a : Nat) (ha : a ≤ 2 ^ 42) (old : Dg) (w : World) (hS : StN w0 A c path a w) :
    Calls Tryd.prog 60 #[.int .i64 m, .int .i64 m, .bool false, dv old, nextF w0.heap.size] w fun e w' => e = .returned (.tuple #[dv (nx path a), dv (nx path a)]) ∧ StN w0 A c path (a + 1) w' ∧ Turn w.heap.size (w0.heap.size + 2) w w' := by
  have HF := Lib.hid (FrO.begin hS old)
  have HN := Lib.hid (fun a w => next_any w0 A c path a w)
  have HR := Lib.hid hr
  clear hS hr
  obtain ⟨x, hx⟩ : ∃ x, nx path a = x := ⟨_, rfl⟩
  have HX := Lib.hid hx
  rw [hx]
  clear hx
  unfold dv nextF
  go_enter Tryd.func60, Tryd.ntmps60
  go_wp2_with (first | (refine wpList_alloc_zero rfl 31 rfl (zb 16) dg_zero ?_; try rw [size_alloc]))
  generalize ((w.alloc (.cells (dc old).toArray 31)).alloc (.cells (zb 16).toArray 31)).alloc (.cells (zb 16).toArray 31) = w1 at HF ⊢
  refine (HN.out a w1 HF.out.1 HR.out ha).mono ?_
  rintro e w2 ⟨rfl, hN2, hT2⟩
  rw [HX.out]
  have HF2 := Lib.hid (HF.out.turn hN2 hT2)
  clear hN2 hT2 HF
  go_wp2_with (refine wpList_store_all rfl _ (.tmp 8) (.tmp 20) rfl w.heap.size _ (dc old) (dc x) rfl rfl HF2.out.2.2.1 (dd_len2 _ _) (dd_size _) (dc_one _) ?_; intro wr hk3 ho3; have HF := Lib.hid (HF2.out.set8 hk3.out ho3); clear hk3 ho3 HF2)
  refine wp_region_held_drew (S := HeldB w.heap.size x) (by kernel_rfl) (show HeldB _ _ _ from HF.out.2.2.1.drew) (fun hS4 => ?_)
  have hF4 := HF.out.drew
  generalize wr.drew = w4 at hS4 hF4 ⊢
  refine reg_takeG (i := 0) (some 21) rfl rfl rfl (by kernel_rfl) (by kernel_rfl) (by kernel_rfl) (dv x) (fun _ _ _ h => h) (fun W hW => exec_loadB (.tmp 8) rfl rfl hW) hS4 ?_
  go_frame
  refine reg_takeG (i := 1) (some 22) rfl rfl rfl (by kernel_rfl) (by kernel_rfl) (by kernel_rfl) (dv x) (fun _ _ _ h => h) (fun W hW => exec_loadB (.tmp 8) rfl rfl hW) hS4 ?_
  go_frame
  refine reg_store_all (i := 2) rfl rfl rfl (by kernel_rfl) 31 (.tmp 10) (.tmp 21) rfl (w.heap.size + 1) _ (zb 16) (dc x) rfl rfl hF4.2.2.2.1 (dd_len _) (dd_size _) (dc_one _) ?_
  intro w5 hk5 ho5
  have hF5 := hF4.set10 hk5 ho5
  refine ⟨hF5.2.2.1, ?_⟩
  go_frame
  refine reg_store_all (i := 3) rfl rfl rfl (by kernel_rfl) 31 (.tmp 11) (.tmp 22) rfl (w.heap.size + 2) _ (zb 16) (dc x) rfl rfl hF5.2.2.2.2.1 (dd_len _) (dd_size _) (dc_one _) ?_
  intro w6 hk6 ho6
  have hF6 := hF5.set11 hk6 ho6
  refine ⟨hF6.2.2.1, wpAnyH_done (by kernel_rfl) ?_ _⟩
  go_frame
  have HZ := Lib.hid hF6
  clear hF6 hF5 hF4 hS4 hk5 ho5 hk6 ho6 HF
  go_wp2
  exact bodyPost_ret (results_two rfl _ _ (w.heap.size + 1) (w.heap.size + 2) _ _ (dc x) (dc x) _ _ rfl rfl HZ.out.2.2.2.1 HZ.out.2.2.2.2.1 dg_under dg_under rfl rfl (dd_size _) (dd_size _)) rfl ⟨rfl, HZ.out.1, HZ.out.2.1⟩

set_option maxRecDepth 100000 in
set_option maxHeartbeats 1000000 in
theorem old_any (w0 : World) (hg0 : Glob w0) (A : Option Addr) (c : Nat) (path : List Dg) (hr : RdD w0 A path) (k : Nat) : ∀ (m n : Nat) (mark : Bool) (old : Dg) (a : Nat) (w : World), n ≤ k → 1 ≤ m → m ≤ n → n ≤ 2 ^ 41 → a + n ≤ 2 ^ 42 → StN w0 A c path a w →
    Calls Tryd.prog 60 #[.int .i64 m, .int .i64 n, .bool mark, dv old, nextF w0.heap.size] w fun e w' => e = .returned (.tuple #[dv (oldD m n mark old a path).1, dv (oldD m n mark old a path).2.1]) ∧ StN w0 A c path (oldD m n mark old a path).2.2 w' ∧ Turn w.heap.size (w0.heap.size + 2) w w' := by
  induction k with
  | zero => intro m n mark old a w hk h1; omega
  | succ k ih =>
    intro m n mark old a w hk hm1 hmn hn ha hS
    by_cases hml : m = n
    · subst hml
      cases mark
      · rw [oldD_all']
        exact old_no w0 A c path hr m a (by omega) old w hS
      · rw [oldD_all]
        exact old_yes w0 A c path m a old _ w hS
    have h2 : 2 ≤ n := by omega
    have hlt := hf_lt h2
    have hpos := hf_pos n
    have HF := Lib.hid (FrO.begin hS old)
    have HH := Lib.hid (fun w' => half_any n w' h2 hn)
    have HG := Lib.hid hg0
    have HN := Lib.hid (fun a w => next_any w0 A c path a w)
    have HR := Lib.hid hr
    have n1 : ((m : Int) == (n : Int)) = false := by rw [beq_eq_false_iff_ne]; omega
    have n2 : (m == n) = false := by rw [beq_eq_false_iff_ne]; omega
    have n3 : decide (m = n) = false := decide_eq_false hml
    by_cases hlo : m ≤ hf n
    · have c1 := fun (w' : World) => ih m (hf n) mark old a w' (by omega) hm1 hlo (by omega) (by omega)
      have hask := oldD_asks old path k (hf n) m mark a (by omega) hm1 hlo
      have hx := oldD_lo mark old a path h2 hml hlo
      obtain ⟨R, hR⟩ : ∃ R, oldD m (hf n) mark old a path = R := ⟨_, rfl⟩
      rw [hR] at hx hask
      simp only [hR] at c1
      obtain ⟨r1, r2, b⟩ := R
      simp only at hask c1 hx
      have HAB := Lib.hid (show b ≤ 2 ^ 42 from by omega)
      have HC1 := Lib.hid c1
      rw [hx]
      obtain ⟨d, hd⟩ : ∃ d, nodeD r2 (nx path b) = d := ⟨_, rfl⟩
      have HDD := Lib.hid hd
      rw [hd]
      have dlo : decide ((m : Int) ≤ (hf n : Int)) = true := decide_eq_true (by omega)
      have dlo' : decide (m ≤ hf n) = true := decide_eq_true (by omega)
      clear c1 hx hR hask hd hS ih hr hg0
      unfold dv nextF
      go_enter Tryd.func60, Tryd.ntmps60
      go_wp2_with (first | (refine wpList_alloc_zero rfl 31 rfl (zb 16) dg_zero ?_; try rw [size_alloc]))
      refine (HH.out _).mono ?_
      rintro e w1 ⟨rfl, hw1⟩
      try rw [size_alloc]
      have HF := Lib.hid (show FrO w0 A c path w a (dc old) (zb 16) (zb 16) w1 from by rw [hw1]; exact HF.out)
      clear hw1
      go_wp2_with (refine wpList_load_all rfl _ (.tmp 8) rfl w.heap.size _ (dc old) _ rfl HF.out.2.2.1 dg_under rfl (dd_size _) ?_)
      refine (HC1.out w1 HF.out.1).mono ?_
      rintro e w2 ⟨rfl, hN2, hT2⟩
      have HF2 := Lib.hid (HF.out.turn hN2 hT2)
      clear hN2 hT2 HC1 HF
      go_wp2_with (first | (refine wpList_store_all rfl _ (.tmp 10) (.tmp 35) rfl (w.heap.size + 1) _ (zb 16) (dc r1) rfl rfl HF2.out.2.2.2.1 (dd_len _) (dd_size _) (dc_one _) ?_; intro w3 hk3 ho3; have HF3' := Lib.hid (HF2.out.set10 hk3.out ho3); clear hk3 ho3 HF2) | (refine wpList_store_all rfl _ (.tmp 11) (.tmp 36) rfl (w.heap.size + 2) _ (zb 16) (dc r2) rfl rfl HF3'.out.2.2.2.2.1 (dd_len _) (dd_size _) (dc_one _) ?_; intro w4 hk4 ho4; have HF3 := Lib.hid (HF3'.out.set11 hk4.out ho4); clear hk4 ho4 HF3'))
      refine late_begin (S := fun L W => HeldB (w.heap.size + 1) r1 W ∧ Till 6 (w.heap.size + 2) r2 L W) (by kernel_rfl) ?_
      have hF4 := HF3.out.drew
      generalize w4.drew = w5 at hF4 ⊢
      have hS5 : ∀ L, HeldB (w.heap.size + 1) r1 w5 ∧ Till 6 (w.heap.size + 2) r2 L w5 := fun L => ⟨hF4.2.2.2.1, .mk hF4.2.2.2.2.1⟩
      refine late_take [5] (i := 0) (some 37) rfl rfl rfl (by kernel_rfl) (by kernel_rfl) (by kernel_rfl) (by kernel_rfl) (by kernel_rfl) (fun L W h => ⟨h.1, h.2.off (by decide)⟩) (dv r1) (fun _ _ _ h => h) (fun L W hl hW => exec_loadB (.tmp 10) rfl rfl hW.1) (hS5 _) (hS5 _) ?_
      go_frame
      refine late_take [6] (i := 1) (some 38) rfl rfl rfl (by kernel_rfl) (by kernel_rfl) (by kernel_rfl) (by kernel_rfl) (by kernel_rfl) (fun L W h => ⟨h.1, h.2.off (by decide)⟩) (dv r2) (fun _ _ _ h => h) (fun L W hl hW => exec_loadB (.tmp 11) rfl rfl (hW.2.out hl (by simp))) (hS5 _) (hS5 _) ?_
      go_frame
      refine late_take [] (i := 2) (some 39) rfl rfl rfl (by kernel_rfl) (by kernel_rfl) (by kernel_rfl) (by kernel_rfl) (by kernel_rfl) (fun L W h => ⟨h.1, h.2.off (by decide)⟩) (nextF w0.heap.size) (fun _ _ _ h => h) (fun L W hl hW => exec_move (.tmp 4) rfl _ rfl) (hS5 _) (hS5 _) ?_
      go_frame
      refine late_one (i := 3) (by kernel_rfl) (op_call_val (some 40) (.tmp 39) rfl rfl rfl rfl rfl next_func (by kernel_rfl) (by kernel_rfl) #[.pointer (some ⟨w0.heap.size + 2, 0, none⟩), .pointer (some ⟨w0.heap.size, 0, none⟩)] rfl (HN.out b w5 hF4.1 HR.out HAB.out) ?_)
      rintro e w6 ⟨rfl, hN6, hT6⟩
      have hF6 := hF4.turn hN6 hT6
      refine ⟨_, rfl, ⟨hF6.2.2.2.1, .mk hF6.2.2.2.2.1⟩, ?_⟩
      go_frame
      refine late_one (i := 4) (by kernel_rfl) (op_call (some 41) rfl rfl rfl rfl Tryd.func19 (by kernel_rfl) (by kernel_rfl) #[dv r2, dv (nx path b)] rfl (node_any r2 (nx path b) w6 (HG.out.next hF6.1.1)) ?_)
      rintro e w7 ⟨rfl, hb7⟩
      have hF7 := hF6.next hb7
      rw [HDD.out]
      refine ⟨_, rfl, ⟨hF7.2.2.2.1, .mk hF7.2.2.2.2.1⟩, ?_⟩
      go_frame
      refine late_one (i := 5) (by kernel_rfl) (op_store_all rfl rfl rfl 31 (.tmp 10) (.tmp 37) rfl (w.heap.size + 1) _ (dc r1) (dc r1) rfl rfl hF7.2.2.2.1 (dd_len2 _ _) (dd_size _) (dc_one _) ?_)
      intro w8 hk8 ho8
      have hF8 := hF7.set10 hk8 ho8
      refine ⟨⟨hF8.2.2.2.1, .mk hF8.2.2.2.2.1⟩, ?_⟩
      go_frame
      refine late_one (i := 6) (by kernel_rfl) (op_store_all rfl rfl rfl 31 (.tmp 11) (.tmp 41) rfl (w.heap.size + 2) _ (dc r2) (dc d) rfl rfl hF8.2.2.2.2.1 (dd_len2 _ _) (dd_size _) (dc_one _) ?_)
      intro w9 hk9 ho9
      have hF9 := hF8.set11 hk9 ho9
      refine ⟨⟨hF9.2.2.2.1, fun h => absurd h (by decide)⟩, late_done (by kernel_rfl) ?_ _⟩
      go_frame
      have HZ := Lib.hid hF9
      clear hF4 hS5 hF6 hF7 hF8 hF9 hk8 ho8 hk9 ho9 hN6 hT6 hb7 HF3
      go_wp2
      exact bodyPost_ret (results_two rfl _ _ (w.heap.size + 1) (w.heap.size + 2) _ _ (dc r1) (dc d) _ _ rfl rfl HZ.out.2.2.2.1 HZ.out.2.2.2.2.1 dg_under dg_under rfl rfl (dd_size _) (dd_size _)) rfl ⟨rfl, HZ.out.1, HZ.out.2.1⟩
    · have hhi : hf n < m := by omega
      have c1 := fun (w' : World) => ih (m - hf n) (n - hf n) false old a w' (by omega) (by omega) (by omega) (by omega) (by omega)
      have hask := oldD_asks old path k (n - hf n) (m - hf n) false a (by omega) (by omega) (by omega)
      have hx := oldD_hi mark old a path h2 hml hhi
      have HSUB := Lib.hid (show ((m : Int) - (hf n : Int)) = ((m - hf n : Nat) : Int) from by omega)
      have HSUB2 := Lib.hid (show ((n : Int) - (hf n : Int)) = ((n - hf n : Nat) : Int) from by omega)
      obtain ⟨R, hR⟩ : ∃ R, oldD (m - hf n) (n - hf n) false old a path = R := ⟨_, rfl⟩
      rw [hR] at hx hask
      simp only [hR] at c1
      obtain ⟨r1, r2, b⟩ := R
      simp only at hask c1 hx
      have HAB := Lib.hid (show b ≤ 2 ^ 42 from by omega)
      have HC1 := Lib.hid c1
      rw [hx]
      obtain ⟨x, hxx⟩ : ∃ x, nx path b = x := ⟨_, rfl⟩
      rw [hxx]
      obtain ⟨d1, hd1⟩ : ∃ d, nodeD x r1 = d := ⟨_, rfl⟩
      obtain ⟨d2, hd2⟩ : ∃ d, nodeD x r2 = d := ⟨_, rfl⟩
      rw [hd1, hd2]
      have HXX := Lib.hid hxx
      have HD1 := Lib.hid hd1
      have HD2 := Lib.hid hd2
      have dlo : decide ((m : Int) ≤ (hf n : Int)) = false := decide_eq_false (by omega)
      have dlo' : decide (m ≤ hf n) = false := decide_eq_false (by omega)
      clear c1 hx hR hask hxx hd1 hd2 hS ih hr hg0
      unfold dv nextF
      go_enter Tryd.func60, Tryd.ntmps60
      go_wp2_with (first | (refine wpList_alloc_zero rfl 31 rfl (zb 16) dg_zero ?_; try rw [size_alloc]))
      refine (HH.out _).mono ?_
      rintro e w1 ⟨rfl, hw1⟩
      try rw [size_alloc]
      have HF := Lib.hid (show FrO w0 A c path w a (dc old) (zb 16) (zb 16) w1 from by rw [hw1]; exact HF.out)
      clear hw1
      go_wp2_with (refine wpList_load_all rfl _ (.tmp 8) rfl w.heap.size _ (dc old) _ rfl HF.out.2.2.1 dg_under rfl (dd_size _) ?_)
      rw [HSUB.out, HSUB2.out]
      refine (HC1.out w1 HF.out.1).mono ?_
      rintro e w2 ⟨rfl, hN2, hT2⟩
      have HF2 := Lib.hid (HF.out.turn hN2 hT2)
      clear hN2 hT2 HC1 HF
      go_wp2_with (first | (refine wpList_store_all rfl _ (.tmp 10) (.tmp 52) rfl (w.heap.size + 1) _ (zb 16) (dc r1) rfl rfl HF2.out.2.2.2.1 (dd_len _) (dd_size _) (dc_one _) ?_; intro w3 hk3 ho3; have HF3' := Lib.hid (HF2.out.set10 hk3.out ho3); clear hk3 ho3 HF2) | (refine wpList_store_all rfl _ (.tmp 11) (.tmp 53) rfl (w.heap.size + 2) _ (zb 16) (dc r2) rfl rfl HF3'.out.2.2.2.2.1 (dd_len _) (dd_size _) (dc_one _) ?_; intro w4 hk4 ho4; have HF3 := Lib.hid (HF3'.out.set11 hk4.out ho4); clear hk4 ho4 HF3'))
      refine (HN.out b w4 HF3.out.1 HR.out HAB.out).mono ?_
      rintro e w5 ⟨rfl, hN5, hT5⟩
      rw [HXX.out]
      have HF5 := Lib.hid (HF3.out.turn hN5 hT5)
      clear hN5 hT5 HF3
      go_wp2_with (refine wpList_var rfl rfl 31 13 rfl rfl rfl (.tmp 55) rfl (zb 16) (dc x) dg_zero rfl rfl (dd_len _) (dd_size _) (dc_one _) ?_; intro w6 K6 D6)
      have HF6 := Lib.hid (HF5.out.next D6.out)
      have HZ5 := Lib.hid HF5.out.big
      have HZ6 := Lib.hid (show w5.heap.size < w6.heap.size from K6.out.lt)
      clear HF5 D6
      refine late_begin (S := fun L W => Till 6 (w.heap.size + 1) r1 L W ∧ Till 7 (w.heap.size + 2) r2 L W ∧ HeldB w5.heap.size x W) (by kernel_rfl) ?_
      have hF7 := HF6.out.drew
      have k7 : HeldB w5.heap.size x w6.drew := K6.out.drew
      have z5 := HZ5.out
      generalize w6.drew = w7 at hF7 k7 ⊢
      have hS7 : ∀ L, Till 6 (w.heap.size + 1) r1 L w7 ∧ Till 7 (w.heap.size + 2) r2 L w7 ∧ HeldB w5.heap.size x w7 := fun L => ⟨.mk hF7.2.2.2.1, .mk hF7.2.2.2.2.1, k7⟩
      refine late_take [] (i := 0) (some 56) rfl rfl rfl (by kernel_rfl) (by kernel_rfl) (by kernel_rfl) (by kernel_rfl) (by kernel_rfl) (fun L W h => ⟨h.1.off (by decide), h.2.1.off (by decide), h.2.2⟩) (dv x) (fun _ _ _ h => h) (fun L W hl hW => exec_loadB (.tmp 13) rfl rfl hW.2.2) (hS7 _) (hS7 _) ?_
      go_frame
      refine late_take [6] (i := 1) (some 57) rfl rfl rfl (by kernel_rfl) (by kernel_rfl) (by kernel_rfl) (by kernel_rfl) (by kernel_rfl) (fun L W h => ⟨h.1.off (by decide), h.2.1.off (by decide), h.2.2⟩) (dv r1) (fun _ _ _ h => h) (fun L W hl hW => exec_loadB (.tmp 10) rfl rfl (hW.1.out hl (by simp))) (hS7 _) (hS7 _) ?_
      go_frame
      refine late_take [] (i := 3) (some 59) rfl rfl rfl (by kernel_rfl) (by kernel_rfl) (by kernel_rfl) (by kernel_rfl) (by kernel_rfl) (fun L W h => ⟨h.1.off (by decide), h.2.1.off (by decide), h.2.2⟩) (dv x) (fun _ _ _ h => h) (fun L W hl hW => exec_loadB (.tmp 13) rfl rfl hW.2.2) (hS7 _) (hS7 _) ?_
      go_frame
      refine late_take [5, 6, 7] (i := 4) (some 60) rfl rfl rfl (by kernel_rfl) (by kernel_rfl) (by kernel_rfl) (by kernel_rfl) (by kernel_rfl) (fun L W h => ⟨h.1.off (by decide), h.2.1.off (by decide), h.2.2⟩) (dv r2) (fun _ _ _ h => h) (fun L W hl hW => exec_loadB (.tmp 11) rfl rfl (hW.2.1.out hl (by simp))) (hS7 _) (hS7 _) ?_
      go_frame
      refine late_one (i := 2) (by kernel_rfl) (op_call (some 58) rfl rfl rfl rfl Tryd.func19 (by kernel_rfl) (by kernel_rfl) #[dv x, dv r1] rfl (node_any x r1 w7 (HG.out.next hF7.1.1)) ?_)
      rintro e w8 ⟨rfl, hb8⟩
      have hF8 := hF7.next hb8
      have k8 : HeldB w5.heap.size x w8 := Blk.next k7 hb8
      rw [HD1.out]
      refine ⟨_, rfl, ⟨.mk hF8.2.2.2.1, .mk hF8.2.2.2.2.1, k8⟩, ?_⟩
      go_frame
      refine late_one (i := 5) (by kernel_rfl) (op_call (some 61) rfl rfl rfl rfl Tryd.func19 (by kernel_rfl) (by kernel_rfl) #[dv x, dv r2] rfl (node_any x r2 w8 (HG.out.next hF8.1.1)) ?_)
      rintro e w9 ⟨rfl, hb9⟩
      have hF9 := hF8.next hb9
      rw [HD2.out]
      refine ⟨_, rfl, ⟨.mk hF9.2.2.2.1, .mk hF9.2.2.2.2.1, Blk.next k8 hb9⟩, ?_⟩
      go_frame
      refine late_one (i := 6) (by kernel_rfl) (op_store_all rfl rfl rfl 31 (.tmp 10) (.tmp 58) rfl (w.heap.size + 1) _ (dc r1) (dc d1) rfl rfl hF9.2.2.2.1 (dd_len2 _ _) (dd_size _) (dc_one _) ?_)
      intro wa hka hoa
      have hFa := hF9.set10 hka hoa
      have k9 : HeldB w5.heap.size x wa := hoa.blk (Blk.next k8 hb9) (by omega)
      refine ⟨⟨fun h => absurd h (by decide), .mk hFa.2.2.2.2.1, k9⟩, ?_⟩
      go_frame
      refine late_one (i := 7) (by kernel_rfl) (op_store_all rfl rfl rfl 31 (.tmp 11) (.tmp 61) rfl (w.heap.size + 2) _ (dc r2) (dc d2) rfl rfl hFa.2.2.2.2.1 (dd_len2 _ _) (dd_size _) (dc_one _) ?_)
      intro wb hkb hob
      have hFb := hFa.set11 hkb hob
      refine ⟨⟨fun h => absurd h (by decide), fun h => absurd h (by decide), hob.blk k9 (by omega)⟩, late_done (by kernel_rfl) ?_ _⟩
      go_frame
      have HZ := Lib.hid hFb
      clear hF7 hS7 k7 z5 hF8 k8 hF9 hFa hFb hka hoa hkb hob hb8 hb9 k9 HF6
      go_wp2
      exact bodyPost_ret (results_two rfl _ _ (w.heap.size + 1) (w.heap.size + 2) _ _ (dc d1) (dc d2) _ _ rfl rfl HZ.out.2.2.2.1 HZ.out.2.2.2.2.1 dg_under dg_under rfl rfl (dd_size _) (dd_size _)) rfl ⟨rfl, HZ.out.1, HZ.out.2.1⟩
end Go.Proofs.YtfbemmeonkceiaaDoor
