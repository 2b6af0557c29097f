/- Contract of merkle's rootFromOne. -/
import Derived.Test.YtfbemmeonkceiaaDoorK12
namespace Go.Proofs.YtfbemmeonkceiaaDoor
open Go.RowKit Hm Wm

/-- What stands while an order is drawn: one variable. -/
def HeldB (g : Nat) (d : Dg) (W : World) : Prop := Blk W g 31 (dc d)
theorem exec_loadB {oi : Oper} {a : Act} {w : World} {g : Nat} {d : Dg} (x : Operand) (ho : oi.op = .load 31 x) (hx : a.eval x = .pointer (some ⟨g, 0, none⟩)) (h : HeldB g d w) : (execOp a.eval oi).run Tryd.prog w = .ok (.value (dv d)) w :=
  exec_load16 x ho g d.1 d.2 h hx
theorem next_func : Tryd.prog.funcs[73]? = some Tryd.f73 := Tryd.func73

set_option maxRecDepth 100000 in
set_option maxHeartbeats 1000000 in
theorem one_one (w0 : World) (A : Option Addr) (c : Nat) (path : List Dg) (leaf : Dg) (i : Nat) (a : Nat) (X : Value) (w : World) (hS : StN w0 A c path a w) :
    Calls Tryd.prog 58 #[dv leaf, .int .i64 i, .int .i64 1, X] w fun e w' => e = .returned (dv leaf) ∧ StN w0 A c path a w' ∧ Turn w.heap.size (w0.heap.size + 2) w w' := by
  have hb := ((Below.refl w.heap.size w).alloc (Nat.le_refl _) (.cells (dc leaf).toArray 31)).alloc (by simp) (.cells (zb 16).toArray 31)
  have h1 := (Blk.new w 31 (dc leaf)).alloc (.cells (zb 16).toArray 31)
  have h2 := Blk.new (w.alloc (.cells (dc leaf).toArray 31)) 31 (zb 16)
  rw [size_alloc] at h2
  have H1 := Lib.hid h1
  have H2 := Lib.hid h2
  have HS := Lib.hid (hS.next hb)
  have HT := Lib.hid (Turn.below (N := w.heap.size) (ga := w0.heap.size + 2) hb (Nat.le_refl _))
  have HBIG := Lib.hid hS.big
  clear hb h1 h2 hS
  unfold dv
  go_enter Tryd.func58, Tryd.ntmps58
  go_wp2_with (first | (refine wpList_alloc_zero rfl 31 rfl (zb 16) dg_zero ?_; rw [size_alloc]) | (refine wpList_load_all rfl _ (.tmp 4) rfl w.heap.size _ (dc leaf) _ rfl H1.out dg_under rfl (dd_size _) ?_) | (refine wpList_store_all rfl _ (.tmp 8) (.tmp 14) rfl (w.heap.size + 1) _ (zb 16) (dc leaf) rfl rfl H2.out (dd_len _) (dd_size _) (dc_one _) ?_; intro w7 HB7 ho7))
  exact bodyPost_ret (results_blk rfl _ _ (w.heap.size + 1) _ (dc leaf) _ rfl HB7.out dg_under rfl (dd_size _)) rfl ⟨rfl, HS.out.only ho7 (by have := HBIG.out; omega), HT.out.trans (Turn.only ho7 (.inl (by omega)))⟩

set_option maxRecDepth 100000 in
set_option maxHeartbeats 1000000 in
theorem one_any (w0 : World) (hg0 : Glob w0) (A : Option Addr) (c : Nat) (path : List Dg) (hr : RdD w0 A path) (k : Nat) : ∀ (leaf : Dg) (i n a : Nat) (w : World), n ≤ k → 1 ≤ n → n ≤ 2 ^ 41 → a + n ≤ 2 ^ 42 → i < n → StN w0 A c path a w →
    Calls Tryd.prog 58 #[dv leaf, .int .i64 i, .int .i64 n, nextF w0.heap.size] w fun e w' => e = .returned (dv (oneD leaf i n a path).1) ∧ StN w0 A c path (oneD leaf i n a path).2 w' ∧ Turn w.heap.size (w0.heap.size + 2) w w' := by
  induction k with
  | zero => intro leaf i n a w hk h1; omega
  | succ k ih =>
    intro leaf i n a w hk h1 hn ha hi hS
    by_cases h1n : n = 1
    · subst h1n
      rw [oneD_one leaf a path (Nat.le_refl _)]
      exact one_one w0 A c path leaf i a _ w hS
    have h2 : 2 ≤ n := by omega
    have hlt := hf_lt h2
    have hpos := hf_pos n
    have hb := ((Below.refl w.heap.size w).alloc (Nat.le_refl _) (.cells (dc leaf).toArray 31)).alloc (by simp) (.cells (zb 16).toArray 31)
    have hB1 := (Blk.new w 31 (dc leaf)).alloc (.cells (zb 16).toArray 31)
    have hB2 := Blk.new (w.alloc (.cells (dc leaf).toArray 31)) 31 (zb 16)
    rw [size_alloc] at hB2
    have H1 := Lib.hid hB1
    have H2 := Lib.hid hB2
    have HS := Lib.hid (hS.next hb)
    have HT := Lib.hid (Turn.below (N := w.heap.size) (ga := w0.heap.size + 2) hb (Nat.le_refl _))
    have HBIG := Lib.hid hS.big
    have HH := Lib.hid (fun w' => half_any n w' h2 hn)
    have HG := Lib.hid hg0
    have HN := Lib.hid (fun a w => next_any w0 A c path a w)
    have HR := Lib.hid hr
    have n1 : ((n : Int) == 1) = false := by rw [beq_eq_false_iff_ne]; omega
    have n2 : (n == 1) = false := by rw [beq_eq_false_iff_ne]; omega
    have e2 : w.heap.size + 2 = ((w.alloc (.cells (dc leaf).toArray 31)).alloc (.cells (zb 16).toArray 31)).heap.size := by simp
    by_cases hlo : i < hf n
    · have c1 := fun (w' : World) => ih leaf i (hf n) a w' (by omega) hpos (by omega) (by omega) hlo
      have hask := oneD_asks leaf path k (hf n) i a (by omega)
      have hx := oneD_lo leaf a path h2 hlo
      obtain ⟨R, hR⟩ : ∃ R, oneD leaf i (hf n) a path = R := ⟨_, rfl⟩
      rw [hR] at hx hask
      simp only [hR] at c1
      obtain ⟨r, b⟩ := R
      simp only at hask c1 hx
      have HAB := Lib.hid (show b ≤ 2 ^ 42 from by omega)
      have HC1 := Lib.hid c1
      rw [hx]
      obtain ⟨d, hd⟩ : ∃ d, nodeD r (nx path b) = d := ⟨_, rfl⟩
      have HDD := Lib.hid hd
      rw [hd]
      have HE2 := Lib.hid e2
      have dlo : decide ((i : Int) < (hf n : Int)) = true := decide_eq_true (by omega)
      have dlo' : decide (i < hf n) = true := decide_eq_true (by omega)
      clear c1 hx hR hask hd e2 hb hB1 hB2 hS ih hr hg0
      unfold dv nextF
      go_enter Tryd.func58, Tryd.ntmps58
      go_wp2_with (first | (refine wpList_alloc_zero rfl 31 rfl (zb 16) dg_zero ?_; rw [size_alloc]))
      refine (HH.out _).mono ?_
      rintro e w1 ⟨rfl, hw1⟩
      have H1 := Lib.hid (show Blk w1 w.heap.size 31 (dc leaf) from by rw [hw1]; exact H1.out)
      have H2 := Lib.hid (show Blk w1 (w.heap.size + 1) 31 (zb 16) from by rw [hw1]; exact H2.out)
      have HS := Lib.hid (show StN w0 A c path a w1 from by rw [hw1]; exact HS.out)
      have HT := Lib.hid (show Turn w.heap.size (w0.heap.size + 2) w w1 from by rw [hw1]; exact HT.out)
      have HZ := Lib.hid (show w.heap.size + 2 = w1.heap.size from by rw [hw1]; exact HE2.out)
      clear hw1 HE2
      go_wp2_with (refine wpList_load_all rfl _ (.tmp 4) rfl w.heap.size _ (dc leaf) _ rfl H1.out dg_under rfl (dd_size _) ?_)
      refine (HC1.out w1 HS.out).mono ?_
      rintro e w2 ⟨rfl, hN2, hT2⟩
      have HN2 := Lib.hid hN2
      have HT2 := Lib.hid (HT.out.trans (hT2.less (by have := HZ.out; omega)))
      have K2 := Lib.hid (hT2.blk H2.out H2.out.lt (by have := HBIG.out; omega))
      have HZ2 := Lib.hid (Nat.le_trans (Nat.le_of_eq HZ.out) hT2.1)
      clear hN2 hT2 HC1 H1 H2 HS HT HZ
      go_wp2_with (refine wpList_var rfl rfl 31 10 rfl rfl rfl (.tmp 24) rfl (zb 16) (dc r) dg_zero rfl rfl (dd_len _) (dd_size _) (dc_one _) ?_; intro w3 K3 D3)
      have HN3 := Lib.hid (HN2.out.next D3.out)
      have HT3 := Lib.hid (HT2.out.trans (Turn.below D3.out (by have := HZ2.out; omega)))
      have KR3 := Lib.hid (K2.out.next D3.out)
      have HZ3 := Lib.hid (show w2.heap.size ≤ w3.heap.size from D3.out.size)
      clear HN2 HT2 K2 D3
      refine wp_region_held_drew (S := HeldB w2.heap.size r) (by kernel_rfl) (show HeldB _ _ _ from K3.out.drew) (fun hS4 => ?_)
      have hN4 := HN3.out.drew
      have hT4 := HT3.out.trans (Turn.below (Below.refl _ _).drew (show w.heap.size ≤ w3.heap.size from by have := HZ2.out; have := HZ3.out; omega))
      have k4 := KR3.out.drew
      have z4 : w2.heap.size ≤ w3.drew.heap.size := HZ3.out
      have zz := HZ2.out
      have zb4 := HBIG.out
      generalize w3.drew = w4 at hS4 hN4 hT4 k4 z4 ⊢
      refine reg_takeG (i := 0) (some 25) rfl rfl rfl (by kernel_rfl) (by kernel_rfl) (by kernel_rfl) (dv r) (fun _ _ _ h => h) (fun W hW => exec_loadB (.tmp 10) rfl rfl hW) hS4 ?_
      go_frame
      refine reg_takeG (i := 1) (some 26) rfl rfl rfl (by kernel_rfl) (by kernel_rfl) (by kernel_rfl) (nextF w0.heap.size) (fun _ _ _ h => h) (fun W hW => exec_move (.tmp 3) rfl _ rfl) hS4 ?_
      go_frame
      refine reg_call_val (i := 2) (some 27) (.tmp 26) rfl rfl rfl (by kernel_rfl) rfl rfl next_func (by kernel_rfl) (by kernel_rfl) #[.pointer (some ⟨w0.heap.size + 2, 0, none⟩), .pointer (some ⟨w0.heap.size, 0, none⟩)] rfl (HN.out b w4 hN4 HR.out HAB.out) ?_
      rintro e w5 ⟨rfl, hN5, hT5⟩
      have hS5 : HeldB w2.heap.size r w5 := hT5.blk hS4 hS4.lt (by omega)
      refine ⟨_, rfl, hS5, ?_⟩
      go_frame
      refine reg_callG (i := 3) (some 28) rfl rfl rfl (by kernel_rfl) rfl Tryd.func19 (by kernel_rfl) (by kernel_rfl) #[dv r, dv (nx path b)] rfl (node_any r (nx path b) w5 (HG.out.next hN5.1)) ?_
      rintro e w6 ⟨rfl, hb6⟩
      rw [HDD.out]
      have hS6 : HeldB w2.heap.size r w6 := hS5.next hb6
      refine ⟨_, rfl, hS6, ?_⟩
      go_frame
      have k5 : Blk w5 (w.heap.size + 1) 31 (zb 16) := hT5.blk k4 k4.lt (by omega)
      refine reg_store_all (i := 4) rfl rfl rfl (by kernel_rfl) 31 (.tmp 8) (.tmp 28) rfl (w.heap.size + 1) _ (zb 16) (dc d) rfl rfl (k5.next hb6) (dd_len _) (dd_size _) (dc_one _) ?_
      intro w7 hk7 ho7
      have hS7 : HeldB w2.heap.size r w7 := ho7.blk hS6 (by omega)
      refine ⟨hS7, wpAnyH_done (by kernel_rfl) ?_ _⟩
      go_frame
      have HF := Lib.hid ((hN5.next hb6).only ho7 (by omega))
      have HFT := Lib.hid (((hT4.trans (hT5.less (by omega))).trans (Turn.below hb6 (by have := hT5.1; omega))).trans (Turn.only ho7 (.inl (by omega))))
      have HK7 := Lib.hid hk7
      clear hS4 hN4 hT4 k4 z4 zz zb4 hN5 hT5 hS5 hb6 hS6 k5 hk7 ho7 hS7 HN3 HT3 KR3 HZ3 HZ2
      go_wp2
      exact bodyPost_ret (results_blk rfl _ _ (w.heap.size + 1) _ (dc d) _ rfl HK7.out dg_under rfl (dd_size _)) rfl ⟨rfl, HF.out, HFT.out⟩
    · have hhi : hf n ≤ i := by omega
      have c1 := fun (w' : World) => ih leaf (i - hf n) (n - hf n) a w' (by omega) (by omega) (by omega) (by omega) (by omega)
      have hask := oneD_asks leaf path k (n - hf n) (i - hf n) a (by omega)
      have hx := oneD_hi leaf a path h2 hhi
      have HSUB := Lib.hid (show ((i : Int) - (hf n : Int)) = ((i - hf n : Nat) : Int) from by omega)
      have HSUB2 := Lib.hid (show ((n : Int) - (hf n : Int)) = ((n - hf n : Nat) : Int) from by omega)
      obtain ⟨R, hR⟩ : ∃ R, oneD leaf (i - hf n) (n - hf n) a path = R := ⟨_, rfl⟩
      rw [hR] at hx hask
      simp only [hR] at c1
      obtain ⟨r, b⟩ := R
      simp only at hask c1 hx
      have HAB := Lib.hid (show b ≤ 2 ^ 42 from by omega)
      have HC1 := Lib.hid c1
      rw [hx]
      obtain ⟨d, hd⟩ : ∃ d, nodeD (nx path b) r = d := ⟨_, rfl⟩
      have HDD := Lib.hid hd
      rw [hd]
      have HE2 := Lib.hid e2
      have dlo : decide ((i : Int) < (hf n : Int)) = false := decide_eq_false (by omega)
      have dlo' : decide (i < hf n) = false := decide_eq_false (by omega)
      clear c1 hx hR hask hd e2 hb hB1 hB2 hS ih hr hg0
      unfold dv nextF
      go_enter Tryd.func58, Tryd.ntmps58
      go_wp2_with (first | (refine wpList_alloc_zero rfl 31 rfl (zb 16) dg_zero ?_; rw [size_alloc]))
      refine (HH.out _).mono ?_
      rintro e w1 ⟨rfl, hw1⟩
      have H1 := Lib.hid (show Blk w1 w.heap.size 31 (dc leaf) from by rw [hw1]; exact H1.out)
      have H2 := Lib.hid (show Blk w1 (w.heap.size + 1) 31 (zb 16) from by rw [hw1]; exact H2.out)
      have HS := Lib.hid (show StN w0 A c path a w1 from by rw [hw1]; exact HS.out)
      have HT := Lib.hid (show Turn w.heap.size (w0.heap.size + 2) w w1 from by rw [hw1]; exact HT.out)
      have HZ := Lib.hid (show w.heap.size + 2 = w1.heap.size from by rw [hw1]; exact HE2.out)
      clear hw1 HE2
      go_wp2_with (refine wpList_load_all rfl _ (.tmp 4) rfl w.heap.size _ (dc leaf) _ rfl H1.out dg_under rfl (dd_size _) ?_)
      rw [HSUB.out, HSUB2.out]
      refine (HC1.out w1 HS.out).mono ?_
      rintro e w2 ⟨rfl, hN2, hT2⟩
      have HN2 := Lib.hid hN2
      have HT2 := Lib.hid (HT.out.trans (hT2.less (by have := HZ.out; omega)))
      have K2 := Lib.hid (hT2.blk H2.out H2.out.lt (by have := HBIG.out; omega))
      have HZ2 := Lib.hid (Nat.le_trans (Nat.le_of_eq HZ.out) hT2.1)
      clear hN2 hT2 HC1 H1 H2 HS HT HZ
      go_wp2_with (refine wpList_var rfl rfl 31 11 rfl rfl rfl (.tmp 37) rfl (zb 16) (dc r) dg_zero rfl rfl (dd_len _) (dd_size _) (dc_one _) ?_; intro w3 K3 D3)
      have HN3 := Lib.hid (HN2.out.next D3.out)
      have HT3 := Lib.hid (HT2.out.trans (Turn.below D3.out (by have := HZ2.out; omega)))
      have KR3 := Lib.hid (K2.out.next D3.out)
      have HZ3 := Lib.hid (show w2.heap.size ≤ w3.heap.size from D3.out.size)
      clear HN2 HT2 K2 D3
      refine wp_region_held_drew (S := HeldB w2.heap.size r) (by kernel_rfl) (show HeldB _ _ _ from K3.out.drew) (fun hS4 => ?_)
      have hN4 := HN3.out.drew
      have hT4 := HT3.out.trans (Turn.below (Below.refl _ _).drew (show w.heap.size ≤ w3.heap.size from by have := HZ2.out; have := HZ3.out; omega))
      have k4 := KR3.out.drew
      have z4 : w2.heap.size ≤ w3.drew.heap.size := HZ3.out
      have zz := HZ2.out
      have zb4 := HBIG.out
      generalize w3.drew = w4 at hS4 hN4 hT4 k4 z4 ⊢
      refine reg_takeG (i := 0) (some 38) rfl rfl rfl (by kernel_rfl) (by kernel_rfl) (by kernel_rfl) (nextF w0.heap.size) (fun _ _ _ h => h) (fun W hW => exec_move (.tmp 3) rfl _ rfl) hS4 ?_
      go_frame
      refine reg_takeG (i := 2) (some 40) rfl rfl rfl (by kernel_rfl) (by kernel_rfl) (by kernel_rfl) (dv r) (fun _ _ _ h => h) (fun W hW => exec_loadB (.tmp 11) rfl rfl hW) hS4 ?_
      go_frame
      refine reg_call_val (i := 1) (some 39) (.tmp 38) rfl rfl rfl (by kernel_rfl) rfl rfl next_func (by kernel_rfl) (by kernel_rfl) #[.pointer (some ⟨w0.heap.size + 2, 0, none⟩), .pointer (some ⟨w0.heap.size, 0, none⟩)] rfl (HN.out b w4 hN4 HR.out HAB.out) ?_
      rintro e w5 ⟨rfl, hN5, hT5⟩
      have hS5 : HeldB w2.heap.size r w5 := hT5.blk hS4 hS4.lt (by omega)
      refine ⟨_, rfl, hS5, ?_⟩
      go_frame
      refine reg_callG (i := 3) (some 41) rfl rfl rfl (by kernel_rfl) rfl Tryd.func19 (by kernel_rfl) (by kernel_rfl) #[dv (nx path b), dv r] rfl (node_any (nx path b) r w5 (HG.out.next hN5.1)) ?_
      rintro e w6 ⟨rfl, hb6⟩
      rw [HDD.out]
      have hS6 : HeldB w2.heap.size r w6 := hS5.next hb6
      refine ⟨_, rfl, hS6, ?_⟩
      go_frame
      have k5 : Blk w5 (w.heap.size + 1) 31 (zb 16) := hT5.blk k4 k4.lt (by omega)
      refine reg_store_all (i := 4) rfl rfl rfl (by kernel_rfl) 31 (.tmp 8) (.tmp 41) rfl (w.heap.size + 1) _ (zb 16) (dc d) rfl rfl (k5.next hb6) (dd_len _) (dd_size _) (dc_one _) ?_
      intro w7 hk7 ho7
      have hS7 : HeldB w2.heap.size r w7 := ho7.blk hS6 (by omega)
      refine ⟨hS7, wpAnyH_done (by kernel_rfl) ?_ _⟩
      go_frame
      have HF := Lib.hid ((hN5.next hb6).only ho7 (by omega))
      have HFT := Lib.hid (((hT4.trans (hT5.less (by omega))).trans (Turn.below hb6 (by have := hT5.1; omega))).trans (Turn.only ho7 (.inl (by omega))))
      have HK7 := Lib.hid hk7
      clear hS4 hN4 hT4 k4 z4 zz zb4 hN5 hT5 hS5 hb6 hS6 k5 hk7 ho7 hS7 HN3 HT3 KR3 HZ3 HZ2
      go_wp2
      exact bodyPost_ret (results_blk rfl _ _ (w.heap.size + 1) _ (dc d) _ rfl HK7.out dg_under rfl (dd_size _)) rfl ⟨rfl, HF.out, HFT.out⟩
end Go.Proofs.YtfbemmeonkceiaaDoor
