/- The reference's Inclusion and Consistency; both, with the program's. -/
import Derived.Test.YtfbemmeonkceiaaDoorKRr3
import Derived.Test.YtfbemmeonkceiaaDoorKWa
namespace Go.Proofs.YtfbemmeonkceiaaDoor
open Go.RowKit Hm Wm

def pac (v : Value) (e : Int) : List Value := [v, .int .i64 e]
theorem pa_size : (Tryd.prog.info? 28).map (·.size) = some 2 := by kernel_rfl
theorem pa_zero : (Tryd.prog.info? 28).map (·.zero) = some (some (.agg (pac (.slice none 0 0) 0).toArray)) := by kernel_rfl
theorem pac_one (A : Option Addr) (n c : Nat) (e : Int) : ∀ v ∈ pac (.slice A n c) e, v.oneCell' = true := by
  intro v hv
  unfold pac at hv
  simp at hv
  rcases hv with rfl | rfl <;> rfl
theorem run_pa_err (k : Int) (W : World) : (Instr.build 28 #[(1, .int .i64 k)]).run Tryd.prog W = .ok (.agg (pac (.slice none 0 0) k).toArray) W := by kernel_rfl
theorem run_pa (A : Option Addr) (n c : Nat) (W : World) : (Instr.build 28 #[(0, .slice A n c)]).run Tryd.prog W = .ok (.agg (pac (.slice A n c) 0).toArray) W := by kernel_rfl
theorem run_pa_0 (W : World) : (Instr.build 28 #[]).run Tryd.prog W = .ok (.agg (pac (.slice none 0 0) 0).toArray) W := by kernel_rfl
/-- The cells of digests are no cells of a path. -/
theorem RdD.pa {w w' : World} {A A' : Option Addr} {l : List Dg} {g : Nat} {e : Int} {n c : Nat} (h : RdD w A l) (hb : Blk w g 28 (pac (.slice A' n c) e)) (ho : Only g w w') : RdD w' A l := by
  intro hne
  obtain ⟨b, off, hA, hc⟩ := h hne
  refine ⟨b, off, hA, fun k u hu => ?_⟩
  have h1 := hc k u hu
  have hbg : b ≠ g := by
    rintro rfl
    obtain ⟨d, -, hd⟩ := List.mem_flatMap.1 (List.mem_of_getElem? hu)
    obtain ⟨x, -, rfl⟩ := List.mem_map.1 hd
    rw [hb.cell] at h1
    obtain ⟨m, hm⟩ : ∃ m, off + k = m := ⟨_, rfl⟩
    rw [hm] at h1
    rcases m with _ | _ | j
    · simp [pac] at h1
    · simp [pac] at h1
    · simp [pac] at h1
  rw [World.cell?_of_block (w := w) (ho.block b hbg)]; exact h1
theorem exec_build0 {oi : Oper} {a : Act} {w : World} (ty : TypeId) (ho : oi.op = .build ty #[]) (v : Value) (hl : (Instr.build ty #[]).run Tryd.prog w = .ok v w) : (execOp a.eval oi).run Tryd.prog w = .ok (.value v) w := by
  simp [execOp, ho, hl]

set_option maxRecDepth 100000 in
set_option maxHeartbeats 4000000 in
theorem rinclP_bad (l : List Dg) (A : Option Addr) (c : Nat) (i : Int) (w : World) (h : i < 0 ∨ (l.length : Int) ≤ i) :
    Calls Tryd.prog 12 #[.slice A l.length c, .int .i64 i] w fun e w' => e = .returned (.agg (pac (.slice none 0 0) 1).toArray) ∧ Below w.heap.size w w' := by
  have hb := (Below.refl w.heap.size w).alloc (Nat.le_refl _) (.cells (pac (.slice none 0 0) 0).toArray 28)
  have HK := Lib.hid (Blk.new w 28 (pac (.slice none 0 0) 0))
  have HB := Lib.hid hb
  clear hb
  by_cases h0 : i < 0
  all_goals
    first
      | (have d0 : decide (i < 0) = true := decide_eq_true h0
         clear h
         go_enter Tryd.func12, Tryd.ntmps12
         go_wp2_with (first | (refine wpList_alloc_zero rfl 28 rfl (pac (.slice none 0 0) 0) pa_zero ?_; generalize w.alloc (.cells (pac (.slice none 0 0) 0).toArray 28) = w1 at HK HB ⊢) | (refine wpList_run 13 rfl rfl _ (exec_build1 _ 1 (.const (.int .i64 1)) rfl _ _ rfl (run_pa_err 1 _)) ?_) | (refine wpList_store_all rfl _ (.tmp 4) (.tmp 13) rfl w.heap.size _ (pac (.slice none 0 0) 0) (pac (.slice none 0 0) 1) rfl rfl HK.out rfl pa_size (pac_one _ _ _ _) ?_; intro w3 HB3 ho3))
         exact bodyPost_ret (results_blk rfl _ _ w.heap.size _ (pac (.slice none 0 0) 1) _ rfl HB3.out Tryd.underlying28 rfl pa_size) rfl ⟨rfl, HB.out.trans (ho3.below (Nat.le_refl _))⟩)
      | (have d0 : decide (i < 0) = false := decide_eq_false h0
         have d1 : decide ((l.length : Int) ≤ i) = true := decide_eq_true (by omega)
         clear h
         go_enter Tryd.func12, Tryd.ntmps12
         go_wp2_with (first | (refine wpList_alloc_zero rfl 28 rfl (pac (.slice none 0 0) 0) pa_zero ?_; generalize w.alloc (.cells (pac (.slice none 0 0) 0).toArray 28) = w1 at HK HB ⊢) | (refine wpList_run 13 rfl rfl _ (exec_build1 _ 1 (.const (.int .i64 1)) rfl _ _ rfl (run_pa_err 1 _)) ?_) | (refine wpList_store_all rfl _ (.tmp 4) (.tmp 13) rfl w.heap.size _ (pac (.slice none 0 0) 0) (pac (.slice none 0 0) 1) rfl rfl HK.out rfl pa_size (pac_one _ _ _ _) ?_; intro w3 HB3 ho3))
         exact bodyPost_ret (results_blk rfl _ _ w.heap.size _ (pac (.slice none 0 0) 1) _ rfl HB3.out Tryd.underlying28 rfl pa_size) rfl ⟨rfl, HB.out.trans (ho3.below (Nat.le_refl _))⟩)

set_option maxRecDepth 100000 in
set_option maxHeartbeats 4000000 in
theorem rconsP_bad (l : List Dg) (A : Option Addr) (c : Nat) (i : Int) (w : World) (h : i < 0 ∨ (l.length : Int) < i) :
    Calls Tryd.prog 13 #[.slice A l.length c, .int .i64 i] w fun e w' => e = .returned (.agg (pac (.slice none 0 0) 1).toArray) ∧ Below w.heap.size w w' := by
  have hb := (Below.refl w.heap.size w).alloc (Nat.le_refl _) (.cells (pac (.slice none 0 0) 0).toArray 28)
  have HK := Lib.hid (Blk.new w 28 (pac (.slice none 0 0) 0))
  have HB := Lib.hid hb
  clear hb
  by_cases h0 : i < 0
  all_goals
    first
      | (have d0 : decide (i < 0) = true := decide_eq_true h0
         clear h
         go_enter Tryd.func13, Tryd.ntmps13
         go_wp2_with (first | (refine wpList_alloc_zero rfl 28 rfl (pac (.slice none 0 0) 0) pa_zero ?_; generalize w.alloc (.cells (pac (.slice none 0 0) 0).toArray 28) = w1 at HK HB ⊢) | (refine wpList_run 13 rfl rfl _ (exec_build1 _ 1 (.const (.int .i64 1)) rfl _ _ rfl (run_pa_err 1 _)) ?_) | (refine wpList_store_all rfl _ (.tmp 4) (.tmp 13) rfl w.heap.size _ (pac (.slice none 0 0) 0) (pac (.slice none 0 0) 1) rfl rfl HK.out rfl pa_size (pac_one _ _ _ _) ?_; intro w3 HB3 ho3))
         exact bodyPost_ret (results_blk rfl _ _ w.heap.size _ (pac (.slice none 0 0) 1) _ rfl HB3.out Tryd.underlying28 rfl pa_size) rfl ⟨rfl, HB.out.trans (ho3.below (Nat.le_refl _))⟩)
      | (have d0 : decide (i < 0) = false := decide_eq_false h0
         have d1 : decide ((l.length : Int) < i) = true := decide_eq_true (by omega)
         clear h
         go_enter Tryd.func13, Tryd.ntmps13
         go_wp2_with (first | (refine wpList_alloc_zero rfl 28 rfl (pac (.slice none 0 0) 0) pa_zero ?_; generalize w.alloc (.cells (pac (.slice none 0 0) 0).toArray 28) = w1 at HK HB ⊢) | (refine wpList_run 13 rfl rfl _ (exec_build1 _ 1 (.const (.int .i64 1)) rfl _ _ rfl (run_pa_err 1 _)) ?_) | (refine wpList_store_all rfl _ (.tmp 4) (.tmp 13) rfl w.heap.size _ (pac (.slice none 0 0) 0) (pac (.slice none 0 0) 1) rfl rfl HK.out rfl pa_size (pac_one _ _ _ _) ?_; intro w3 HB3 ho3))
         exact bodyPost_ret (results_blk rfl _ _ w.heap.size _ (pac (.slice none 0 0) 1) _ rfl HB3.out Tryd.underlying28 rfl pa_size) rfl ⟨rfl, HB.out.trans (ho3.below (Nat.le_refl _))⟩)

set_option maxRecDepth 100000 in
set_option maxHeartbeats 4000000 in
theorem rinclP_any (l : List Dg) (A : Option Addr) (c i : Nat) (w : World) (hg : All w) (hr : RdD w A l) (hc : l.length ≤ c) (hn : l.length ≤ 1000) (hi : i < l.length) :
    Calls Tryd.prog 12 #[.slice A l.length c, .int .i64 i] w fun e w' => ∃ v, e = .returned (.agg (pac v 0).toArray) ∧ NewD w' (inclD l i) v ∧ Below w.heap.size w w' := by
  have hb := (Below.refl w.heap.size w).alloc (Nat.le_refl _) (.cells (pac (.slice none 0 0) 0).toArray 28)
  have HK := Lib.hid (Blk.new w 28 (pac (.slice none 0 0) 0))
  have HB := Lib.hid hb
  have d0 : decide ((i : Int) < 0) = false := decide_eq_false (by omega)
  have d1 : decide ((l.length : Int) ≤ (i : Int)) = false := decide_eq_false (by omega)
  have d2 : decide (l.length ≤ i) = false := decide_eq_false (by omega)
  have HC := Lib.hid (fun W (h1 : All W) (h2 : RdD W A l) => rincl_any l.length l i A c W (Nat.le_refl _) hi hc hn h1.2.2 h2)
  have HG := Lib.hid (hg.next hb)
  have HR := Lib.hid (hr.below hb)
  clear hb hg hr
  go_enter Tryd.func12, Tryd.ntmps12
  go_wp2_with (refine wpList_alloc_zero rfl 28 rfl (pac (.slice none 0 0) 0) pa_zero ?_; generalize w.alloc (.cells (pac (.slice none 0 0) 0).toArray 28) = w1 at HK HB HG HR ⊢)
  refine (HC.out _ HG.out HR.out).mono ?_
  rintro e w2 ⟨r, rfl, ⟨A5, c5, rfl, h5, hc5⟩, hb2⟩
  have HR5 := Lib.hid h5
  have HCC := Lib.hid hc5
  replace HK := Lib.hid (HK.out.next hb2)
  replace HB := Lib.hid (HB.out.trans (hb2.mono HB.out.size))
  clear hb2 h5 hc5
  go_wp2_with (first | (refine wpList_run 17 rfl rfl _ (exec_build1 _ 0 (.tmp 16) rfl (.slice A5 (inclD l i).length c5) _ rfl (run_pa _ _ _ _)) ?_) | (refine wpList_store_all rfl _ (.tmp 4) (.tmp 17) rfl w.heap.size _ (pac (.slice none 0 0) 0) (pac (.slice A5 (inclD l i).length c5) 0) rfl rfl HK.out rfl pa_size (pac_one _ _ _ _) ?_; intro w3 HB3 ho3))
  exact bodyPost_ret (results_blk rfl _ _ w.heap.size _ (pac (.slice A5 (inclD l i).length c5) 0) _ rfl HB3.out Tryd.underlying28 rfl pa_size) rfl ⟨_, rfl, ⟨A5, c5, rfl, HR5.out.pa HK.out ho3, HCC.out⟩, HB.out.trans (ho3.below (Nat.le_refl _))⟩

set_option maxRecDepth 100000 in
set_option maxHeartbeats 4000000 in
theorem rconsP_none (l : List Dg) (A : Option Addr) (c m : Nat) (w : World) (hm : m = 0 ∨ m = l.length) :
    Calls Tryd.prog 13 #[.slice A l.length c, .int .i64 m] w fun e w' => e = .returned (.agg (pac (.slice none 0 0) 0).toArray) ∧ Below w.heap.size w w' := by
  have hb := (Below.refl w.heap.size w).alloc (Nat.le_refl _) (.cells (pac (.slice none 0 0) 0).toArray 28)
  have HK := Lib.hid (Blk.new w 28 (pac (.slice none 0 0) 0))
  have HB := Lib.hid hb
  clear hb
  have d0 : decide ((m : Int) < 0) = false := decide_eq_false (by omega)
  have d1 : decide ((l.length : Int) < (m : Int)) = false := decide_eq_false (by omega)
  have d1' : decide (l.length < m) = false := decide_eq_false (by omega)
  by_cases h0 : m = 0
  case pos =>
    have d2 : ((m : Int) == 0) = true := by rw [h0]; rfl
    clear hm h0
    go_enter Tryd.func13, Tryd.ntmps13
    go_wp2_with (first | (refine wpList_alloc_zero rfl 28 rfl (pac (.slice none 0 0) 0) pa_zero ?_; generalize w.alloc (.cells (pac (.slice none 0 0) 0).toArray 28) = w1 at HK HB ⊢) | (refine wpList_run 22 rfl rfl _ (exec_build0 _ rfl _ (run_pa_0 _)) ?_) | (refine wpList_store_all rfl _ (.tmp 4) (.tmp 22) rfl w.heap.size _ (pac (.slice none 0 0) 0) (pac (.slice none 0 0) 0) rfl rfl HK.out rfl pa_size (pac_one _ _ _ _) ?_; intro w3 HB3 ho3))
    exact bodyPost_ret (results_blk rfl _ _ w.heap.size _ (pac (.slice none 0 0) 0) _ rfl HB3.out Tryd.underlying28 rfl pa_size) rfl ⟨rfl, HB.out.trans (ho3.below (Nat.le_refl _))⟩
  case neg =>
    have d2 : ((m : Int) == 0) = false := by rw [beq_eq_false_iff_ne]; omega
    have d2' : (m == 0) = false := by rw [beq_eq_false_iff_ne]; omega
    have d3 : ((m : Int) == (l.length : Int)) = true := by rw [beq_iff_eq]; omega
    clear hm h0
    go_enter Tryd.func13, Tryd.ntmps13
    go_wp2_with (first | (refine wpList_alloc_zero rfl 28 rfl (pac (.slice none 0 0) 0) pa_zero ?_; generalize w.alloc (.cells (pac (.slice none 0 0) 0).toArray 28) = w1 at HK HB ⊢) | (refine wpList_run 22 rfl rfl _ (exec_build0 _ rfl _ (run_pa_0 _)) ?_) | (refine wpList_store_all rfl _ (.tmp 4) (.tmp 22) rfl w.heap.size _ (pac (.slice none 0 0) 0) (pac (.slice none 0 0) 0) rfl rfl HK.out rfl pa_size (pac_one _ _ _ _) ?_; intro w3 HB3 ho3))
    exact bodyPost_ret (results_blk rfl _ _ w.heap.size _ (pac (.slice none 0 0) 0) _ rfl HB3.out Tryd.underlying28 rfl pa_size) rfl ⟨rfl, HB.out.trans (ho3.below (Nat.le_refl _))⟩

set_option maxRecDepth 100000 in
set_option maxHeartbeats 4000000 in
theorem rconsP_any (l : List Dg) (A : Option Addr) (c m : Nat) (w : World) (hg : All w) (hr : RdD w A l) (hc : l.length ≤ c) (hn : l.length ≤ 1000) (h1 : 1 ≤ m) (hm : m < l.length) :
    Calls Tryd.prog 13 #[.slice A l.length c, .int .i64 m] w fun e w' => ∃ v, e = .returned (.agg (pac v 0).toArray) ∧ NewD w' (consD l m true) v ∧ Below w.heap.size w w' := by
  have hb := (Below.refl w.heap.size w).alloc (Nat.le_refl _) (.cells (pac (.slice none 0 0) 0).toArray 28)
  have HK := Lib.hid (Blk.new w 28 (pac (.slice none 0 0) 0))
  have HB := Lib.hid hb
  have d0 : decide ((m : Int) < 0) = false := decide_eq_false (by omega)
  have d1 : decide ((l.length : Int) < (m : Int)) = false := decide_eq_false (by omega)
  have d1' : decide (l.length < m) = false := decide_eq_false (by omega)
  have d2 : ((m : Int) == 0) = false := by rw [beq_eq_false_iff_ne]; omega
  have d2' : (m == 0) = false := by rw [beq_eq_false_iff_ne]; omega
  have d3 : ((m : Int) == (l.length : Int)) = false := by rw [beq_eq_false_iff_ne]; omega
  have d3' : (m == l.length) = false := by rw [beq_eq_false_iff_ne]; omega
  have HC := Lib.hid (fun W (h1' : All W) (h2 : RdD W A l) => rcons_any l.length l m true A c W (Nat.le_refl _) h1 (by omega) hc hn h1'.2.2 h2)
  have HG := Lib.hid (hg.next hb)
  have HR := Lib.hid (hr.below hb)
  clear hb hg hr
  go_enter Tryd.func13, Tryd.ntmps13
  go_wp2_with (refine wpList_alloc_zero rfl 28 rfl (pac (.slice none 0 0) 0) pa_zero ?_; generalize w.alloc (.cells (pac (.slice none 0 0) 0).toArray 28) = w1 at HK HB HG HR ⊢)
  refine (HC.out _ HG.out HR.out).mono ?_
  rintro e w2 ⟨r, rfl, ⟨A5, c5, rfl, h5, hc5⟩, hb2⟩
  have HR5 := Lib.hid h5
  have HCC := Lib.hid hc5
  replace HK := Lib.hid (HK.out.next hb2)
  replace HB := Lib.hid (HB.out.trans (hb2.mono HB.out.size))
  clear hb2 h5 hc5
  go_wp2_with (first | (refine wpList_run 26 rfl rfl _ (exec_build1 _ 0 (.tmp 25) rfl (.slice A5 (consD l m true).length c5) _ rfl (run_pa _ _ _ _)) ?_) | (refine wpList_store_all rfl _ (.tmp 4) (.tmp 26) rfl w.heap.size _ (pac (.slice none 0 0) 0) (pac (.slice A5 (consD l m true).length c5) 0) rfl rfl HK.out rfl pa_size (pac_one _ _ _ _) ?_; intro w3 HB3 ho3))
  exact bodyPost_ret (results_blk rfl _ _ w.heap.size _ (pac (.slice A5 (consD l m true).length c5) 0) _ rfl HB3.out Tryd.underlying28 rfl pa_size) rfl ⟨_, rfl, ⟨A5, c5, rfl, HR5.out.pa HK.out ho3, HCC.out⟩, HB.out.trans (ho3.below (Nat.le_refl _))⟩

theorem incl_both (l : List Dg) (A : Option Addr) (c : Nat) (i : Int) (hc : l.length ≤ c) (hn : l.length ≤ 40) : ∃ (T : List Dg) (e : Int), T.length ≤ 1000 ∧
    (∀ w, All w → RdD w A l → Calls Tryd.prog 10 #[.slice A l.length c, .int .i64 i] w fun r w' => ∃ v, r = .returned (.tuple #[v, .int .i64 e]) ∧ NewD w' T v ∧ Below w.heap.size w w') ∧
    (∀ w, All w → RdD w A l → Calls Tryd.prog 12 #[.slice A l.length c, .int .i64 i] w fun r w' => ∃ v, r = .returned (.agg (pac v e).toArray) ∧ NewD w' T v ∧ Below w.heap.size w w') := by
  by_cases h : i < 0 ∨ (l.length : Int) ≤ i
  · refine ⟨[], 1, by simp, fun w _ _ => (incl_bad l A c i w h).mono ?_, fun w _ _ => (rinclP_bad l A c i w h).mono ?_⟩
    · rintro r w' ⟨rfl, rfl⟩; exact ⟨_, rfl, ⟨none, 0, rfl, Rd.nil _ _, Nat.le_refl _⟩, Below.refl _ _⟩
    · rintro r w' ⟨rfl, hb⟩; exact ⟨_, rfl, ⟨none, 0, rfl, Rd.nil _ _, Nat.le_refl _⟩, hb⟩
  · obtain ⟨k, rfl⟩ := Int.eq_ofNat_of_zero_le (show 0 ≤ i by omega)
    have := inclD_len l k
    exact ⟨inclD l k, 0, by omega, fun w hg hr => incl_any l A c k w hg.1 hr hc (by omega) (by omega), fun w hg hr => rinclP_any l A c k w hg hr hc (by omega) (by omega)⟩
theorem cons_both (l : List Dg) (A : Option Addr) (c : Nat) (i : Int) (hc : l.length ≤ c) (hn : l.length ≤ 40) : ∃ (T : List Dg) (e : Int), T.length ≤ 1000 ∧
    (∀ w, All w → RdD w A l → Calls Tryd.prog 11 #[.slice A l.length c, .int .i64 i] w fun r w' => ∃ v, r = .returned (.tuple #[v, .int .i64 e]) ∧ NewD w' T v ∧ Below w.heap.size w w') ∧
    (∀ w, All w → RdD w A l → Calls Tryd.prog 13 #[.slice A l.length c, .int .i64 i] w fun r w' => ∃ v, r = .returned (.agg (pac v e).toArray) ∧ NewD w' T v ∧ Below w.heap.size w w') := by
  by_cases h : i < 0 ∨ (l.length : Int) < i
  · refine ⟨[], 1, by simp, fun w _ _ => (cons_bad l A c i w h).mono ?_, fun w _ _ => (rconsP_bad l A c i w h).mono ?_⟩
    · rintro r w' ⟨rfl, rfl⟩; exact ⟨_, rfl, ⟨none, 0, rfl, Rd.nil _ _, Nat.le_refl _⟩, Below.refl _ _⟩
    · rintro r w' ⟨rfl, hb⟩; exact ⟨_, rfl, ⟨none, 0, rfl, Rd.nil _ _, Nat.le_refl _⟩, hb⟩
  · obtain ⟨k, rfl⟩ := Int.eq_ofNat_of_zero_le (show 0 ≤ i by omega)
    by_cases h0 : k = 0 ∨ k = l.length
    · refine ⟨[], 0, by simp, fun w hg hr => (consP_any l A c k w hg hr hc hn (by omega)).mono ?_, fun w _ _ => (rconsP_none l A c k w h0).mono ?_⟩
      · rintro r w' ⟨v, rfl, hN, hb⟩
        refine ⟨v, rfl, ?_, hb⟩
        have e : pathC l k = [] := by
          unfold pathC
          rcases h0 with rfl | rfl
          · rfl
          · by_cases hz : l.length = 0
            · rw [if_pos hz]
            · rw [if_neg hz, consD_all]
        rw [← e]; exact hN
      · rintro r w' ⟨rfl, hb⟩; exact ⟨_, rfl, ⟨none, 0, rfl, Rd.nil _ _, Nat.le_refl _⟩, hb⟩
    · have := consD_len l k true (by omega) (by omega)
      refine ⟨consD l k true, 0, by omega, fun w hg hr => ?_, fun w hg hr => rconsP_any l A c k w hg hr hc (by omega) (by omega) (by omega)⟩
      exact cons_any l A c k w hg.1 hr hc (by omega) (by omega) (by omega)
end Go.Proofs.YtfbemmeonkceiaaDoor
