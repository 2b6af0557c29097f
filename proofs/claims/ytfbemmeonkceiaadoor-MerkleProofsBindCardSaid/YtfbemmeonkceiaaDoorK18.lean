/- Contracts of merkle's rootFromMany and CheckMany. -/
import Derived.Test.YtfbemmeonkceiaaDoorK17
namespace Go.Proofs.YtfbemmeonkceiaaDoor
open Go.RowKit Hm Wm

/-- What a call of rootFromMany keeps: its result's variable, and how far the path is read. -/
def FrM (w0 : World) (A : Option Addr) (c : Nat) (path : List Dg) (w : World) (a : Nat) (x : List Value) (W : World) : Prop :=
  StN w0 A c path a W ∧ Turn w.heap.size (w0.heap.size + 2) w W ∧ Blk W w.heap.size 31 x ∧ w0.heap.size + 3 ≤ w.heap.size
section
variable {w0 w W W' : World} {A : Option Addr} {c a a' : Nat} {path : List Dg} {x z : List Value}
theorem FrM.big (h : FrM w0 A c path w a x W) : w.heap.size + 1 ≤ W.heap.size := h.2.2.1.lt
theorem FrM.next (h : FrM w0 A c path w a x W) (hb : Below W.heap.size W W') : FrM w0 A c path w a x W' :=
  ⟨h.1.next hb, h.2.1.trans (Turn.below hb (by have := h.big; omega)), h.2.2.1.next hb, h.2.2.2⟩
theorem FrM.turn (h : FrM w0 A c path w a x W) (hs : StN w0 A c path a' W') (ht : Turn W.heap.size (w0.heap.size + 2) W W') : FrM w0 A c path w a' x W' := by
  have hb := h.big
  obtain ⟨h1, h2, h3, h6⟩ := h
  exact ⟨hs, h2.trans (ht.less (by omega)), ht.blk h3 h3.lt (by omega), h6⟩
theorem FrM.set (h : FrM w0 A c path w a x W) (hk : Blk W' w.heap.size 31 z) (ho : Only w.heap.size W W') : FrM w0 A c path w a z W' := by
  obtain ⟨h1, h2, h3, h6⟩ := h
  exact ⟨h1.only ho (by omega), h2.trans (Turn.only ho (.inl (Nat.le_refl _))), hk, h6⟩
theorem FrM.begin (hS : StN w0 A c path a w) : FrM w0 A c path w a (zb 16) (w.alloc (.cells (zb 16).toArray 31)) := by
  have hb := (Below.refl w.heap.size w).alloc (Nat.le_refl _) (.cells (zb 16).toArray 31)
  exact ⟨hS.next hb, Turn.below hb (Nat.le_refl _), Blk.new w 31 (zb 16), hS.big⟩
end
theorem FrM.drewN {w0 w W : World} {A : Option Addr} {c a : Nat} {path : List Dg} {x : List Value} (h : FrM w0 A c path w a x W) (n : Nat) : FrM w0 A c path w a x (W.drewN n) := h.next (drewN_below (Below.refl _ _) n)

set_option maxRecDepth 100000 in
set_option maxHeartbeats 1000000 in
theorem mw_zero (w0 : World) (hg0 : Glob w0) (A : Option Addr) (c : Nat) (path : List Dg) (fr : Int) (a : Nat) (P R X : Value) (w : World) (hS : StN w0 A c path a w) :
    Calls Tryd.prog 49 #[.int .i64 fr, .int .i64 0, P, R, X] w fun e w' => e = .returned (dv emptyD) ∧ StN w0 A c path a w' ∧ Turn w.heap.size (w0.heap.size + 2) w w' := by
  have HF := Lib.hid (FrM.begin hS)
  have HG := Lib.hid hg0
  clear hS hg0
  go_enter Tryd.func49, Tryd.ntmps49
  go_wp2_with (first | (refine wpList_alloc_zero rfl 31 rfl (zb 16) dg_zero ?_; try rw [size_alloc]))
  refine (root_none none 0 _ (HG.out.next HF.out.1.1)).mono ?_
  rintro e w2 ⟨rfl, hb2⟩
  rw [rootD_nil]
  have HF2 := Lib.hid (HF.out.next hb2)
  clear hb2 HF
  go_wp2_with (refine wpList_store_all rfl _ (.tmp 10) (.tmp 23) rfl w.heap.size _ (zb 16) (dc emptyD) rfl rfl HF2.out.2.2.1 (dd_len _) (dd_size _) (dc_one _) ?_; intro w3 hk3 ho3; have HZ := Lib.hid (HF2.out.set hk3.out ho3); clear hk3 ho3 HF2)
  exact bodyPost_ret (results_blk rfl _ _ w.heap.size _ (dc emptyD) _ rfl HZ.out.2.2.1 dg_under rfl (dd_size _)) rfl ⟨rfl, HZ.out.1, HZ.out.2.1⟩

set_option maxRecDepth 100000 in
set_option maxHeartbeats 1000000 in
theorem mw_none (w0 : World) (A : Option Addr) (c : Nat) (path : List Dg) (hr : RdD w0 A path) (fr : Int) (n a : Nat) (hn : 1 ≤ n) (ha : a ≤ 2 ^ 42) (A2 : Option Addr) (c2 : Nat) (R : Value) (w : World) (hS : StN w0 A c path a w) :
    Calls Tryd.prog 49 #[.int .i64 fr, .int .i64 n, .slice A2 0 c2, R, nextF w0.heap.size] w fun e w' => e = .returned (dv (nx path a)) ∧ StN w0 A c path (a + 1) w' ∧ Turn w.heap.size (w0.heap.size + 2) w w' := by
  have HF := Lib.hid (FrM.begin hS)
  have HN := Lib.hid (fun w' hS' => next_any w0 A c path a w' hS' hr ha)
  obtain ⟨x, hx⟩ : ∃ x, nx path a = x := ⟨_, rfl⟩
  have HX := Lib.hid hx
  rw [hx]
  have n0 : ((n : Int) == 0) = false := by rw [beq_eq_false_iff_ne]; omega
  have n1 : (n == 0) = false := by rw [beq_eq_false_iff_ne]; omega
  clear hx hS hr
  unfold nextF
  go_enter Tryd.func49, Tryd.ntmps49
  go_wp2_with (first | (refine wpList_alloc_zero rfl 31 rfl (zb 16) dg_zero ?_; try rw [size_alloc]))
  refine (HN.out _ HF.out.1).mono ?_
  rintro e w2 ⟨rfl, hN2, hT2⟩
  rw [HX.out]
  have HF2 := Lib.hid (HF.out.turn hN2 hT2)
  clear hN2 hT2 HF
  go_wp2_with (refine wpList_store_all rfl _ (.tmp 10) (.tmp 29) rfl w.heap.size _ (zb 16) (dc x) rfl rfl HF2.out.2.2.1 (dd_len _) (dd_size _) (dc_one _) ?_; intro w3 hk3 ho3; have HZ := Lib.hid (HF2.out.set hk3.out ho3); clear hk3 ho3 HF2)
  exact bodyPost_ret (results_blk rfl _ _ w.heap.size _ (dc x) _ rfl HZ.out.2.2.1 dg_under rfl (dd_size _)) rfl ⟨rfl, HZ.out.1, HZ.out.2.1⟩

set_option maxRecDepth 100000 in
set_option maxHeartbeats 1000000 in
theorem mw_one (w0 : World) (A : Option Addr) (c : Nat) (path : List Dg) (fr : Int) (a : Nat) (p : Nat) (hp : p ≠ 0) (A2 : Option Addr) (c2 : Nat) (A3 : Option Addr) (c3 : Nat) (d : Dg) (r : List Dg) (hr3 : RdD w0 A3 (d :: r)) (X : Value) (w : World) (hS : StN w0 A c path a w) :
    Calls Tryd.prog 49 #[.int .i64 fr, .int .i64 1, .slice A2 p c2, .slice A3 (d :: r).length c3, X] w fun e w' => e = .returned (dv d) ∧ StN w0 A c path a w' ∧ Turn w.heap.size (w0.heap.size + 2) w w' := by
  have HF := Lib.hid (FrM.begin hS)
  obtain ⟨b, off, rfl, hc⟩ := (hr3.below HF.out.1.1).range (k := 0) (by simp)
  rw [Nat.zero_mul, Nat.add_zero] at hc
  have HC : Hid (World.rangeAt (w.alloc (.cells (zb 16).toArray 31)) b off (dc d)) := hc
  have n0 : ((p : Int) == 0) = false := by rw [beq_eq_false_iff_ne]; omega
  have n1 : (p == 0) = false := by rw [beq_eq_false_iff_ne]; omega
  obtain ⟨k, hk⟩ : ∃ k, (d :: r).length = k := ⟨_, rfl⟩
  have hk0 : 0 < k := by rw [← hk]; simp
  rw [hk]
  clear hc hS hr3 hk
  go_enter Tryd.func49, Tryd.ntmps49
  go_wp2_with (first | (refine wpList_alloc_zero rfl 31 rfl (zb 16) dg_zero ?_; try rw [size_alloc]) | (refine wpList_loadD rfl (.tmp 34) rfl b off rfl d HC.out ?_) | (refine wpList_store_all rfl _ (.tmp 10) (.tmp 35) rfl w.heap.size _ (zb 16) (dc d) rfl rfl HF.out.2.2.1 (dd_len _) (dd_size _) (dc_one _) ?_; intro w3 hk3 ho3; have HZ := Lib.hid (HF.out.set hk3.out ho3); clear hk3 ho3 HF))
  exact bodyPost_ret (results_blk rfl _ _ w.heap.size _ (dc d) _ rfl HZ.out.2.2.1 dg_under rfl (dd_size _)) rfl ⟨rfl, HZ.out.1, HZ.out.2.1⟩

set_option maxRecDepth 100000 in
set_option maxHeartbeats 1000000 in
theorem mw_any (w0 : World) (hg0 : Glob w0) (A : Option Addr) (c : Nat) (path : List Dg) (hr : RdD w0 A path) (k : Nat) : ∀ (fr : Int) (n : Nat) (ps : List Int) (fs : List Dg) (a : Nat) (A2 : Option Addr) (c2 : Nat) (A3 : Option Addr) (c3 : Nat) (w : World), n ≤ k → n ≤ 2 ^ 41 → a + n ≤ 2 ^ 42 → fs.length = ps.length → ps.length ≤ c2 → ps.length ≤ 2 ^ 41 → fs.length ≤ c3 →
    RdI w0 A2 ps → RdD w0 A3 fs → ps.Pairwise (· < ·) → 0 ≤ fr → fr + n ≤ 2 ^ 42 → StN w0 A c path a w →
    Calls Tryd.prog 49 #[.int .i64 fr, .int .i64 n, .slice A2 ps.length c2, .slice A3 fs.length c3, nextF w0.heap.size] w fun e w' => e = .returned (dv (wlkD fr n ps fs a path).1) ∧ StN w0 A c path (wlkD fr n ps fs a path).2 w' ∧ Turn w.heap.size (w0.heap.size + 2) w w' := by
  induction k with
  | zero =>
    intro fr n ps fs a A2 c2 A3 c3 w hk _ _ _ _ _ _ _ _ _ _ _ hS
    obtain rfl : n = 0 := by omega
    rw [wlkD_zero]
    exact mw_zero w0 hg0 A c path fr a _ _ _ w hS
  | succ k ih =>
    intro fr n ps fs a A2 c2 A3 c3 w hk hn ha hfp hc2 hn2 hc3 hi hr3 hs hf0 hf1 hS
    by_cases h0 : n = 0
    · subst h0
      rw [wlkD_zero]
      exact mw_zero w0 hg0 A c path fr a _ _ _ w hS
    by_cases hpn : ps = []
    · subst hpn
      rw [wlkD_none fr fs a path (by omega)]
      exact mw_none w0 A c path hr fr n a (by omega) (by omega) A2 c2 _ w hS
    have hpl : ps.length ≠ 0 := fun h => hpn (List.eq_nil_of_length_eq_zero h)
    by_cases h1 : n = 1
    · subst h1
      rw [wlkD_one fr fs a path hpn]
      rcases fs with _ | ⟨d, r⟩
      · simp at hfp; omega
      · exact mw_one w0 A c path fr a _ hpl A2 c2 A3 c3 d r hr3 _ w hS
    have h2 : 2 ≤ n := by omega
    have hlt := hf_lt h2
    have hpos := hf_pos n
    have hcut := sorted_cut (fr + hf n) ps hs
    have hat : ps.countP (· < fr + hf n) ≤ ps.length := List.countP_le_length
    have HB := Lib.hid (fun (w' : World) (hr' : RdI w' A2 ps) => before_any A2 c2 ps (fr + hf n) w' hr' hpn hn2 hs)
    have hx := wlkD_two fr fs a path h2 hpn
    rw [← hcut.1, ← hcut.2] at hx
    obtain ⟨at_, ha_⟩ : ∃ at_, ps.countP (· < fr + hf n) = at_ := ⟨_, rfl⟩
    rw [ha_] at hcut hat HB hx
    have e3 : (ps.take at_).length = at_ := by rw [List.length_take]; omega
    have e4 : (ps.drop at_).length = ps.length - at_ := List.length_drop
    have e5 : (fs.take at_).length = at_ := by rw [List.length_take]; omega
    have e6 : (fs.drop at_).length = fs.length - at_ := List.length_drop
    rw [e3] at hx
    have HCI := Lib.hid (fun w' => cutI_any A2 ps.length c2 at_ w' hat hc2)
    have HCD := Lib.hid (fun w' => cut_any A3 fs.length c3 at_ w' (by omega) hc3)
    have HH := Lib.hid (fun w' => half_any n w' h2 hn)
    have c1 := fun (w' : World) => ih fr (hf n) (ps.take at_) (fs.take at_) a A2 at_ A3 at_ w' (by omega) (by omega) (by omega) (by omega) (by omega) (by omega) (by omega) (hi.take _) (hr3.take _) (hs.sublist (List.take_sublist _ _)) hf0 (by omega)
    have hask := wlkD_asks path k (hf n) fr (ps.take at_) (fs.take at_) a (by omega)
    rw [e3, e5] at c1
    obtain ⟨R, hR⟩ : ∃ R, wlkD fr (hf n) (ps.take at_) (fs.take at_) a path = R := ⟨_, rfl⟩
    rw [hR] at hx hask
    simp only [hR] at c1
    obtain ⟨r1, b1⟩ := R
    simp only at hask c1 hx
    have c2' := fun (w' : World) => ih (fr + hf n) (n - hf n) (ps.drop at_) (fs.drop at_) b1 (iA A2 ps.length at_) (ps.length - at_) (dA A3 fs.length at_) (fs.length - at_) w' (by omega) (by omega) (by omega) (by omega) (by omega) (by omega) (by omega) (hi.drop _) (hr3.drop _) (hs.sublist (List.drop_sublist _ _)) (by omega) (by omega)
    rw [e4, e6] at c2'
    obtain ⟨R, hR⟩ : ∃ R, wlkD (fr + hf n) (n - hf n) (ps.drop at_) (fs.drop at_) b1 path = R := ⟨_, rfl⟩
    rw [hR] at hx
    simp only [hR] at c2'
    obtain ⟨r2, b2⟩ := R
    simp only at c2' hx
    rw [hx]
    have HC1 := Lib.hid c1
    have HC2 := Lib.hid c2'
    have HI := Lib.hid hi
    have HG := Lib.hid hg0
    have HF := Lib.hid (FrM.begin hS)
    have HSUB := Lib.hid (show ((n : Int) - (hf n : Int)) = ((n - hf n : Nat) : Int) from by omega)
    obtain ⟨d, hd⟩ : ∃ d, nodeD r1 r2 = d := ⟨_, rfl⟩
    have HDD := Lib.hid hd
    simp only [hd]
    have n0 : (n == 0) = false := by rw [beq_eq_false_iff_ne]; omega
    have m0 : ((n : Int) == 0) = false := by rw [beq_eq_false_iff_ne]; omega
    have n1 : (n == 1) = false := by rw [beq_eq_false_iff_ne]; omega
    have m1 : ((n : Int) == 1) = false := by rw [beq_eq_false_iff_ne]; omega
    have p0 : (ps.length == 0) = false := by rw [beq_eq_false_iff_ne]; omega
    have q0 : ((ps.length : Int) == 0) = false := by rw [beq_eq_false_iff_ne]; omega
    have hb0 : 0 ≤ fr + (hf n : Int) := by omega
    have hb1 : fr + (hf n : Int) ≤ 4398046511104 := by omega
    clear ih hr hS c1 c2' hx hpos e3 e4 e5 e6 hcut ha_ hpl hpn hs hi hr3 hR hask hd hg0 hfp
    unfold nextF
    go_enter Tryd.func49, Tryd.ntmps49
    go_wp2_with (first | (refine wpList_alloc_zero rfl 31 rfl (zb 16) dg_zero ?_; try rw [size_alloc]))
    refine (HH.out _).mono ?_
    rintro e w1 ⟨rfl, hw1⟩
    have HF1 := Lib.hid (show FrM w0 A c path w a (zb 16) w1 from by rw [hw1]; exact HF.out)
    clear hw1 HF
    go_wp2_with fail
    refine (HB.out _ (HI.out.below HF1.out.1.1)).mono ?_
    rintro e w2 ⟨rfl, qe, hq⟩
    have HF2 := Lib.hid (show FrM w0 A c path w a (zb 16) w2 from by rw [hq]; exact HF1.out.drewN qe)
    clear hq HF1
    go_wp2_with fail
    refine (HCI.out _).mono ?_
    rintro e w3 ⟨rfl, qf, hq⟩
    have HF3 := Lib.hid (show FrM w0 A c path w a (zb 16) w3 from by rw [hq]; exact HF2.out.drewN qf)
    clear hq HF2
    go_wp2_with fail
    refine (HCD.out _).mono ?_
    rintro e w4 ⟨rfl, qg, hq⟩
    have HF4 := Lib.hid (show FrM w0 A c path w a (zb 16) w4 from by rw [hq]; exact HF3.out.drewN qg)
    clear hq HF3
    go_wp2_with fail
    refine (HC1.out w4 HF4.out.1).mono ?_
    rintro e w5 ⟨rfl, hN5, hT5⟩
    have HF5 := Lib.hid (HF4.out.turn hN5 hT5)
    clear hN5 hT5 HF4 HC1
    go_wp2_with (refine wpList_var rfl rfl 31 18 rfl rfl rfl (.tmp 61) rfl (zb 16) (dc r1) dg_zero rfl rfl (dd_len _) (dd_size _) (dc_one _) ?_; intro w6 K6 D6; have HF6 := Lib.hid (HF5.out.next D6.out); clear D6)
    rw [HSUB.out]
    refine (HC2.out w6 HF6.out.1).mono ?_
    rintro e w7 ⟨rfl, hN7, hT7⟩
    have HF7 := Lib.hid (HF6.out.turn hN7 hT7)
    have K7 := Lib.hid (hT7.blk K6.out K6.out.lt (by have := HF5.out.big; have := HF5.out.2.2.2; omega))
    clear hN7 hT7 HF6 HC2 K6
    go_wp2_with (first | (refine wpList_var rfl rfl 31 19 rfl rfl rfl (.tmp 69) rfl (zb 16) (dc r2) dg_zero rfl rfl (dd_len _) (dd_size _) (dc_one _) ?_; intro w8 K8 D8; have HF8 := Lib.hid (HF7.out.next D8.out); have K78 := Lib.hid (K7.out.next D8.out); clear D8) | (refine wpList_loadB rfl (.tmp 18) rfl w5.heap.size r1 rfl K78.out ?_) | (refine wpList_loadB rfl (.tmp 19) rfl w7.heap.size r2 rfl K8.out ?_))
    refine (node_any r1 r2 w8 (HG.out.next HF8.out.1.1)).mono ?_
    rintro e w9 ⟨rfl, hb9⟩
    have HF9 := Lib.hid (HF8.out.next hb9)
    rw [HDD.out]
    clear hb9 HF8 K78 K8
    go_wp2_with (refine wpList_store_all rfl _ (.tmp 10) (.tmp 72) rfl w.heap.size _ (zb 16) (dc d) rfl rfl HF9.out.2.2.1 (dd_len _) (dd_size _) (dc_one _) ?_; intro wa hka hoa; have HZ := Lib.hid (HF9.out.set hka.out hoa); clear hka hoa HF9)
    exact bodyPost_ret (results_blk rfl _ _ w.heap.size _ (dc d) _ rfl HZ.out.2.2.1 dg_under rfl (dd_size _)) rfl ⟨rfl, HZ.out.1, HZ.out.2.1⟩

theorem is_flat (W : World) : (isAgg 37).run Tryd.prog W = .ok false W := by kernel_rfl
theorem exec_loadV {oi : Oper} {a : Act} {w : World} {g : Nat} {v : Value} (ty : TypeId) (hag : ∀ W, (isAgg ty).run Tryd.prog W = .ok false W) {T : TypeId} (x : Operand) (ho : oi.op = .load ty x) (hx : a.eval x = .pointer (some ⟨g, 0, none⟩)) (h : Blk w g T [v]) : (execOp a.eval oi).run Tryd.prog w = .ok (.value v) w :=
  exec_load ty x ho _ _ hx (run_load_var _ hag h)

set_option maxRecDepth 100000 in
set_option maxHeartbeats 1000000 in
theorem chkM_any (w0 : World) (hg0 : Glob w0) (A : Option Addr) (c : Nat) (path : List Dg) (hr : RdD w0 A path) (root : Dg) (n : Nat) (ps : List Int) (fs : List Dg) (A2 : Option Addr) (c2 : Nat) (A3 : Option Addr) (c3 : Nat) (p1 p2 p3 p4 : Nat) (k1 : Blk w0 p1 3 [.int .i64 n]) (k2 : Blk w0 p2 37 [.slice A2 ps.length c2]) (k3 : Blk w0 p3 22 [.slice A3 fs.length c3]) (k4 : Blk w0 p4 31 (dc root))
    (hn : n ≤ 2 ^ 41) (hfp : fs.length = ps.length) (hc2 : ps.length ≤ c2) (hn2 : ps.length ≤ 2 ^ 41) (hc3 : fs.length ≤ c3) (hi : RdI w0 A2 ps) (hr3 : RdD w0 A3 fs) (hs : ps.Pairwise (· < ·)) (w : World) (hS : StN w0 A c path 0 w) :
    Calls Tryd.prog 48 #[nextF w0.heap.size, .pointer (some ⟨p1, 0, none⟩), .pointer (some ⟨p2, 0, none⟩), .pointer (some ⟨p3, 0, none⟩), .pointer (some ⟨p4, 0, none⟩)] w fun e w' => e = .returned (.bool (dgEq (wlkD 0 n ps fs 0 path).1 root)) ∧ StN w0 A c path (wlkD 0 n ps fs 0 path).2 w' := by
  have HC := Lib.hid (fun w => mw_any w0 hg0 A c path hr n 0 n ps fs 0 A2 c2 A3 c3 w (Nat.le_refl _) hn (by omega) hfp hc2 hn2 hc3 hi hr3 hs (by omega) (by omega))
  have HS := Lib.hid hS
  have K1 := Lib.hid k1
  have K2 := Lib.hid k2
  have K3 := Lib.hid k3
  have K4 := Lib.hid k4
  clear hS k1 k2 k3 k4 hr hg0 hi hr3 hs
  obtain ⟨⟨r, u⟩, hR⟩ : ∃ R, wlkD 0 n ps fs 0 path = R := ⟨_, rfl⟩
  rw [hR] at HC ⊢
  clear hR
  unfold nextF
  go_enter Tryd.func48, Tryd.ntmps48
  go_wp2_with fail
  have hN := HS.out.drew
  refine wp_region_held_drew (S := fun W => Below w0.heap.size w0 W) (by kernel_rfl) HS.out.drew.1 (fun hS4 => ?_)
  generalize w.drew = w4 at hS4 hN ⊢
  refine reg_takeG (i := 0) (some 7) rfl rfl rfl (by kernel_rfl) (by kernel_rfl) (by kernel_rfl) (.int .i64 n) (fun _ _ _ h => h) (fun W hW => exec_loadI (.tmp 1) rfl rfl (K1.out.next hW)) hS4 ?_
  go_frame
  refine reg_takeG (i := 1) (some 8) rfl rfl rfl (by kernel_rfl) (by kernel_rfl) (by kernel_rfl) (.slice A2 ps.length c2) (fun _ _ _ h => h) (fun W hW => exec_loadV 37 is_flat (.tmp 2) rfl rfl (K2.out.next hW)) hS4 ?_
  go_frame
  refine reg_takeG (i := 2) (some 9) rfl rfl rfl (by kernel_rfl) (by kernel_rfl) (by kernel_rfl) (.slice A3 fs.length c3) (fun _ _ _ h => h) (fun W hW => exec_loadV 22 ds_flat (.tmp 3) rfl rfl (K3.out.next hW)) hS4 ?_
  go_frame
  refine reg_takeG (i := 3) (some 10) rfl rfl rfl (by kernel_rfl) (by kernel_rfl) (by kernel_rfl) (nextF w0.heap.size) (fun _ _ _ h => h) (fun W hW => exec_move (.tmp 0) rfl _ rfl) hS4 ?_
  go_frame
  refine reg_takeG (i := 5) (some 12) rfl rfl rfl (by kernel_rfl) (by kernel_rfl) (by kernel_rfl) (dv root) (fun _ _ _ h => h) (fun W hW => exec_loadB (.tmp 4) rfl rfl (K4.out.next hW)) hS4 ?_
  go_frame
  refine reg_callG (i := 4) (some 11) rfl rfl rfl (by kernel_rfl) rfl Tryd.func49 (by kernel_rfl) (by kernel_rfl) #[.int .i64 0, .int .i64 n, .slice A2 ps.length c2, .slice A3 fs.length c3, nextF w0.heap.size] rfl (HC.out w4 hN) ?_
  rintro e w5 ⟨rfl, hN5, hT5⟩
  refine ⟨_, rfl, hN5.1, ?_⟩
  go_frame
  refine reg_valueG (i := 6) (some 13) rfl rfl rfl (by kernel_rfl) (.bool (dgEq r root)) (exec_eqD (.tmp 11) (.tmp 12) _ rfl r root rfl rfl) hN5.1 ?_
  go_frame
  refine reg_valueG (i := 7) (some 6) rfl rfl rfl (by kernel_rfl) (.bool (dgEq r root)) (exec_assign (.tmp 13) rfl _ rfl) hN5.1 ?_
  go_frame
  refine wpAnyH_done (by kernel_rfl) ?_ _
  have HF := Lib.hid hN5
  clear hN hS4 hN5 hT5 HS HC K1 K2 K3 K4
  obtain ⟨z, hz⟩ : ∃ z, dgEq r root = z := ⟨_, rfl⟩
  rw [hz]
  have HZ := Lib.hid hz
  clear hz
  go_wp2
  go_ret
  exact ⟨by rw [HZ.out]; rfl, HF.out⟩

set_option maxRecDepth 100000 in
set_option maxHeartbeats 1000000 in
theorem cm_range (n : Int) (root : Dg) (ps : List Int) (fs : List Dg) (A2 : Option Addr) (c2 : Nat) (A3 : Option Addr) (c3 : Nat) (P : Value) (w : World) (h : n < 0 ∨ 1099511627776 < n) :
    Calls Tryd.prog 23 #[.int .i64 n, .slice A2 ps.length c2, .slice A3 fs.length c3, P, dv root] w fun e w' => e = .returned (.bool false) ∧ Below w.heap.size w w' := by
  have hb := Lib.hid (((((Below.refl w.heap.size w).alloc (Nat.le_refl _) (.cells #[.int .i64 n] 3)).alloc (by simp) (.cells #[.slice A2 ps.length c2] 37)).alloc (by simp; omega) (.cells #[.slice A3 fs.length c3] 22)).alloc (by simp; omega) (.cells (dc root).toArray 31))
  unfold dv
  by_cases h0 : n < 0
  · have d0 : decide (n < 0) = true := decide_eq_true h0
    clear h
    go_enter Tryd.func23, Tryd.ntmps23
    go_wp2_with fail
    go_ret
    exact ⟨rfl, hb.out⟩
  · have d0 : decide (n < 0) = false := decide_eq_false h0
    have d2 : decide (1099511627776 < n) = true := decide_eq_true (by omega)
    clear h
    go_enter Tryd.func23, Tryd.ntmps23
    go_wp2_with fail
    go_ret
    exact ⟨rfl, hb.out⟩

set_option maxRecDepth 100000 in
set_option maxHeartbeats 1000000 in
theorem cm_bad (n : Nat) (root : Dg) (ps : List Int) (fs : List Dg) (A2 : Option Addr) (c2 : Nat) (A3 : Option Addr) (c3 : Nat) (P : Value) (w : World) (hn : n ≤ 1099511627776) (hi : RdI w A2 ps) (hn2 : ps.length ≤ 2 ^ 41) (h : ascF n (-1) ps = false ∨ fs.length ≠ ps.length) :
    Calls Tryd.prog 23 #[.int .i64 n, .slice A2 ps.length c2, .slice A3 fs.length c3, P, dv root] w fun e w' => e = .returned (.bool false) ∧ Below w.heap.size w w' := by
  have hb := ((((Below.refl w.heap.size w).alloc (Nat.le_refl _) (.cells #[.int .i64 n] 3)).alloc (by simp) (.cells #[.slice A2 ps.length c2] 37)).alloc (by simp; omega) (.cells #[.slice A3 fs.length c3] 22)).alloc (by simp; omega) (.cells (dc root).toArray 31)
  have HA := asc_any A2 c2 ps n _ (hi.below hb) hn2
  have HB := Lib.hid hb
  have d0 : decide ((n : Int) < 0) = false := decide_eq_false (by omega)
  have d2 : decide ((1099511627776 : Int) < (n : Int)) = false := decide_eq_false (by omega)
  unfold dv
  cases hz : ascF n (-1) ps
  · rw [hz] at HA
    have HA := Lib.hid HA
    clear hi hb h hz
    go_enter Tryd.func23, Tryd.ntmps23
    go_wp2_with fail
    refine HA.out.mono ?_
    rintro e w1 ⟨rfl, hw⟩
    have HB := Lib.hid (show Below w.heap.size w w1 from hw ▸ HB.out)
    clear hw
    go_wp2
    go_ret
    exact ⟨rfl, HB.out⟩
  · rw [hz] at HA
    have HA := Lib.hid HA
    have hne : fs.length ≠ ps.length := by rcases h with h | h; · rw [h] at hz; cases hz
                                           · exact h
    have d3 : ((fs.length : Int) != (ps.length : Int)) = true := by rw [bne_iff_ne]; omega
    have d4 : (fs.length != ps.length) = true := by rw [bne_iff_ne]; exact hne
    clear hi hb h hz hne
    go_enter Tryd.func23, Tryd.ntmps23
    go_wp2_with fail
    refine HA.out.mono ?_
    rintro e w1 ⟨rfl, hw⟩
    obtain rfl := hw
    go_wp2
    go_ret
    exact ⟨rfl, HB.out⟩

set_option maxRecDepth 100000 in
set_option maxHeartbeats 1000000 in
theorem cm_any (n : Nat) (root : Dg) (ps : List Int) (fs : List Dg) (A2 : Option Addr) (c2 : Nat) (A3 : Option Addr) (c3 : Nat) (A : Option Addr) (c : Nat) (path : List Dg) (w : World) (hg : Glob w) (hr : RdD w A path) (hn : n ≤ 1099511627776) (hasc : ascF n (-1) ps = true) (hfp : fs.length = ps.length) (hc2 : ps.length ≤ c2) (hn2 : ps.length ≤ 2 ^ 41) (hc3 : fs.length ≤ c3) (hi : RdI w A2 ps) (hr3 : RdD w A3 fs) :
    Calls Tryd.prog 23 #[.int .i64 n, .slice A2 ps.length c2, .slice A3 fs.length c3, .slice A path.length c, dv root] w fun e w' => e = .returned (.bool (dgEq (wlkD 0 n ps fs 0 path).1 root && decide ((wlkD 0 n ps fs 0 path).2 = path.length))) ∧ Below w.heap.size w w' := by
  have hmf : ∀ (fn : Fn) (first cap : Array Value) (w : World), (Instr.makeFunc fn first cap).run Tryd.prog w = .ok (.func fn first cap) w := fun _ _ _ _ => rfl
  have hb := ((((Below.refl w.heap.size w).alloc (Nat.le_refl _) (.cells #[.int .i64 n] 3)).alloc (by simp) (.cells #[.slice A2 ps.length c2] 37)).alloc (by simp; omega) (.cells #[.slice A3 fs.length c3] 22)).alloc (by simp; omega) (.cells (dc root).toArray 31)
  have k1 : Blk ((((w.alloc (.cells #[.int .i64 n] 3)).alloc (.cells #[.slice A2 ps.length c2] 37)).alloc (.cells #[.slice A3 fs.length c3] 22)).alloc (.cells (dc root).toArray 31)) w.heap.size 3 [.int .i64 n] := (((Blk.new w 3 [.int .i64 n]).alloc _).alloc _).alloc _
  have k2 : Blk ((((w.alloc (.cells #[.int .i64 n] 3)).alloc (.cells #[.slice A2 ps.length c2] 37)).alloc (.cells #[.slice A3 fs.length c3] 22)).alloc (.cells (dc root).toArray 31)) (w.alloc (.cells #[.int .i64 n] 3)).heap.size 37 [.slice A2 ps.length c2] := ((Blk.new (w.alloc (.cells #[.int .i64 n] 3)) 37 [.slice A2 ps.length c2]).alloc _).alloc _
  have k3 : Blk ((((w.alloc (.cells #[.int .i64 n] 3)).alloc (.cells #[.slice A2 ps.length c2] 37)).alloc (.cells #[.slice A3 fs.length c3] 22)).alloc (.cells (dc root).toArray 31)) ((w.alloc (.cells #[.int .i64 n] 3)).alloc (.cells #[.slice A2 ps.length c2] 37)).heap.size 22 [.slice A3 fs.length c3] := (Blk.new ((w.alloc (.cells #[.int .i64 n] 3)).alloc (.cells #[.slice A2 ps.length c2] 37)) 22 [.slice A3 fs.length c3]).alloc _
  have k4 := Blk.new (((w.alloc (.cells #[.int .i64 n] 3)).alloc (.cells #[.slice A2 ps.length c2] 37)).alloc (.cells #[.slice A3 fs.length c3] 22)) 31 (dc root)
  rw [size_alloc] at k2
  rw [size_alloc, size_alloc] at k3
  rw [size_alloc, size_alloc, size_alloc] at k4
  have hs := (ascF_sorted _ _ _ hasc).2
  have HA := asc_any A2 c2 ps n _ (hi.below hb) hn2
  rw [hasc] at HA
  have HA := Lib.hid HA
  have hcall := follow_any _ 48 _ Tryd.func48 (by kernel_rfl) (by kernel_rfl) #[.pointer (some ⟨w.heap.size, 0, none⟩), .pointer (some ⟨w.heap.size + 1, 0, none⟩), .pointer (some ⟨w.heap.size + 1 + 1, 0, none⟩), .pointer (some ⟨w.heap.size + 1 + 1 + 1, 0, none⟩)] A c path (dgEq (wlkD 0 n ps fs 0 path).1 root) (wlkD 0 n ps fs 0 path).2
    (fun W hW => chkM_any _ (hg.next hb) A c path (hr.below hb) root n ps fs A2 c2 A3 c3 _ _ _ _ k1 k2 k3 k4 (by omega) hfp hc2 hn2 hc3 (hi.below hb) (hr3.below hb) hs W hW)
  obtain ⟨⟨r, u⟩, hR⟩ : ∃ R, wlkD 0 n ps fs 0 path = R := ⟨_, rfl⟩
  rw [hR] at hcall ⊢
  have HC := Lib.hid hcall
  have HB := Lib.hid hb
  have d0 : decide ((n : Int) < 0) = false := decide_eq_false (by omega)
  have d2 : decide ((1099511627776 : Int) < (n : Int)) = false := decide_eq_false (by omega)
  have d3 : ((fs.length : Int) != (ps.length : Int)) = false := by rw [hfp]; simp
  have d4 : (fs.length != ps.length) = false := by rw [hfp]; simp
  clear k1 k2 k3 k4 hcall hb hr hg hR hi hr3 hasc hs hfp
  unfold dv
  go_enter Tryd.func23, Tryd.ntmps23
  go_wp2_with fail
  refine HA.out.mono ?_
  rintro e w1 ⟨rfl, hw⟩
  obtain rfl := hw
  go_wp2_with fail
  refine HC.out.mono ?_
  rintro e w5 ⟨rfl, hb5⟩
  have HF := Lib.hid (HB.out.trans (hb5.mono HB.out.size))
  clear hb5 HC HB
  obtain ⟨z, hz⟩ : ∃ z, (dgEq r root && decide (u = path.length)) = z := ⟨_, rfl⟩
  simp only [hz]
  have HZ := Lib.hid hz
  clear hz
  go_wp2
  go_ret
  exact ⟨by rw [← HZ.out]; rfl, HF.out⟩
end Go.Proofs.YtfbemmeonkceiaaDoor
